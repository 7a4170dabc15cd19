/- Rows of ranges of one's own; ranges in new blocks. -/
import Derived.Test.YtohoeonfoolpdaaDoorUr
import Derived.Test.YtohoeonfoolpdaaDoorMf
import Derived.Test.YtohoeonfoolpdaaDoorDrHl
import Derived.Lib.AppendZeros
import Derived.LoopTactic
namespace Go.Proofs.YtohoeonfoolpdaaDoor
open Go.RowKit
set_option linter.unusedVariables false

/-- Reports in a block that is new since w. -/
def FrU (w w' : World) (a : Option Addr) (ys : List R2) : Prop := ys = [] ∨ ∃ g, a = some ⟨g, 0, none⟩ ∧ w.heap.size ≤ g ∧ g < w'.heap.size ∧ WrU w' g ys
theorem FrU.rr {w w' : World} {a : Option Addr} {ys : List R2} (h : FrU w w' a ys) : Rr w' a ys := by
  rcases h with h | ⟨g, rfl, _, _, h⟩
  · exact .inl h
  · exact h.rr
theorem FrU.keep {w w' w'' : World} {a : Option Addr} {ys : List R2} (h : FrU w w' a ys) (k : Keep w' w'') : FrU w w'' a ys := by
  rcases h with h | ⟨g, ha, hg, hl, h⟩
  · exact .inl h
  · exact .inr ⟨g, ha, hg, Nat.lt_of_lt_of_le hl k.size, h.keep k⟩
theorem flatU_len : ∀ rs : List R2, (flatU rs).length = rs.length * 2
  | [] => rfl
  | r :: rs => by
    have h := flatU_len rs
    unfold flatU at *
    rw [List.flatMap_cons, List.length_append, h]
    simp [uc]; omega
theorem flatU_app (rs qs : List R2) : flatU (rs ++ qs) = flatU rs ++ flatU qs := by simp [flatU]
theorem flatU_one (r : R2) : flatU [r] = uc r := by simp [flatU]
theorem flatU_at : ∀ (rs : List R2) (i t : Nat), i < rs.length → t < 2 → (flatU rs)[i * 2 + t]? = (uc (rs.getD i u0))[t]?
  | [], _, _, h, _ => by cases h
  | r :: rs, 0, t, _, ht => by
    have e : flatU (r :: rs) = uc r ++ flatU rs := by simp [flatU]
    rw [e, List.getElem?_append_left (by simp [uc]; omega)]
    simp
  | r :: rs, i + 1, t, h, ht => by
    have e : flatU (r :: rs) = uc r ++ flatU rs := by simp [flatU]
    have h1 : i < rs.length := by simpa using h
    rw [e, List.getElem?_append_right (by simp [uc]; omega)]
    have e2 : (i + 1) * 2 + t - (uc r).length = i * 2 + t := by simp [uc]; omega
    rw [e2, flatU_at rs i t h1 ht]
    simp
theorem at2_of {w : World} {b o : Nat} {r : R2} (h : ∀ t, t < 2 → w.cell? ⟨b, o + t, none⟩ = (uc r)[t]?) : At2 w b o r :=
  ⟨(h 0 (by omega)).trans rfl, (h 1 (by omega)).trans rfl⟩
theorem At2.uc_at {w : World} {b o : Nat} {r : R2} (h : At2 w b o r) (t : Nat) (ht : t < 2) : w.cell? ⟨b, o + t, none⟩ = (uc r)[t]? := by
  have h4 : t = 0 ∨ t = 1 := by omega
  rcases h4 with rfl | rfl
  · exact h.s
  · exact h.d
/-- The cells of a slice of reports, to be appended. -/
theorem news_rr {w : World} {b off : Nat} {rs : List R2} (h : Rr w (some ⟨b, off, none⟩) rs) : ∀ j u, (flatU rs)[j]? = some u → w.cell? ((⟨b, off, none⟩ : Addr).add j) = some u := by
  intro j u hj
  have hl : j < rs.length * 2 := by
    rw [← flatU_len]
    exact (List.getElem?_eq_some_iff.1 hj).1
  rcases h with h | ⟨b', off', he, _, h⟩
  · subst h; simp [flatU] at hj
  · simp only [Option.some.injEq, Addr.mk.injEq, and_true] at he
    obtain ⟨rfl, rfl⟩ := he
    have e : j = j / 2 * 2 + j % 2 := by omega
    rw [e, flatU_at rs _ _ (by omega) (by omega)] at hj
    have h1 := (h (j / 2) (by omega)).uc_at (j % 2) (by omega)
    rw [hj] at h1
    have e2 : (⟨b, off, none⟩ : Addr).add j = ⟨b, off + j, none⟩ := Addr.add_lit b off j
    have e3 : off + j = off + j / 2 * 2 + j % 2 := by omega
    rw [e2, e3]; exact h1
theorem newsU_one {w : World} {b1 : Nat} {r : R2} (h : At2 w b1 0 r) : ∀ j u, (uc r)[j]? = some u → w.cell? ((⟨b1, 0, none⟩ : Addr).add j) = some u := by
  have hR : Rr w (some ⟨b1, 0, none⟩) [r] := .inr ⟨b1, 0, rfl, World.block_lt_of_cell? w _ h.s, fun i hi => by
    obtain rfl : i = 0 := by simpa using hi
    exact h⟩
  have h2 := news_rr hR
  rw [flatU_one] at h2
  exact h2
theorem uc_one (r : R2) : ∀ u ∈ uc r, u.oneCell' = true := by
  intro u hu
  simp only [uc, List.mem_cons, List.not_mem_nil, or_false] at hu
  obtain rfl | rfl := hu <;> rfl
theorem flatU_cells {rs : List R2} : ∀ u ∈ flatU rs, u.oneCell' = true := by
  intro u hu
  simp only [flatU, List.mem_flatMap, uc, List.mem_cons, List.not_mem_nil, or_false] at hu
  obtain ⟨r, _, rfl | rfl⟩ := hu <;> rfl
theorem own_capU {w : World} {base e size g n c : Nat} {xs : List Value} (h : w.ownsRow base e size (.slice (some ⟨g, 0, none⟩) n c) n xs) : n ≤ c := by
  rcases h.2 with ⟨h', _⟩ | ⟨g', cap', cur, h', _, _, h2, _⟩
  · simp at h'
  · simp only [Value.slice.injEq, Option.some.injEq, Addr.mk.injEq, and_true, true_and] at h'
    obtain ⟨rfl, rfl⟩ := h'
    exact h2
/-- What a row of one's own holds may be written. -/
theorem wrU_own {w : World} {base g n c : Nat} {ys : List R2} (h : w.ownsRow base 31 2 (.slice (some ⟨g, 0, none⟩) n c) n (flatU ys)) (hn : n = ys.length) : WrU w g ys := by
  subst hn
  intro j hj
  refine ⟨at2_of fun t ht => ?_, ⟨World.ownsRow.frozenAt h _, World.ownsRow.frozenAt h _⟩⟩
  rw [World.ownsRow.cellAt h _ (by omega), flatU_at ys j t hj ht]

theorem Rr.below {B : Nat} {w w' : World} {a : Option Addr} {rs : List R2} (h : Rr w a rs) (hl : Lo B a rs.length) (hb : Below B w w') : Rr w' a rs := by
  rcases h with h | ⟨b, off, ha, hlt, hc⟩
  · exact .inl h
  · rcases hl with hl | hl
    · exact .inl (List.eq_nil_of_length_eq_zero hl)
    · exact .inr ⟨b, off, ha, Nat.lt_of_lt_of_le hlt hb.size, fun i hi => (hc i hi).same fun j => hb.cell (p := ⟨b, j, none⟩) (hl b off ha)⟩
theorem Rr.lo {w : World} {a : Option Addr} {rs : List R2} (h : Rr w a rs) : Lo w.heap.size a rs.length := by
  rcases h with h | ⟨b, off, ha, hlt, hc⟩
  · left; rw [h]; rfl
  · right; intro b' o' hb'; rw [ha] at hb'; injection hb' with hb'; injection hb' with hb' _ _; omega
theorem Rr.onlyLo {B : Nat} {w w' : World} {a : Option Addr} {rs : List R2} (h : Rr w a rs) (hl : Lo B a rs.length) (ho : Only B w w') : Rr w' a rs := by
  rcases h with h | ⟨b, off, ha, hlt, hc⟩
  · exact .inl h
  · rcases hl with hl | hl
    · exact .inl (List.eq_nil_of_length_eq_zero hl)
    · have hne : b < B := hl b off ha
      exact .inr ⟨b, off, ha, Nat.lt_of_lt_of_le hlt ho.size, fun i hi => (hc i hi).same fun j => ho.cell b j hlt (by omega)⟩
theorem FrU.mono {w0 w w' : World} {a : Option Addr} {ys : List R2} (h : FrU w w' a ys) (hs : w0.heap.size ≤ w.heap.size) : FrU w0 w' a ys := by
  rcases h with h | ⟨g, ha, hg, hl, h⟩
  · exact .inl h
  · exact .inr ⟨g, ha, Nat.le_trans hs hg, hl, h⟩
theorem FrU.only {B : Nat} {w w' w'' : World} {a : Option Addr} {ys : List R2} (h : FrU w w' a ys) (ho : Only B w' w'') (hB : B < w.heap.size) : FrU w w'' a ys := by
  rcases h with h | ⟨g, ha, hg, hl, h⟩
  · exact .inl h
  · refine .inr ⟨g, ha, hg, Nat.lt_of_lt_of_le hl ho.size, fun j hj => ?_⟩
    obtain ⟨h1, h2⟩ := h j hj
    exact ⟨h1.same fun i => ho.cell g i hl (by omega), ⟨(ho.frozen g _ hl (by omega)).trans h2.f0, (ho.frozen g _ hl (by omega)).trans h2.f1⟩⟩
theorem FrU.drewN {w w' : World} {a : Option Addr} {ys : List R2} (h : FrU w w' a ys) (n : Nat) : FrU w (w'.drewN n) a ys := h.keep ((Keep.refl w').drewN n)

/-- A slice value that owns the sites ts. -/
def OwnU (w : World) (base : Nat) (v : Value) (ts : List R2) : Prop := w.ownsRow base 31 2 v ts.length (flatU ts)
theorem OwnU.only {w w' : World} {base B : Nat} {v : Value} {ts : List R2} (h : OwnU w base v ts) (ho : Only B w w') (hB : B < base) : OwnU w' base v ts := by
  refine World.ownsRow.kept h ho ?_
  cases hv : v.ownBlock with
  | none => left; rfl
  | some k => right; have := h.lt k hv; intro e; injection e with e; omega
theorem OwnU.keep {w w' : World} {base : Nat} {v : Value} {ts : List R2} (h : OwnU w base v ts) (k : Keep w w') : OwnU w' base v ts := by
  refine World.ownsRow.kept h (⟨Below.os k, Below.tape k, Below.output k, Below.size k, fun i hi _ => Below.block k i hi⟩ : w.grownBy w' none) ?_
  cases hv : v.ownBlock with
  | none => left; rfl
  | some k => right; simp
theorem OwnU.form {w : World} {base : Nat} {v : Value} {ts : List R2} (h : OwnU w base v ts) (h0 : 0 < ts.length) :
    ∃ g c, v = .slice (some ⟨g, 0, none⟩) ts.length c ∧ ts.length ≤ c ∧ base ≤ g ∧ g < w.heap.size ∧ WrU w g ts := by
  obtain ⟨g, c, hv, hb, hl⟩ := World.ownsRow.form h h0
  subst hv
  exact ⟨g, c, rfl, own_capU h, hb, hl, wrU_own h rfl⟩
theorem OwnU.slice {w : World} {base : Nat} {v : Value} {ts : List R2} (h : OwnU w base v ts) : ∃ a c, v = .slice a ts.length c ∧ ts.length ≤ c ∧ Rr w a ts := by
  rcases Nat.eq_zero_or_pos ts.length with h0 | h0
  · rcases id h.2 with ⟨hv, _⟩ | ⟨g, cap, cur, hv, _⟩
    · exact ⟨none, 0, by rw [hv, h0], by omega, .inl (List.eq_nil_of_length_eq_zero h0)⟩
    · exact ⟨_, _, hv, by omega, .inl (List.eq_nil_of_length_eq_zero h0)⟩
  · obtain ⟨g, c, hv, hc, _, _, hW⟩ := h.form h0
    exact ⟨_, c, hv, hc, hW.rr⟩
theorem OwnU.made (w : World) : OwnU (w.alloc (.cells #[] 31)) w.heap.size (.slice (some ⟨w.heap.size, 0, none⟩) 0 0) [] :=
  World.ownsRow_made w #[] 0 (Nat.le_refl _) (by unfold maxLen; omega) rfl
def mk2 (k : Nat) : R2 := (1 + 2 * (k : Int), 1 + 2 * (k : Int) + 1)
end Go.Proofs.YtohoeonfoolpdaaDoor
