/- Rows of sites of one's own; sites in new blocks. -/
import Derived.Test.YtpgdbhafdnfhcaaSs
import Derived.Test.YtpgdbhafdnfhcaaMf
import Derived.Test.YtpgdbhafdnfhcaaDrHl
import Derived.Lib.AppendZeros
namespace Go.Proofs.Ytpgdbhafdnfhcaa
open Go.RowKit
set_option linter.unusedVariables false

/-- Reports in a block that is new since w. -/
def FrS (w w' : World) (a : Option Addr) (ys : List R3) : Prop := ys = [] ∨ ∃ g, a = some ⟨g, 0, none⟩ ∧ w.heap.size ≤ g ∧ g < w'.heap.size ∧ WrS w' g ys
theorem FrS.ss {w w' : World} {a : Option Addr} {ys : List R3} (h : FrS w w' a ys) : Ss w' a ys := by
  rcases h with h | ⟨g, rfl, _, _, h⟩
  · exact .inl h
  · exact h.ss
theorem FrS.keep {w w' w'' : World} {a : Option Addr} {ys : List R3} (h : FrS w w' a ys) (k : Keep w' w'') : FrS w w'' a ys := by
  rcases h with h | ⟨g, ha, hg, hl, h⟩
  · exact .inl h
  · exact .inr ⟨g, ha, hg, Nat.lt_of_lt_of_le hl k.size, h.keep k⟩
theorem flatS_len : ∀ rs : List R3, (flatS rs).length = rs.length * 3
  | [] => rfl
  | r :: rs => by
    have h := flatS_len rs
    unfold flatS at *
    rw [List.flatMap_cons, List.length_append, h]
    simp [tc]; omega
theorem flatS_app (rs qs : List R3) : flatS (rs ++ qs) = flatS rs ++ flatS qs := by simp [flatS]
theorem flatS_one (r : R3) : flatS [r] = tc r := by simp [flatS]
theorem flatS_at : ∀ (rs : List R3) (i t : Nat), i < rs.length → t < 3 → (flatS rs)[i * 3 + t]? = (tc (rs.getD i t0))[t]?
  | [], _, _, h, _ => by cases h
  | r :: rs, 0, t, _, ht => by
    have e : flatS (r :: rs) = tc r ++ flatS rs := by simp [flatS]
    rw [e, List.getElem?_append_left (by simp [tc]; omega)]
    simp
  | r :: rs, i + 1, t, h, ht => by
    have e : flatS (r :: rs) = tc r ++ flatS rs := by simp [flatS]
    have h1 : i < rs.length := by simpa using h
    rw [e, List.getElem?_append_right (by simp [tc]; omega)]
    have e2 : (i + 1) * 3 + t - (tc r).length = i * 3 + t := by simp [tc]; omega
    rw [e2, flatS_at rs i t h1 ht]
    simp
theorem at3_of {w : World} {b o : Nat} {r : R3} (h : ∀ t, t < 3 → w.cell? ⟨b, o + t, none⟩ = (tc r)[t]?) : At3 w b o r :=
  ⟨(h 0 (by omega)).trans rfl, (h 1 (by omega)).trans rfl, (h 2 (by omega)).trans rfl⟩
theorem At3.tc_at {w : World} {b o : Nat} {r : R3} (h : At3 w b o r) (t : Nat) (ht : t < 3) : w.cell? ⟨b, o + t, none⟩ = (tc r)[t]? := by
  have h4 : t = 0 ∨ t = 1 ∨ t = 2 := by omega
  rcases h4 with rfl | rfl | rfl
  · exact h.s
  · exact h.d
  · exact h.k
/-- The cells of a slice of reports, to be appended. -/
theorem news_ss {w : World} {b off : Nat} {rs : List R3} (h : Ss w (some ⟨b, off, none⟩) rs) : ∀ j u, (flatS rs)[j]? = some u → w.cell? ((⟨b, off, none⟩ : Addr).add j) = some u := by
  intro j u hj
  have hl : j < rs.length * 3 := by
    rw [← flatS_len]
    exact (List.getElem?_eq_some_iff.1 hj).1
  rcases h with h | ⟨b', off', he, _, h⟩
  · subst h; simp [flatS] at hj
  · simp only [Option.some.injEq, Addr.mk.injEq, and_true] at he
    obtain ⟨rfl, rfl⟩ := he
    have e : j = j / 3 * 3 + j % 3 := by omega
    rw [e, flatS_at rs _ _ (by omega) (by omega)] at hj
    have h1 := (h (j / 3) (by omega)).tc_at (j % 3) (by omega)
    rw [hj] at h1
    have e2 : (⟨b, off, none⟩ : Addr).add j = ⟨b, off + j, none⟩ := Addr.add_lit b off j
    have e3 : off + j = off + j / 3 * 3 + j % 3 := by omega
    rw [e2, e3]; exact h1
theorem newsS_one {w : World} {b1 : Nat} {r : R3} (h : At3 w b1 0 r) : ∀ j u, (tc r)[j]? = some u → w.cell? ((⟨b1, 0, none⟩ : Addr).add j) = some u := by
  have hR : Ss w (some ⟨b1, 0, none⟩) [r] := .inr ⟨b1, 0, rfl, World.block_lt_of_cell? w _ h.s, fun i hi => by
    obtain rfl : i = 0 := by simpa using hi
    exact h⟩
  have h2 := news_ss hR
  rw [flatS_one] at h2
  exact h2
theorem tc_one (r : R3) : ∀ u ∈ tc r, u.oneCell' = true := by
  intro u hu
  simp only [tc, List.mem_cons, List.not_mem_nil, or_false] at hu
  obtain rfl | rfl | rfl := hu <;> rfl
theorem flatS_cells {rs : List R3} : ∀ u ∈ flatS rs, u.oneCell' = true := by
  intro u hu
  simp only [flatS, List.mem_flatMap, tc, List.mem_cons, List.not_mem_nil, or_false] at hu
  obtain ⟨r, _, rfl | rfl | rfl⟩ := hu <;> rfl
theorem own_capS {w : World} {base e size g n c : Nat} {xs : List Value} (h : w.ownsRow base e size (.slice (some ⟨g, 0, none⟩) n c) n xs) : n ≤ c := by
  rcases h.2 with ⟨h', _⟩ | ⟨g', cap', cur, h', _, _, h2, _⟩
  · simp at h'
  · simp only [Value.slice.injEq, Option.some.injEq, Addr.mk.injEq, and_true, true_and] at h'
    obtain ⟨rfl, rfl⟩ := h'
    exact h2
/-- What a row of one's own holds may be written. -/
theorem wrS_own {w : World} {base g n c : Nat} {ys : List R3} (h : w.ownsRow base 62 3 (.slice (some ⟨g, 0, none⟩) n c) n (flatS ys)) (hn : n = ys.length) : WrS w g ys := by
  subst hn
  intro j hj
  refine ⟨at3_of fun t ht => ?_, ⟨World.ownsRow.frozenAt h _, World.ownsRow.frozenAt h _, World.ownsRow.frozenAt h _⟩⟩
  rw [World.ownsRow.cellAt h _ (by omega), flatS_at ys j t hj ht]

theorem Ss.below {B : Nat} {w w' : World} {a : Option Addr} {rs : List R3} (h : Ss w a rs) (hl : Lo B a rs.length) (hb : Below B w w') : Ss w' a rs := by
  rcases h with h | ⟨b, off, ha, hlt, hc⟩
  · exact .inl h
  · rcases hl with hl | hl
    · exact .inl (List.eq_nil_of_length_eq_zero hl)
    · exact .inr ⟨b, off, ha, Nat.lt_of_lt_of_le hlt hb.size, fun i hi => (hc i hi).same fun j => hb.cell (p := ⟨b, j, none⟩) (hl b off ha)⟩
theorem Ss.lo {w : World} {a : Option Addr} {rs : List R3} (h : Ss w a rs) : Lo w.heap.size a rs.length := by
  rcases h with h | ⟨b, off, ha, hlt, hc⟩
  · left; rw [h]; rfl
  · right; intro b' o' hb'; rw [ha] at hb'; injection hb' with hb'; injection hb' with hb' _ _; omega
theorem Ss.onlyLo {B : Nat} {w w' : World} {a : Option Addr} {rs : List R3} (h : Ss w a rs) (hl : Lo B a rs.length) (ho : Only B w w') : Ss w' a rs := by
  rcases h with h | ⟨b, off, ha, hlt, hc⟩
  · exact .inl h
  · rcases hl with hl | hl
    · exact .inl (List.eq_nil_of_length_eq_zero hl)
    · have hne : b < B := hl b off ha
      exact .inr ⟨b, off, ha, Nat.lt_of_lt_of_le hlt ho.size, fun i hi => (hc i hi).same fun j => ho.cell b j hlt (by omega)⟩
theorem FrS.mono {w0 w w' : World} {a : Option Addr} {ys : List R3} (h : FrS w w' a ys) (hs : w0.heap.size ≤ w.heap.size) : FrS w0 w' a ys := by
  rcases h with h | ⟨g, ha, hg, hl, h⟩
  · exact .inl h
  · exact .inr ⟨g, ha, Nat.le_trans hs hg, hl, h⟩
theorem FrS.only {B : Nat} {w w' w'' : World} {a : Option Addr} {ys : List R3} (h : FrS w w' a ys) (ho : Only B w' w'') (hB : B < w.heap.size) : FrS w w'' a ys := by
  rcases h with h | ⟨g, ha, hg, hl, h⟩
  · exact .inl h
  · refine .inr ⟨g, ha, hg, Nat.lt_of_lt_of_le hl ho.size, fun j hj => ?_⟩
    obtain ⟨h1, h2⟩ := h j hj
    exact ⟨h1.same fun i => ho.cell g i hl (by omega), ⟨(ho.frozen g _ hl (by omega)).trans h2.f0, (ho.frozen g _ hl (by omega)).trans h2.f1, (ho.frozen g _ hl (by omega)).trans h2.f2⟩⟩
theorem FrS.drewN {w w' : World} {a : Option Addr} {ys : List R3} (h : FrS w w' a ys) (n : Nat) : FrS w (w'.drewN n) a ys := h.keep ((Keep.refl w').drewN n)

/-- A slice value that owns the sites ts. -/
def OwnS (w : World) (base : Nat) (v : Value) (ts : List R3) : Prop := w.ownsRow base 62 3 v ts.length (flatS ts)
theorem OwnS.only {w w' : World} {base B : Nat} {v : Value} {ts : List R3} (h : OwnS w base v ts) (ho : Only B w w') (hB : B < base) : OwnS w' base v ts := by
  refine World.ownsRow.kept h ho ?_
  cases hv : v.ownBlock with
  | none => left; rfl
  | some k => right; have := h.lt k hv; intro e; injection e with e; omega
theorem OwnS.keep {w w' : World} {base : Nat} {v : Value} {ts : List R3} (h : OwnS w base v ts) (k : Keep w w') : OwnS w' base v ts := by
  refine World.ownsRow.kept h (⟨Below.os k, Below.tape k, Below.output k, Below.size k, fun i hi _ => Below.block k i hi⟩ : w.grownBy w' none) ?_
  cases hv : v.ownBlock with
  | none => left; rfl
  | some k => right; simp
theorem OwnS.form {w : World} {base : Nat} {v : Value} {ts : List R3} (h : OwnS w base v ts) (h0 : 0 < ts.length) :
    ∃ g c, v = .slice (some ⟨g, 0, none⟩) ts.length c ∧ ts.length ≤ c ∧ base ≤ g ∧ g < w.heap.size ∧ WrS w g ts := by
  obtain ⟨g, c, hv, hb, hl⟩ := World.ownsRow.form h h0
  subst hv
  exact ⟨g, c, rfl, own_capS h, hb, hl, wrS_own h rfl⟩
theorem OwnS.slice {w : World} {base : Nat} {v : Value} {ts : List R3} (h : OwnS w base v ts) : ∃ a c, v = .slice a ts.length c ∧ ts.length ≤ c ∧ Ss w a ts := by
  rcases Nat.eq_zero_or_pos ts.length with h0 | h0
  · rcases id h.2 with ⟨hv, _⟩ | ⟨g, cap, cur, hv, _⟩
    · exact ⟨none, 0, by rw [hv, h0], by omega, .inl (List.eq_nil_of_length_eq_zero h0)⟩
    · exact ⟨_, _, hv, by omega, .inl (List.eq_nil_of_length_eq_zero h0)⟩
  · obtain ⟨g, c, hv, hc, _, _, hW⟩ := h.form h0
    exact ⟨_, c, hv, hc, hW.ss⟩
theorem OwnS.made (w : World) : OwnS (w.alloc (.cells #[] 62)) w.heap.size (.slice (some ⟨w.heap.size, 0, none⟩) 0 0) [] :=
  World.ownsRow_made w #[] 0 (Nat.le_refl _) (by unfold maxLen; omega) rfl
end Go.Proofs.Ytpgdbhafdnfhcaa
