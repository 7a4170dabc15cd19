/- Rows of products of one's own; products in new blocks. -/
import Derived.Test.YtkiibklenpncpaaPs
import Derived.Test.YtkiibklenpncpaaMf
import Derived.Lib.AppendZeros
namespace Go.Proofs.Ytkiibklenpncpaa
open Go.RowKit
set_option linter.unusedVariables false

/-- Reports in a block that is new since w. -/
def FrP (w w' : World) (a : Option Addr) (ys : List R5) : Prop := ys = [] ∨ ∃ g, a = some ⟨g, 0, none⟩ ∧ w.heap.size ≤ g ∧ g < w'.heap.size ∧ WrP w' g ys
theorem FrP.ps {w w' : World} {a : Option Addr} {ys : List R5} (h : FrP w w' a ys) : Ps w' a ys := by
  rcases h with h | ⟨g, rfl, _, _, h⟩
  · exact .inl h
  · exact h.ps
theorem FrP.keep {w w' w'' : World} {a : Option Addr} {ys : List R5} (h : FrP w w' a ys) (k : Keep w' w'') : FrP w w'' a ys := by
  rcases h with h | ⟨g, ha, hg, hl, h⟩
  · exact .inl h
  · exact .inr ⟨g, ha, hg, Nat.lt_of_lt_of_le hl k.size, h.keep k⟩
theorem flatP_len : ∀ rs : List R5, (flatP rs).length = rs.length * 5
  | [] => rfl
  | r :: rs => by
    have h := flatP_len rs
    unfold flatP at *
    rw [List.flatMap_cons, List.length_append, h]
    simp [qc]; omega
theorem flatP_app (rs qs : List R5) : flatP (rs ++ qs) = flatP rs ++ flatP qs := by simp [flatP]
theorem flatP_one (r : R5) : flatP [r] = qc r := by simp [flatP]
theorem flatP_at : ∀ (rs : List R5) (i t : Nat), i < rs.length → t < 5 → (flatP rs)[i * 5 + t]? = (qc (rs.getD i p0))[t]?
  | [], _, _, h, _ => by cases h
  | r :: rs, 0, t, _, ht => by
    have e : flatP (r :: rs) = qc r ++ flatP rs := by simp [flatP]
    rw [e, List.getElem?_append_left (by simp [qc]; omega)]
    simp
  | r :: rs, i + 1, t, h, ht => by
    have e : flatP (r :: rs) = qc r ++ flatP rs := by simp [flatP]
    have h1 : i < rs.length := by simpa using h
    rw [e, List.getElem?_append_right (by simp [qc]; omega)]
    have e2 : (i + 1) * 5 + t - (qc r).length = i * 5 + t := by simp [qc]; omega
    rw [e2, flatP_at rs i t h1 ht]
    simp
theorem at5_of {w : World} {b o : Nat} {r : R5} (h : ∀ t, t < 5 → w.cell? ⟨b, o + t, none⟩ = (qc r)[t]?) : At5 w b o r :=
  ⟨(h 0 (by omega)).trans rfl, (h 1 (by omega)).trans rfl, (h 2 (by omega)).trans rfl, (h 3 (by omega)).trans rfl, (h 4 (by omega)).trans rfl⟩
theorem At5.qc_at {w : World} {b o : Nat} {r : R5} (h : At5 w b o r) (t : Nat) (ht : t < 5) : w.cell? ⟨b, o + t, none⟩ = (qc r)[t]? := by
  have h4 : t = 0 ∨ t = 1 ∨ t = 2 ∨ t = 3 ∨ t = 4 := by omega
  rcases h4 with rfl | rfl | rfl | rfl | rfl
  · exact h.s
  · exact h.d
  · exact h.k
  · exact h.v
  · exact h.g
/-- The cells of a slice of reports, to be appended. -/
theorem news_ps {w : World} {b off : Nat} {rs : List R5} (h : Ps w (some ⟨b, off, none⟩) rs) : ∀ j u, (flatP rs)[j]? = some u → w.cell? ((⟨b, off, none⟩ : Addr).add j) = some u := by
  intro j u hj
  have hl : j < rs.length * 5 := by
    rw [← flatP_len]
    exact (List.getElem?_eq_some_iff.1 hj).1
  rcases h with h | ⟨b', off', he, _, h⟩
  · subst h; simp [flatP] at hj
  · simp only [Option.some.injEq, Addr.mk.injEq, and_true] at he
    obtain ⟨rfl, rfl⟩ := he
    have e : j = j / 5 * 5 + j % 5 := by omega
    rw [e, flatP_at rs _ _ (by omega) (by omega)] at hj
    have h1 := (h (j / 5) (by omega)).qc_at (j % 5) (by omega)
    rw [hj] at h1
    have e2 : (⟨b, off, none⟩ : Addr).add j = ⟨b, off + j, none⟩ := Addr.add_lit b off j
    have e3 : off + j = off + j / 5 * 5 + j % 5 := by omega
    rw [e2, e3]; exact h1
theorem newsP_one {w : World} {b1 : Nat} {r : R5} (h : At5 w b1 0 r) : ∀ j u, (qc r)[j]? = some u → w.cell? ((⟨b1, 0, none⟩ : Addr).add j) = some u := by
  have hR : Ps w (some ⟨b1, 0, none⟩) [r] := .inr ⟨b1, 0, rfl, World.block_lt_of_cell? w _ h.s, fun i hi => by
    obtain rfl : i = 0 := by simpa using hi
    exact h⟩
  have h2 := news_ps hR
  rw [flatP_one] at h2
  exact h2
theorem qc_one (r : R5) : ∀ u ∈ qc r, u.oneCell' = true := by
  intro u hu
  simp only [qc, List.mem_cons, List.not_mem_nil, or_false] at hu
  obtain rfl | rfl | rfl | rfl | rfl := hu <;> rfl
theorem flatP_cells {rs : List R5} : ∀ u ∈ flatP rs, u.oneCell' = true := by
  intro u hu
  simp only [flatP, List.mem_flatMap, qc, List.mem_cons, List.not_mem_nil, or_false] at hu
  obtain ⟨r, _, rfl | rfl | rfl | rfl | rfl⟩ := hu <;> rfl
theorem own_capP {w : World} {base e size g n c : Nat} {xs : List Value} (h : w.ownsRow base e size (.slice (some ⟨g, 0, none⟩) n c) n xs) : n ≤ c := by
  rcases h.2 with ⟨h', _⟩ | ⟨g', cap', cur, h', _, _, h2, _⟩
  · simp at h'
  · simp only [Value.slice.injEq, Option.some.injEq, Addr.mk.injEq, and_true, true_and] at h'
    obtain ⟨rfl, rfl⟩ := h'
    exact h2
/-- What a row of one's own holds may be written. -/
theorem wrP_own {w : World} {base g n c : Nat} {ys : List R5} (h : w.ownsRow base 33 5 (.slice (some ⟨g, 0, none⟩) n c) n (flatP ys)) (hn : n = ys.length) : WrP w g ys := by
  subst hn
  intro j hj
  refine ⟨at5_of fun t ht => ?_, ⟨World.ownsRow.frozenAt h _, World.ownsRow.frozenAt h _, World.ownsRow.frozenAt h _, World.ownsRow.frozenAt h _, World.ownsRow.frozenAt h _⟩⟩
  rw [World.ownsRow.cellAt h _ (by omega), flatP_at ys j t hj ht]

theorem Ps.below {B : Nat} {w w' : World} {a : Option Addr} {rs : List R5} (h : Ps w a rs) (hl : Lo B a rs.length) (hb : Below B w w') : Ps w' a rs := by
  rcases h with h | ⟨b, off, ha, hlt, hc⟩
  · exact .inl h
  · rcases hl with hl | hl
    · exact .inl (List.eq_nil_of_length_eq_zero hl)
    · exact .inr ⟨b, off, ha, Nat.lt_of_lt_of_le hlt hb.size, fun i hi => (hc i hi).same fun j => hb.cell (p := ⟨b, j, none⟩) (hl b off ha)⟩
theorem Ps.lo {w : World} {a : Option Addr} {rs : List R5} (h : Ps w a rs) : Lo w.heap.size a rs.length := by
  rcases h with h | ⟨b, off, ha, hlt, hc⟩
  · left; rw [h]; rfl
  · right; intro b' o' hb'; rw [ha] at hb'; injection hb' with hb'; injection hb' with hb' _ _; omega
theorem Ps.onlyLo {B : Nat} {w w' : World} {a : Option Addr} {rs : List R5} (h : Ps w a rs) (hl : Lo B a rs.length) (ho : Only B w w') : Ps w' a rs := by
  rcases h with h | ⟨b, off, ha, hlt, hc⟩
  · exact .inl h
  · rcases hl with hl | hl
    · exact .inl (List.eq_nil_of_length_eq_zero hl)
    · have hne : b < B := hl b off ha
      exact .inr ⟨b, off, ha, Nat.lt_of_lt_of_le hlt ho.size, fun i hi => (hc i hi).same fun j => ho.cell b j hlt (by omega)⟩
theorem FrP.mono {w0 w w' : World} {a : Option Addr} {ys : List R5} (h : FrP w w' a ys) (hs : w0.heap.size ≤ w.heap.size) : FrP w0 w' a ys := by
  rcases h with h | ⟨g, ha, hg, hl, h⟩
  · exact .inl h
  · exact .inr ⟨g, ha, Nat.le_trans hs hg, hl, h⟩
theorem FrP.only {B : Nat} {w w' w'' : World} {a : Option Addr} {ys : List R5} (h : FrP w w' a ys) (ho : Only B w' w'') (hB : B < w.heap.size) : FrP w w'' a ys := by
  rcases h with h | ⟨g, ha, hg, hl, h⟩
  · exact .inl h
  · refine .inr ⟨g, ha, hg, Nat.lt_of_lt_of_le hl ho.size, fun j hj => ?_⟩
    obtain ⟨h1, h2⟩ := h j hj
    exact ⟨h1.same fun i => ho.cell g i hl (by omega), ⟨(ho.frozen g _ hl (by omega)).trans h2.f0, (ho.frozen g _ hl (by omega)).trans h2.f1, (ho.frozen g _ hl (by omega)).trans h2.f2, (ho.frozen g _ hl (by omega)).trans h2.f3, (ho.frozen g _ hl (by omega)).trans h2.f4⟩⟩
theorem FrP.drewN {w w' : World} {a : Option Addr} {ys : List R5} (h : FrP w w' a ys) (n : Nat) : FrP w (w'.drewN n) a ys := h.keep ((Keep.refl w').drewN n)

/-- A slice value that owns the products ts. -/
def OwnP (w : World) (base : Nat) (v : Value) (ts : List R5) : Prop := w.ownsRow base 33 5 v ts.length (flatP ts)
theorem OwnP.only {w w' : World} {base B : Nat} {v : Value} {ts : List R5} (h : OwnP w base v ts) (ho : Only B w w') (hB : B < base) : OwnP w' base v ts := by
  refine World.ownsRow.kept h ho ?_
  cases hv : v.ownBlock with
  | none => left; rfl
  | some k => right; have := h.lt k hv; intro e; injection e with e; omega
theorem OwnP.keep {w w' : World} {base : Nat} {v : Value} {ts : List R5} (h : OwnP w base v ts) (k : Keep w w') : OwnP w' base v ts := by
  refine World.ownsRow.kept h (⟨Below.os k, Below.tape k, Below.output k, Below.size k, fun i hi _ => Below.block k i hi⟩ : w.grownBy w' none) ?_
  cases hv : v.ownBlock with
  | none => left; rfl
  | some k => right; simp
theorem OwnP.form {w : World} {base : Nat} {v : Value} {ts : List R5} (h : OwnP w base v ts) (h0 : 0 < ts.length) :
    ∃ g c, v = .slice (some ⟨g, 0, none⟩) ts.length c ∧ ts.length ≤ c ∧ base ≤ g ∧ g < w.heap.size ∧ WrP w g ts := by
  obtain ⟨g, c, hv, hb, hl⟩ := World.ownsRow.form h h0
  subst hv
  exact ⟨g, c, rfl, own_capP h, hb, hl, wrP_own h rfl⟩
theorem OwnP.slice {w : World} {base : Nat} {v : Value} {ts : List R5} (h : OwnP w base v ts) : ∃ a c, v = .slice a ts.length c ∧ ts.length ≤ c ∧ Ps w a ts := by
  rcases Nat.eq_zero_or_pos ts.length with h0 | h0
  · rcases id h.2 with ⟨hv, _⟩ | ⟨g, cap, cur, hv, _⟩
    · exact ⟨none, 0, by rw [hv, h0], by omega, .inl (List.eq_nil_of_length_eq_zero h0)⟩
    · exact ⟨_, _, hv, by omega, .inl (List.eq_nil_of_length_eq_zero h0)⟩
  · obtain ⟨g, c, hv, hc, _, _, hW⟩ := h.form h0
    exact ⟨_, c, hv, hc, hW.ps⟩
theorem OwnP.made (w : World) : OwnP (w.alloc (.cells #[] 33)) w.heap.size (.slice (some ⟨w.heap.size, 0, none⟩) 0 0) [] :=
  World.ownsRow_made w #[] 0 (Nat.le_refl _) (by unfold maxLen; omega) rfl
end Go.Proofs.Ytkiibklenpncpaa
