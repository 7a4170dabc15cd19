/- Medians: the value in the middle of the sorted values is the one whose lesser values are few enough, and whose lesser and equal values are many enough. -/
import Derived.Test.YtohoeonfoolpdaaDoorSort
import Derived.Test.YtohoeonfoolpdaaDoorFgm
namespace Go.Proofs.YtohoeonfoolpdaaDoor
open Go.RowKit
set_option linter.unusedVariables false

theorem sorted_perm (L : List Int) : (sorted L).Perm L := List.mergeSort_perm _ _
theorem sorted_pw (L : List Int) : (sorted L).Pairwise (fun x y => x ≤ y) := by
  have h := List.pairwise_mergeSort (le := fun x y : Int => decide (x ≤ y)) (fun a b c h1 h2 => by simp at *; omega) (fun a b => by simp; omega) L
  exact h.imp (fun h => by simpa using h)
def cLt (L : List Int) (v : Int) : Nat := L.countP fun x => decide (x < v)
def cLe (L : List Int) (v : Int) : Nat := L.countP fun x => decide (x ≤ v)
def cEq (L : List Int) (v : Int) : Nat := L.countP fun x => decide (x = v)
def cGt (L : List Int) (v : Int) : Nat := L.countP fun x => decide (v < x)
theorem cLe_parts (L : List Int) (v : Int) : cLe L v = cLt L v + cEq L v := by
  induction L with
  | nil => rfl
  | cons x L ih =>
    simp only [cLe, cLt, cEq, List.countP_cons] at ih ⊢
    rw [ih]
    by_cases h1 : x < v <;> by_cases h2 : x = v <;> by_cases h3 : x ≤ v <;> simp [h1, h2, h3] <;> omega
theorem cGt_parts (L : List Int) (v : Int) : cLe L v + cGt L v = L.length := by
  induction L with
  | nil => rfl
  | cons x L ih =>
    simp only [cLe, cGt, List.countP_cons, List.length_cons] at ih ⊢
    by_cases h1 : x ≤ v <;> by_cases h2 : v < x <;> simp [h1, h2] <;> omega
theorem cnt_many {s : List Int} {m : Nat} (hm : m < s.length) (p : Int → Bool) (h : ∀ i, i ≤ m → p (s.getD i 0) = true) : m + 1 ≤ s.countP p := by
  have e : s.countP p = (s.take (m + 1)).countP p + (s.drop (m + 1)).countP p := by rw [← List.countP_append, List.take_append_drop]
  have e2 : (s.take (m + 1)).countP p = (s.take (m + 1)).length := by
    rw [List.countP_eq_length]
    intro x hx
    obtain ⟨i, hi, rfl⟩ := List.getElem_of_mem hx
    rw [List.length_take] at hi
    have := h i (by omega)
    rw [List.getElem_take]
    simpa [List.getD_eq_getElem?_getD, (show i < s.length by omega)] using this
  rw [e, e2, List.length_take]; omega
theorem cnt_few {s : List Int} {m : Nat} (p : Int → Bool) (h : ∀ i, m ≤ i → i < s.length → p (s.getD i 0) = false) : s.countP p ≤ m := by
  have e : s.countP p = (s.take m).countP p + (s.drop m).countP p := by rw [← List.countP_append, List.take_append_drop]
  have e2 : (s.drop m).countP p = 0 := by
    rw [List.countP_eq_zero]
    intro x hx
    obtain ⟨i, hi, rfl⟩ := List.getElem_of_mem hx
    rw [List.length_drop] at hi
    have := h (m + i) (by omega) (by omega)
    rw [List.getElem_drop]
    simpa [List.getD_eq_getElem?_getD, (show m + i < s.length by omega)] using this
  have e3 := List.countP_le_length (p := p) (l := s.take m)
  rw [List.length_take] at e3
  omega
theorem pw_at {s : List Int} (h : s.Pairwise (fun x y => x ≤ y)) {i j : Nat} (hij : i ≤ j) (hj : j < s.length) : s.getD i 0 ≤ s.getD j 0 := by
  rcases Nat.lt_or_eq_of_le hij with hlt | rfl
  · have := (List.pairwise_iff_getElem.1 h) i j (by omega) hj hlt
    simpa [List.getD_eq_getElem?_getD, hj, (show i < s.length by omega)] using this
  · exact Int.le_refl _
theorem cLt_perm {a b : List Int} (h : a.Perm b) (v : Int) : cLt a v = cLt b v := h.countP_eq _
theorem cLe_perm {a b : List Int} (h : a.Perm b) (v : Int) : cLe a v = cLe b v := h.countP_eq _
/-- The value at place m of the sorted list. -/
theorem mid_iff (L : List Int) (v : Int) {m : Nat} (hm : m < L.length) : (cLt L v ≤ m ∧ m < cLe L v) ↔ (sorted L).getD m 0 = v := by
  have hp := sorted_perm L
  have hs := sorted_pw L
  have hl : (sorted L).length = L.length := sorted_length L
  rw [← cLt_perm hp, ← cLe_perm hp]
  generalize sorted L = s at *
  constructor
  · rintro ⟨h1, h2⟩
    by_cases hlt : s.getD m 0 < v
    · have := cnt_many (s := s) (m := m) (by omega) (fun x => decide (x < v)) (fun i hi => by have := pw_at hs hi (by omega); exact decide_eq_true (by omega))
      unfold cLt at h1; omega
    · by_cases hgt : v < s.getD m 0
      · have := cnt_few (m := m) (s := s) (fun x => decide (x ≤ v)) (fun i hi hil => by have := pw_at hs hi hil; exact decide_eq_false (by omega))
        unfold cLe at h2; omega
      · omega
  · rintro rfl
    constructor
    · exact cnt_few (m := m) (s := s) _ (fun i hi hil => by have := pw_at hs hi hil; exact decide_eq_false (by omega))
    · have := cnt_many (m := m) (s := s) (by omega) (fun x => decide (x ≤ s.getD m 0)) (fun i hi => by have := pw_at hs hi (by omega); exact decide_eq_true (by omega))
      unfold cLe; omega
/-- The median of values that are there. -/
def mdL (L : List Int) : Int := (sorted L).getD ((L.length - 1) / 2) 0
theorem mdL_iff (L : List Int) (v : Int) (h0 : 0 < L.length) : (cLt L v ≤ (L.length - 1) / 2 ∧ (L.length - 1) / 2 < cLe L v) ↔ mdL L = v := mid_iff L v (by omega)
theorem mdL_mem {L : List Int} (h0 : 0 < L.length) : mdL L ∈ L := by
  have hl : (L.length - 1) / 2 < (sorted L).length := by rw [sorted_length]; omega
  refine (sorted_perm L).subset ?_
  rw [mdL, List.getD_eq_getElem?_getD, List.getElem?_eq_getElem hl]
  exact List.getElem_mem hl
theorem mdL_perm {a b : List Int} (h : a.Perm b) : mdL a = mdL b := by
  have hl := h.length_eq
  by_cases h0 : 0 < a.length
  · refine (mdL_iff a _ h0).1 ?_
    have := (mdL_iff b _ (by omega)).2 rfl
    rw [cLt_perm h, cLe_perm h, hl]
    exact this
  · have ha : a = [] := List.eq_nil_of_length_eq_zero (by omega)
    have hb : b = [] := List.eq_nil_of_length_eq_zero (by omega)
    rw [ha, hb]
theorem cLt_add (L : List Int) (v d : Int) : cLt (L.map (· + d)) (v + d) = cLt L v := by
  rw [cLt, cLt, List.countP_map]
  congr 1
  funext x
  simp only [Function.comp]
  exact decide_eq_decide.2 (by omega)
theorem cLe_add (L : List Int) (v d : Int) : cLe (L.map (· + d)) (v + d) = cLe L v := by
  rw [cLe, cLe, List.countP_map]
  congr 1
  funext x
  simp only [Function.comp]
  exact decide_eq_decide.2 (by omega)
theorem mdL_add {L : List Int} (h0 : 0 < L.length) (d : Int) : mdL (L.map (· + d)) = mdL L + d := by
  refine (mdL_iff _ _ (by simpa using h0)).1 ?_
  rw [cLt_add, cLe_add, List.length_map]
  exact (mdL_iff L _ h0).2 rfl
theorem knl_back (zs : List Int) : (knl zs.reverse).Perm (knl zs) := by
  rw [knl, List.filter_reverse]
  exact List.reverse_perm _
/-- Whether a series has a median, and which. -/
def moB (zs : List Int) : Bool := sqB zs && decide (0 < (knl zs).length)
def moV (zs : List Int) : Int := if moB zs then mdL (knl zs) else 0
theorem moB_facts {zs : List Int} (h : moB zs = true) : sqB zs = true ∧ 0 < (knl zs).length := by
  simpa [moB] using h
theorem moV_no {zs : List Int} (h : moB zs = false) : moV zs = 0 := by simp [moV, h]
theorem moV_yes {zs : List Int} (h : moB zs = true) : moV zs = mdL (knl zs) := by simp [moV, h]
theorem mo_back (zs : List Int) : moB zs.reverse = moB zs ∧ moV zs.reverse = moV zs := by
  have h1 : moB zs.reverse = moB zs := by rw [moB, moB, sq_rev, knl_rev]
  refine ⟨h1, ?_⟩
  rw [moV, moV, h1, mdL_perm (knl_back zs)]
theorem knl_add1 {zs : List Int} (h : ∀ x ∈ zs, x = -9999 ∨ -999 ≤ x) : knl (zs.map add1) = (knl zs).map (· + 1) := by
  induction zs with
  | nil => rfl
  | cons x zs ih =>
    have hx := h x (by simp)
    have ih := ih (fun y hy => h y (by simp [hy]))
    rw [knl, knl] at ih ⊢
    rw [List.map_cons, List.filter_cons, List.filter_cons, ih]
    rcases hx with rfl | hx
    · rfl
    · have e : add1 x = x + 1 := by unfold add1; split <;> omega
      have e1 : (x != -9999) = true := bne_iff_ne.2 (by omega)
      have e2 : (x + 1 != -9999) = true := bne_iff_ne.2 (by omega)
      simp only [e, e1, e2, if_true, List.map_cons]
theorem mo_add {zs : List Int} (h : moB zs = true) (h2 : moB (zs.map add1) = true) : moV (zs.map add1) = moV zs + 1 := by
  obtain ⟨hq, h0⟩ := moB_facts h
  have hb : ∀ x ∈ zs, x = -9999 ∨ -999 ≤ x := fun x hx => by
    have := List.all_eq_true.1 (sq_facts hq).1 x hx
    rcases qB_bd this with h | ⟨h, _⟩
    · exact .inl h
    · exact .inr h
  rw [moV_yes h, moV_yes h2, knl_add1 hb, mdL_add h0]
theorem md_counts {L : List Int} (h0 : 0 < L.length) : 2 * cLt L (mdL L) < L.length ∧ 2 * cGt L (mdL L) ≤ L.length := by
  obtain ⟨h1, h2⟩ := (mdL_iff L _ h0).2 rfl
  have := cGt_parts L (mdL L)
  omega
end Go.Proofs.YtohoeonfoolpdaaDoor
