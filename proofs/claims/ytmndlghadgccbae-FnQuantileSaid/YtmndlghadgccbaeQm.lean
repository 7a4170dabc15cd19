/- Quantiles and counts. -/
import Derived.Test.YtmndlghadgccbaeSo
namespace Go.Proofs.Ytmndlghadgccbae
open Go.RowKit
set_option linter.unusedVariables false

theorem cLe_takeQ {L : List Int} {q : Nat} (h : q < L.length) (x : Int) : cLe (L.take (q + 1)) x = cLe (L.take q) x + (if L.getD q 0 ≤ x then 1 else 0) := by
  rw [List.take_succ_eq_append_getElem h, cLe, cLe, List.countP_append]
  simp [List.getD_eq_getElem?_getD, h, List.countP_cons]
theorem cLt_takeQ {L : List Int} {q : Nat} (h : q < L.length) (x : Int) : cLt (L.take (q + 1)) x = cLt (L.take q) x + (if L.getD q 0 < x then 1 else 0) := by
  rw [List.take_succ_eq_append_getElem h, cLt, cLt, List.countP_append]
  simp [List.getD_eq_getElem?_getD, h, List.countP_cons]
theorem cnt_at {S : List Int} (hs : S.Pairwise (fun a b => a ≤ b)) {p : Nat} (hp : p < S.length) : cLt S (S.getD p 0) ≤ p ∧ p + 1 ≤ cLe S (S.getD p 0) := by
  constructor
  · by_cases h : cLt S (S.getD p 0) ≤ p
    · exact h
    · have := (cnt_place (x := S.getD p 0) hs).1 p (by unfold cLt at h; omega)
      omega
  · have h1 : (S.take (p + 1)).countP (fun x => decide (x ≤ S.getD p 0)) = p + 1 := by
      have h2 : (S.take (p + 1)).countP (fun x => decide (x ≤ S.getD p 0)) = (S.take (p + 1)).length := by
        rw [List.countP_eq_length]
        intro y hy
        obtain ⟨j, hj, rfl⟩ := List.getElem_of_mem hy
        rw [List.length_take] at hj
        have := pw_at hs (i := j) (j := p) (by omega) hp
        rw [List.getElem_take]
        rw [show S.getD j 0 = S[j] by simp [List.getD_eq_getElem?_getD, show j < S.length by omega]] at this
        exact decide_eq_true this
      rw [h2, List.length_take]; omega
    have h3 := (List.take_sublist (p + 1) S).countP_le (p := fun x => decide (x ≤ S.getD p 0))
    unfold cLe
    omega
theorem qu_counts {zs : List Int} {num den : Int} (h : quB zs num den = true) : quV zs num den ∈ knl zs ∧ num * ((knl zs).length : Int) ≤ (cLe (knl zs) (quV zs num den) : Int) * den ∧ (cLt (knl zs) (quV zs num den) : Int) * den < num * ((knl zs).length : Int) := by
  obtain ⟨hq, hk0, ⟨hd1, hd2⟩, hn1, hn2⟩ := quB_facts h
  have hs12 : (knl zs).length ≤ 12 := Nat.le_trans (knl_le zs) (sq_facts hq).2.2
  obtain ⟨b1, b2, b3, b4, _, _⟩ := quK_bd hk0 hs12 ⟨hd1, hd2⟩ ⟨hn1, hn2⟩
  rw [quV_yes h]
  generalize quK (knl zs).length num den = k at *
  have hp : (k - 1).toNat < (sorted (knl zs)).length := by rw [sorted_length]; omega
  obtain ⟨c1, c2⟩ := cnt_at (sorted_pw (knl zs)) hp
  have e1 : ∀ x, cLe (sorted (knl zs)) x = cLe (knl zs) x := fun x => (sorted_perm _).countP_eq _
  have e2 : ∀ x, cLt (sorted (knl zs)) x = cLt (knl zs) x := fun x => (sorted_perm _).countP_eq _
  have hmem := (sorted_perm (knl zs)).mem_iff.1 (getD_mem hp)
  rw [e2] at c1
  rw [e1] at c2
  generalize (sorted (knl zs)).getD (k - 1).toNat 0 = v at *
  refine ⟨hmem, ?_, ?_⟩
  · have : k * den ≤ (cLe (knl zs) v : Int) * den := Int.mul_le_mul_of_nonneg_right (by omega) (by omega)
    omega
  · have : (cLt (knl zs) v : Int) * den ≤ (k - 1) * den := Int.mul_le_mul_of_nonneg_right (by omega) (by omega)
    omega
end Go.Proofs.Ytmndlghadgccbae
