/- The last record is the greatest value. -/
import Derived.Test.YtohoeonfoolpdaaDoorSd
namespace Go.Proofs.YtohoeonfoolpdaaDoor
open Go.RowKit
set_option linter.unusedVariables false

theorem rc_inv {zs : List Int} (h : sqB zs = true) : ∀ k, k ≤ zs.length → (rcl zs k = [] ∧ rcG zs k = -1000 ∧ ∀ j, j < k → zs.getD j 0 = -9999) ∨
    (∃ i, i < k ∧ 0 < (rcl zs k).length ∧ (rcl zs k).getD ((rcl zs k).length - 1) 0 = (i : Int) ∧ zs.getD i 0 = rcG zs k ∧ zs.getD i 0 ≠ -9999 ∧ ∀ j, j < k → zs.getD j 0 ≠ -9999 → zs.getD j 0 ≤ rcG zs k)
  | 0, _ => .inl ⟨rfl, rfl, fun j hj => by omega⟩
  | k + 1, hk => by
    have hb := sq_at h (show k < zs.length by omega)
    have lastk : (rcl zs k ++ [(k : Int)]).getD ((rcl zs k ++ [(k : Int)]).length - 1) 0 = (k : Int) := by
      simp [List.getD_eq_getElem?_getD]
    rcases rc_inv h k (by omega) with ⟨h1, h2, h3⟩ | ⟨i, h1, h2, h3, h4, h5, h6⟩
    · rcases rc_cases zs k with ⟨c1, c2, c3, _⟩ | ⟨c1, c2, c3, c4, _⟩ | ⟨c1, c2, c3, c4, _⟩
      · refine .inl ⟨by rw [c3, h1], by rw [c2, h2], fun j hj => ?_⟩
        by_cases e : j = k
        · rw [e]; exact c1
        · exact h3 j (by omega)
      · rw [h2] at c2; omega
      · refine .inr ⟨k, by omega, by rw [c4]; simp, by rw [c4]; exact lastk, c3.symm, c1, fun j hj hne => ?_⟩
        by_cases e : j = k
        · rw [e, c3]; exact Int.le_refl _
        · exact absurd (h3 j (by omega)) hne
    · rcases rc_cases zs k with ⟨c1, c2, c3, _⟩ | ⟨c1, c2, c3, c4, _⟩ | ⟨c1, c2, c3, c4, _⟩
      · refine .inr ⟨i, by omega, by rw [c3]; exact h2, by rw [c3]; exact h3, by rw [c2]; exact h4, h5, fun j hj hne => ?_⟩
        by_cases e : j = k
        · rw [e] at hne; exact absurd c1 hne
        · rw [c2]; exact h6 j (by omega) hne
      · refine .inr ⟨i, by omega, by rw [c4]; exact h2, by rw [c4]; exact h3, by rw [c3]; exact h4, h5, fun j hj hne => ?_⟩
        by_cases e : j = k
        · rw [e, c3]; exact c2
        · rw [c3]; exact h6 j (by omega) hne
      · refine .inr ⟨k, by omega, by rw [c4]; simp, by rw [c4]; exact lastk, c3.symm, c1, fun j hj hne => ?_⟩
        by_cases e : j = k
        · rw [e, c3]; exact Int.le_refl _
        · have := h6 j (by omega) hne; rw [c3]; omega
theorem rc_last {zs : List Int} (h : sqB zs = true) : (rcL zs = [] ∧ soL zs = []) ∨ ∃ i : Nat, i < zs.length ∧ 0 < (rcL zs).length ∧ (rcL zs).getD ((rcL zs).length - 1) 0 = (i : Int) ∧ 0 < (soL zs).length ∧ zs.getD i 0 = (soL zs).getD ((soL zs).length - 1) 0 := by
  rw [rcL_yes h, soL_yes h]
  have hmem : ∀ x, x ∈ knl zs ↔ ∃ j, j < zs.length ∧ zs.getD j 0 = x ∧ x ≠ -9999 := fun x => by
    rw [knl, List.mem_filter]
    constructor
    · rintro ⟨h1, h2⟩
      obtain ⟨j, hj, rfl⟩ := List.getElem_of_mem h1
      exact ⟨j, hj, by simp [List.getD_eq_getElem?_getD, hj], by simpa using h2⟩
    · rintro ⟨j, hj, h1, h2⟩
      exact ⟨h1 ▸ getD_mem hj, by simpa using h2⟩
  rcases rc_inv h zs.length (Nat.le_refl _) with ⟨h1, _, h3⟩ | ⟨i, h1, h2, h3, h4, h5, h6⟩
  · left
    refine ⟨h1, ?_⟩
    have : knl zs = [] := List.eq_nil_iff_forall_not_mem.2 fun x hx => by
      obtain ⟨j, hj, e, hne⟩ := (hmem x).1 hx
      rw [h3 j hj] at e; exact hne e.symm
    rw [this, sorted_nil]
  · right
    have hi : zs.getD i 0 ∈ sorted (knl zs) := (sorted_perm _).mem_iff.2 ((hmem _).2 ⟨i, h1, rfl, h5⟩)
    have hp : 0 < (sorted (knl zs)).length := List.length_pos_of_mem hi
    refine ⟨i, h1, h2, h3, hp, Int.le_antisymm ?_ ?_⟩
    · obtain ⟨q, hq, e⟩ := List.getElem_of_mem hi
      have := sorted_at (L := knl zs) (i := q) (j := (sorted (knl zs)).length - 1) (by omega) (by omega)
      rw [show (sorted (knl zs)).getD q 0 = zs.getD i 0 by rw [← e]; simp [List.getD_eq_getElem?_getD, hq]] at this
      exact this
    · have hl : (sorted (knl zs)).getD ((sorted (knl zs)).length - 1) 0 ∈ knl zs := (sorted_perm _).mem_iff.1 (getD_mem (by omega))
      obtain ⟨j, hj, e, hne⟩ := (hmem _).1 hl
      rw [h4, ← e]
      exact h6 j hj (by rw [e]; exact hne)
end Go.Proofs.YtohoeonfoolpdaaDoor
