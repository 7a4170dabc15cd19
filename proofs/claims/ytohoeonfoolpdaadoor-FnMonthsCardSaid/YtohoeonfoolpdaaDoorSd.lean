/- Sorting by insertion, quantiles, without the program. -/
import Derived.Test.YtohoeonfoolpdaaDoorEx
namespace Go.Proofs.YtohoeonfoolpdaaDoor
open Go.RowKit
set_option linter.unusedVariables false

theorem sorted_eq {s L : List Int} (hp : s.Perm L) (hs : s.Pairwise (fun x y => x ≤ y)) : s = sorted L :=
  List.Perm.eq_of_pairwise (le := fun x y : Int => x ≤ y) (fun a b _ _ h1 h2 => Int.le_antisymm h1 h2) hs (sorted_pw L) (hp.trans (sorted_perm L).symm)
theorem sorted_nil : sorted [] = [] := by simp [sorted]
/-- One more number at its place. -/
theorem sorted_put {L : List Int} {x : Int} {k : Nat} (hk : k ≤ (sorted L).length) (h1 : ∀ j, j < k → (sorted L).getD j 0 ≤ x) (h2 : ∀ j, k ≤ j → j < (sorted L).length → x ≤ (sorted L).getD j 0) :
    (sorted L).take k ++ [x] ++ (sorted L).drop k = sorted (L ++ [x]) := by
  have hp := sorted_perm L
  have hs := sorted_pw L
  generalize sorted L = s at *
  refine sorted_eq ?_ ?_
  · have e : (s.take k ++ [x] ++ s.drop k).Perm (s.take k ++ s.drop k ++ [x]) := by
      rw [List.append_assoc, List.append_assoc]
      exact List.Perm.append_left _ List.perm_append_comm
    rw [List.take_append_drop] at e
    exact e.trans (hp.append_right _)
  · have a1 : ∀ y ∈ s.take k, y ≤ x := fun y hy => by
      obtain ⟨j, hj, rfl⟩ := List.getElem_of_mem hy
      rw [List.length_take] at hj
      have := h1 j (by omega)
      rw [List.getElem_take]
      simpa [List.getD_eq_getElem?_getD, show j < s.length by omega] using this
    have a2 : ∀ y ∈ s.drop k, x ≤ y := fun y hy => by
      obtain ⟨j, hj, rfl⟩ := List.getElem_of_mem hy
      rw [List.length_drop] at hj
      have := h2 (k + j) (by omega) (by omega)
      rw [List.getElem_drop]
      simpa [List.getD_eq_getElem?_getD, show k + j < s.length by omega] using this
    rw [← List.take_append_drop k s, List.pairwise_append] at hs
    rw [List.append_assoc, List.pairwise_append]
    refine ⟨hs.1, ?_, fun a ha b hb => ?_⟩
    · rw [List.singleton_append, List.pairwise_cons]
      exact ⟨a2, hs.2.1⟩
    · rw [List.singleton_append, List.mem_cons] at hb
      rcases hb with rfl | hb
      · exact a1 a ha
      · exact hs.2.2 a ha b hb
theorem sorted_at {L : List Int} {i j : Nat} (hij : i ≤ j) (hj : j < (sorted L).length) : (sorted L).getD i 0 ≤ (sorted L).getD j 0 := pw_at (sorted_pw L) hij hj
theorem sorted_same {a b : List Int} (h : a.Perm b) : sorted a = sorted b := sorted_eq ((sorted_perm a).trans h) (sorted_pw a)
def soL (zs : List Int) : List Int := if sqB zs then sorted (knl zs) else []
theorem soL_yes {zs : List Int} (h : sqB zs = true) : soL zs = sorted (knl zs) := by simp [soL, h]
theorem soL_no {zs : List Int} (h : sqB zs = false) : soL zs = [] := by simp [soL, h]
theorem knl_le (zs : List Int) : (knl zs).length ≤ zs.length := List.length_filter_le _ _
theorem soL_len (zs : List Int) : (soL zs).length ≤ 12 := by
  cases h : sqB zs
  · rw [soL_no h]; simp
  · rw [soL_yes h, sorted_length]; exact Nat.le_trans (knl_le zs) (sq_facts h).2.2
theorem soL_back (zs : List Int) : soL zs.reverse = soL zs := by
  rw [soL, soL, sq_rev, sorted_same (knl_back zs)]
theorem knl_bd {zs : List Int} (h : sqB zs = true) : ∀ x ∈ knl zs, -999 ≤ x ∧ x ≤ 10999 := fun x hx => by
  rw [knl, List.mem_filter] at hx
  rcases qB_bd (List.all_eq_true.1 (sq_facts h).1 x hx.1) with h1 | h1
  · exact absurd h1 (by simpa using hx.2)
  · exact h1

/-- The quantile: its place counted from one, its value. -/
def quK (m : Nat) (num den : Int) : Int := (num * (m : Int) + den - 1) / den
def quB (zs : List Int) (num den : Int) : Bool := sqB zs && (decide (0 < (knl zs).length) && (inB den 1 100 && inB num 1 den))
def quV (zs : List Int) (num den : Int) : Int := if quB zs num den then (sorted (knl zs)).getD (quK (knl zs).length num den - 1).toNat 0 else 0
theorem quB_facts {zs : List Int} {num den : Int} (h : quB zs num den = true) : sqB zs = true ∧ 0 < (knl zs).length ∧ (1 ≤ den ∧ den ≤ 100) ∧ 1 ≤ num ∧ num ≤ den := by
  simp only [quB, inB, Bool.and_eq_true, decide_eq_true_eq] at h
  exact ⟨h.1, h.2.1, h.2.2.1, h.2.2.2⟩
theorem quV_no {zs : List Int} {num den : Int} (h : quB zs num den = false) : quV zs num den = 0 := by simp [quV, h]
theorem quV_yes {zs : List Int} {num den : Int} (h : quB zs num den = true) : quV zs num den = (sorted (knl zs)).getD (quK (knl zs).length num den - 1).toNat 0 := by simp [quV, h]
theorem quK_bd {m : Nat} {num den : Int} (hm : 0 < m) (hm2 : m ≤ 12) (hd : 1 ≤ den ∧ den ≤ 100) (hn : 1 ≤ num ∧ num ≤ den) : 1 ≤ quK m num den ∧ quK m num den ≤ (m : Int) ∧ num * (m : Int) ≤ quK m num den * den ∧ (quK m num den - 1) * den < num * (m : Int) ∧ 1 ≤ num * (m : Int) ∧ num * (m : Int) ≤ 1200 := by
  have p1 : 1 * (m : Int) ≤ num * (m : Int) := Int.mul_le_mul_of_nonneg_right hn.1 (by omega)
  have p2 : num * (m : Int) ≤ den * (m : Int) := Int.mul_le_mul_of_nonneg_right hn.2 (by omega)
  have p3 : den * (m : Int) ≤ 100 * (m : Int) := Int.mul_le_mul_of_nonneg_right hd.2 (by omega)
  unfold quK
  generalize hp : num * (m : Int) = p at *
  have hd0 : 0 < den := by omega
  have q1 := Int.mul_ediv_add_emod (p + den - 1) den
  have q2 := Int.emod_nonneg (p + den - 1) (show den ≠ 0 by omega)
  have q3 := Int.emod_lt_of_pos (p + den - 1) hd0
  generalize (p + den - 1) % den = r at *
  generalize hq : (p + den - 1) / den = q at *
  have e : den * q = q * den := Int.mul_comm _ _
  rw [e] at q1
  have a1 : p ≤ q * den := by omega
  have a2 : (q - 1) * den < p := by rw [Int.sub_mul, Int.one_mul]; omega
  have a3 : q ≤ (m : Int) := by
    have : (q - 1) * den < (m : Int) * den := by rw [Int.mul_comm (m : Int) den]; omega
    have := Int.lt_of_mul_lt_mul_right this (by omega)
    omega
  have a4 : 1 ≤ q := by
    have : 0 * den < q * den := by omega
    have := Int.lt_of_mul_lt_mul_right this (by omega)
    omega
  exact ⟨a4, a3, a1, a2, by omega, by omega⟩
end Go.Proofs.YtohoeonfoolpdaaDoor
