/- StoreValue: the program and the model answer 'svV'. -/
import Derived.Test.YtohoeonfoolpdaaDoorSw
namespace Go.Proofs.YtohoeonfoolpdaaDoor
open Go.RowKit
set_option linter.unusedVariables false

/-- A version that there is. -/
def vrB (rs : List R4) (n : Int) : Bool := stB rs && inB n 0 rs.length
theorem vrB_facts {rs : List R4} {n : Int} (h : vrB rs n = true) : stB rs = true ∧ rs.length ≤ 40 ∧ ∃ m : Nat, n = (m : Int) ∧ m ≤ rs.length := by
  simp only [vrB, Bool.and_eq_true] at h
  have h2 := h.2
  simp only [inB, Bool.and_eq_true, decide_eq_true_eq] at h2
  exact ⟨h.1, (stB_facts h.1).2, n.toNat, by omega, by omega⟩
theorem vrB_cases (rs : List R4) (n : Int) : (vrB rs n = false ∧ stB rs = false) ∨ (vrB rs n = false ∧ stB rs = true ∧ inB n 0 rs.length = false) ∨ (vrB rs n = true ∧ stB rs = true ∧ inB n 0 rs.length = true) := by
  cases h : stB rs <;> cases h2 : inB n 0 rs.length <;> simp [vrB, h, h2]
/-- What a version tells. -/
def svV (rs : List R4) (n s d t : Int) : Int := if vrB rs n then vN rs s d t n.toNat else -9999
theorem svV_no {rs : List R4} {n : Int} (h : vrB rs n = false) (s d t : Int) : svV rs n s d t = -9999 := by simp [svV, h]
theorem svV_yes {rs : List R4} {m : Nat} (h : vrB rs m = true) (s d t : Int) : svV rs m s d t = vN rs s d t m := by simp [svV, h]
theorem vN_take (rs : List R4) (s d t : Int) (m : Nat) (hm : m ≤ rs.length) : ∀ k, k ≤ m → vN (rs.take m) s d t k = vN rs s d t k
  | 0, _ => rfl
  | k + 1, h => by
    have e : (rs.take m).getD k r0 = rs.getD k r0 := by simp [List.getD_eq_getElem?_getD, show k < m by omega]
    simp only [vN]
    rw [e, vN_take rs s d t m hm k (by omega)]
theorem len_take {rs : List R4} {m : Nat} (h : m ≤ rs.length) : (rs.take m).length = m := by rw [List.length_take]; omega

end Go.Proofs.YtohoeonfoolpdaaDoor
