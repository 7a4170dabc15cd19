/- The laws' sum of a slice of ints. -/
import Derived.Test.YtlaajompcbmdoacSd
import Derived.Test.YtlaajompcbmdoacLw
import Derived.IntWalk
namespace Go.Proofs.Ytlaajompcbmdoac
open Go.RowKit
set_option linter.unusedVariables false

def isum : List Int → Int
  | [] => 0
  | x :: r => x + isum r
theorem isum_app : ∀ A B : List Int, isum (A ++ B) = isum A + isum B
  | [], B => by rw [List.nil_append, isum]; omega
  | x :: A, B => by rw [List.cons_append, isum, isum, isum_app A B]; omega
theorem isum_perm {A B : List Int} (h : A.Perm B) : isum A = isum B := by
  induction h with
  | nil => rfl
  | cons x _ ih => rw [isum, isum, ih]
  | swap x y l => simp only [isum]; omega
  | trans _ _ ih1 ih2 => rw [ih1, ih2]
theorem isum_take {L : List Int} {k : Nat} (h : k < L.length) : isum (L.take (k + 1)) = isum (L.take k) + L.getD k 0 := by
  rw [List.take_succ_eq_append_getElem h, isum_app, isum, isum]
  simp [List.getD_eq_getElem?_getD, h]
theorem isum_bd : ∀ {L : List Int}, (∀ x ∈ L, -12000 ≤ x ∧ x ≤ 12000) → -12000 * (L.length : Int) ≤ isum L ∧ isum L ≤ 12000 * (L.length : Int)
  | [], _ => by simp [isum]
  | x :: r, h => by
    have h1 := h x List.mem_cons_self
    have h2 := isum_bd (L := r) fun y hy => h y (List.mem_cons_of_mem _ hy)
    rw [isum, List.length_cons]
    omega
end Go.Proofs.Ytlaajompcbmdoac
