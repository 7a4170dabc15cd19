/- The library's sort of a row of integers in a block: the row holds the sorted list, and nothing else has turned. -/
import Derived.Test.YtohoeonfoolpdaaDoorKeep
import Derived.Sort.OwnSortedInts
namespace Go.Proofs.YtohoeonfoolpdaaDoor
open Go.RowKit Go.Sort
set_option linter.unusedVariables false

/-- Block 'b' holds the integers 'zs' from its beginning on, and may be written. -/
def Ints (w : World) (b : Nat) (zs : List Int) : Prop := ∀ j, j < zs.length → w.cell? ⟨b, j, none⟩ = some (.int .i64 (zs.getD j 0)) ∧ w.frozen? ⟨b, j, none⟩ = false

def sorted (zs : List Int) : List Int := zs.mergeSort fun x y => decide (x ≤ y)
theorem sorted_length (zs : List Int) : (sorted zs).length = zs.length := List.length_mergeSort _


/-- Two pairs in order, sorted together. -/
theorem sorted_pairs (a b c d : Int) (h1 : a ≤ b) (h2 : c ≤ d) :
    (sorted [a, b, c, d]).getD 0 0 = min a c ∧ (sorted [a, b, c, d]).getD 3 0 = max b d ∧ (c ≤ b → a ≤ d → (sorted [a, b, c, d]).getD 1 0 = max a c ∧ (sorted [a, b, c, d]).getD 2 0 = min b d) := by
  have e1 : [a, b, c, d].mergeSort (fun x y => decide (x ≤ y)) = List.merge [a, b] [c, d] (fun x y => decide (x ≤ y)) := by
    simp [List.mergeSort, List.MergeSort.Internal.splitInTwo, List.splitAt, List.splitAt.go, List.merge, h1, h2]
  unfold sorted
  rw [e1]
  simp only [List.merge]
  by_cases q1 : a ≤ c <;> by_cases q2 : b ≤ c <;> by_cases q3 : a ≤ d <;> by_cases q4 : b ≤ d <;> simp [q1, q2, q3, q4] <;> omega
end Go.Proofs.YtohoeonfoolpdaaDoor
