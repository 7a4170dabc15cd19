/- The library's sort of a row of integers in a block: the row holds the sorted list, and nothing else has turned. -/
import Derived.Test.YtnemdnidlbekbaaGreatDoorKeep
import Derived.Test.YtnemdnidlbekbaaGreatDoorShelf
import Derived.Sort.OwnSortedInts
namespace Go.Proofs.YtnemdnidlbekbaaGreatDoor
open Go.RowKit Go.Sort
set_option linter.unusedVariables false

/-- Block 'b' holds the integers 'zs' from its beginning on, and may be written. -/
def Ints (w : World) (b : Nat) (zs : List Int) : Prop := ∀ j, j < zs.length → w.cell? ⟨b, j, none⟩ = some (.int .i64 (zs.getD j 0)) ∧ w.frozen? ⟨b, j, none⟩ = false

def sorted (zs : List Int) : List Int := zs.mergeSort fun x y => decide (x ≤ y)
theorem sorted_length (zs : List Int) : (sorted zs).length = zs.length := List.length_mergeSort _

theorem sort_ints (b cap : Nat) (zs : List Int) (w : World) (hz : Ints w b zs) (hb : b < w.heap.size) (hsz : zs.length < 4611686018427387904) :
    Calls Tryz.prog 154 #[.slice (some ⟨b, 0, none⟩) zs.length cap] w fun e w' => e = .returned (.tuple #[]) ∧ Only b w w' ∧ Ints w' b (sorted zs) := by
  have hH : Holds (Value.int .i64) w b 0 zs.toArray := by
    intro j hj
    have hj' : j < zs.length := by simpa using hj
    obtain ⟨h1, h2⟩ := hz j hj'
    rw [Nat.zero_add]
    refine ⟨?_, h2⟩
    rw [h1]
    simp [List.getD_eq_getElem?_getD, hj']
  refine (Tryz.slices_Sort_int b 0 cap zs w hH hb hsz).mono fun e w' ⟨he, n, os, hw⟩ => ⟨he, ?_, ?_⟩
  · rw [hw]; exact Go.grownBy_sortedI _
  · have hlen : (sorted zs).length = zs.length := sorted_length zs
    have h2 : Holds (Value.int .i64) (putRow (Value.int .i64) (Sort.ahead w n) b 0 (sorted zs).toArray) b 0 (sorted zs).toArray :=
      holds_putRow (Value.int .i64) (Sort.ahead w n) b 0 zs.toArray (sorted zs).toArray hH (by simp [hlen])
    have h3 := holds_grow (Value.int .i64) (putRow (Value.int .i64) (Sort.ahead w n) b 0 (sorted zs).toArray) os b 0 (sorted zs).toArray (by simpa using hb) h2
    intro j hj
    obtain ⟨h4, h5⟩ := h3 j (by simpa using hj)
    rw [Nat.zero_add] at h4 h5
    rw [hw]
    refine ⟨h4.trans ?_, h5⟩
    simp [List.getD_eq_getElem?_getD, hj]

/-- Two pairs in order, sorted together. -/
theorem sorted_pairs (a b c d : Int) (h1 : a ≤ b) (h2 : c ≤ d) :
    (sorted [a, b, c, d]).getD 0 0 = min a c ∧ (sorted [a, b, c, d]).getD 3 0 = max b d ∧ (c ≤ b → a ≤ d → (sorted [a, b, c, d]).getD 1 0 = max a c ∧ (sorted [a, b, c, d]).getD 2 0 = min b d) := by
  have e1 : [a, b, c, d].mergeSort (fun x y => decide (x ≤ y)) = List.merge [a, b] [c, d] (fun x y => decide (x ≤ y)) := by
    simp [List.mergeSort, List.MergeSort.Internal.splitInTwo, List.splitAt, List.splitAt.go, List.merge, h1, h2]
  unfold sorted
  rw [e1]
  simp only [List.merge]
  by_cases q1 : a ≤ c <;> by_cases q2 : b ≤ c <;> by_cases q3 : a ≤ d <;> by_cases q4 : b ≤ d <;> simp [q1, q2, q3, q4] <;> omega
end Go.Proofs.YtnemdnidlbekbaaGreatDoor
