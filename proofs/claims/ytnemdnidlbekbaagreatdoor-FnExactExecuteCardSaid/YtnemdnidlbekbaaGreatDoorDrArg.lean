/- The laws' own drawing of a report out of their code. -/
import Derived.Test.YtnemdnidlbekbaaGreatDoorDrRep
namespace Go.Proofs.YtnemdnidlbekbaaGreatDoor
open Go.RowKit
set_option linter.unusedVariables false

/-- A drawn report is small: no field is beyond 20000. -/
def Small (x : Int) : Prop := -20000 ≤ x ∧ x ≤ 20000

theorem newFrozen {w w' : World} {cs : Array Value} {T B : Nat} (hb : Below B (w.alloc (.cells cs T)) w') (hB : w.heap.size < B) (i : Nat) : w'.frozen? ⟨w.heap.size, i, none⟩ = false := by
  rw [hb.frozen (p := ⟨w.heap.size, i, none⟩) hB]
  exact World.frozen?_alloc_at _ _ _ _ rfl

end Go.Proofs.YtnemdnidlbekbaaGreatDoor
