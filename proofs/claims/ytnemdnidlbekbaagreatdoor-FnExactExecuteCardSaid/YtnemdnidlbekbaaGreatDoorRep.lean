/- A report of the law's own type turned into one of the program's. -/
import Derived.Test.YtnemdnidlbekbaaGreatDoorRows
import Derived.WalkKit
namespace Go.Proofs.YtnemdnidlbekbaaGreatDoor
open Go.RowKit
set_option linter.unusedVariables false

theorem bcell {W w1 : World} {B : Nat} (hb : Below B W w1) : (∀ b o, b < B → w1.cell? ⟨b, o, none⟩ = W.cell? ⟨b, o, none⟩) ∧ (∀ b o, b < B → w1.frozen? ⟨b, o, none⟩ = W.frozen? ⟨b, o, none⟩) :=
  ⟨fun b o h => hb.cell (p := ⟨b, o, none⟩) h, fun b o h => hb.frozen (p := ⟨b, o, none⟩) h⟩

/-- A cell of a new block, behind a call that left it alone. -/
theorem newCell {w w' : World} {cs : Array Value} {T B : Nat} (hb : Below B (w.alloc (.cells cs T)) w') (hB : w.heap.size < B) (i : Nat) (v : Value) (h : cs[i]? = some v) : w'.cell? ⟨w.heap.size, i, none⟩ = some v := by
  rw [hb.cell (p := ⟨w.heap.size, i, none⟩) hB]
  exact (World.cell?_alloc_new w cs T i).trans h

end Go.Proofs.YtnemdnidlbekbaaGreatDoor
