/- The table of the months' lengths: what the row's list gives a walk, and a world that meets it. -/
import Derived.Test.YtohoeonfoolpdaaDoorRows
import Derived.Test.YtohoeonfoolpdaaDoorKeep
import Derived.Lib.LaidTab
import Derived.LaidLaws
import Derived.WalkKit
import Derived.Below
namespace Go.Proofs.YtohoeonfoolpdaaDoor
open Go.RowKit
set_option linter.unusedVariables false

def monthTab : List Int := [31, 28, 31, 30, 31, 30, 31, 31, 30, 31, 30, 31]
theorem gTab : Tryd.prog.globalNamed "loop.example/weatherarchive/impl.monthDays" = some 0 := by kernel_rfl
theorem gTabType : (Tryd.prog.globals[0]?).map (·.type) = some 78 := by kernel_rfl
theorem cellsTab : Tryd.prog.cellsOf 78 = 12 := by kernel_rfl
theorem cellsInt : Tryd.prog.cellsOf 3 = 1 := by kernel_rfl

/-- The table's cells. -/
def Tabs (w : World) : Prop := ∀ i, i < 12 → w.cell? ⟨0, i, none⟩ = some (.int .i64 (monthTab.getD i 0))
theorem Tabs.keep {w w' : World} (h : Tabs w) (k : Keep w w') : Tabs w' := fun i hi => k.cell (h i hi)
theorem Tabs.drewN {w : World} (h : Tabs w) (n : Nat) : Tabs (w.drewN n) := h
theorem tabs_of_laid {W : World} (h : laidMetH Tryd.prog [("loop.example/weatherarchive/impl.monthDays", Rows.laid_loop_example_weatherarchive_impl_monthDays)] W) : Tabs W := fun i hi =>
  (Lib.tabIs_of_head (k := .i64) (zs := monthTab) (rest := []) gTab gTabType Tryd.underlying78 Tryd.underlying3 cellsInt cellsTab h).cell gTab i hi

/-- A world for the witness: the settled one, the table holding what its initialiser lays. -/
noncomputable def laidWorld (os : Os) : World :=
  { World.holding Tryd.prog os ⟨#[], #[], []⟩ with heap := (World.holding Tryd.prog os ⟨#[], #[], []⟩).heap.modify 0 fun
      | .cells _ t frozen => .cells #[.int .i64 31, .int .i64 28, .int .i64 31, .int .i64 30, .int .i64 31, .int .i64 30, .int .i64 31, .int .i64 31, .int .i64 30, .int .i64 31, .int .i64 30, .int .i64 31] t frozen
      | o => o }
end Go.Proofs.YtohoeonfoolpdaaDoor
