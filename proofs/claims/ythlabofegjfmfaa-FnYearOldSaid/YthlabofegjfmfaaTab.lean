/- The table of the months' lengths: what the row's list gives a walk, and a world that meets it. -/
import Derived.Test.YthlabofegjfmfaaRows
import Derived.Test.YthlabofegjfmfaaKeep
import Derived.Lib.LaidTab
import Derived.LaidLaws
import Derived.WalkKit
import Derived.Below
namespace Go.Proofs.Ythlabofegjfmfaa
open Go.RowKit
set_option linter.unusedVariables false

def monthTab : List Int := [31, 28, 31, 30, 31, 30, 31, 31, 30, 31, 30, 31]
end Go.Proofs.Ythlabofegjfmfaa
