/- The model's text of a report of kind 1. -/
import Derived.Test.YtcfffgbnkjclfaaDoorTxA
namespace Go.Proofs.YtcfffgbnkjclfaaDoor
open Go.RowKit Go.Lib
set_option linter.unusedVariables false

end Go.Proofs.YtcfffgbnkjclfaaDoor
