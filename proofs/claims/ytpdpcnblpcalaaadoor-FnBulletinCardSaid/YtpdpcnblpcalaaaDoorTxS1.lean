/- The model's text of a report of kind 1. -/
import Derived.Test.YtpdpcnblpcalaaaDoorTxA
namespace Go.Proofs.YtpdpcnblpcalaaaDoor
open Go.RowKit Go.Lib
set_option linter.unusedVariables false

end Go.Proofs.YtpdpcnblpcalaaaDoor
