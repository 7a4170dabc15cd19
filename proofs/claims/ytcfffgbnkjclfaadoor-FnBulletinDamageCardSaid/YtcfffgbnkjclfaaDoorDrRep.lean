/- How a report is drawn: the drawn report's numbers are small; the reader goes on, and nothing else turns. -/
import Derived.Test.YtcfffgbnkjclfaaDoorKl
import Derived.Test.YtcfffgbnkjclfaaDoorRd
import Derived.Test.YtcfffgbnkjclfaaDoorRep
namespace Go.Proofs.YtcfffgbnkjclfaaDoor
open Go.RowKit
set_option linter.unusedVariables false


end Go.Proofs.YtcfffgbnkjclfaaDoor
