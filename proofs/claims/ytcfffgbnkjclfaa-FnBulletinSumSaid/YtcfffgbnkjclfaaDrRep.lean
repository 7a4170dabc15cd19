/- How a report is drawn: the drawn report's numbers are small; the reader goes on, and nothing else turns. -/
import Derived.Test.YtcfffgbnkjclfaaKl
import Derived.Test.YtcfffgbnkjclfaaRd
import Derived.Test.YtcfffgbnkjclfaaRep
namespace Go.Proofs.Ytcfffgbnkjclfaa
open Go.RowKit
set_option linter.unusedVariables false


end Go.Proofs.Ytcfffgbnkjclfaa
