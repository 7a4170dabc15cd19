/- How a report is drawn: the drawn report's numbers are small; the reader goes on, and nothing else turns. -/
import Derived.Test.YtpdpcnblpcalaaaDoorKl
import Derived.Test.YtpdpcnblpcalaaaDoorRd
import Derived.Test.YtpdpcnblpcalaaaDoorRep
namespace Go.Proofs.YtpdpcnblpcalaaaDoor
open Go.RowKit
set_option linter.unusedVariables false


end Go.Proofs.YtpdpcnblpcalaaaDoor
