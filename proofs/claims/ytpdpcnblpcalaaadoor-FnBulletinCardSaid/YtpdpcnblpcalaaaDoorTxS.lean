/- The model's text of a report. -/
import Derived.Test.YtpdpcnblpcalaaaDoorTxS1
import Derived.Test.YtpdpcnblpcalaaaDoorTxS2
import Derived.Test.YtpdpcnblpcalaaaDoorTxS3
namespace Go.Proofs.YtpdpcnblpcalaaaDoor
open Go.RowKit Go.Lib
set_option linter.unusedVariables false

end Go.Proofs.YtpdpcnblpcalaaaDoor
