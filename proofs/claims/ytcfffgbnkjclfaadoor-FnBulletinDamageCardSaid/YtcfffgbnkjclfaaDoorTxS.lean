/- The model's text of a report. -/
import Derived.Test.YtcfffgbnkjclfaaDoorTxS1
import Derived.Test.YtcfffgbnkjclfaaDoorTxS2
import Derived.Test.YtcfffgbnkjclfaaDoorTxS3
namespace Go.Proofs.YtcfffgbnkjclfaaDoor
open Go.RowKit Go.Lib
set_option linter.unusedVariables false

end Go.Proofs.YtcfffgbnkjclfaaDoor
