/- The model's text of a report. -/
import Derived.Test.YtcfffgbnkjclfaaTxS1
import Derived.Test.YtcfffgbnkjclfaaTxS2
import Derived.Test.YtcfffgbnkjclfaaTxS3
namespace Go.Proofs.Ytcfffgbnkjclfaa
open Go.RowKit Go.Lib
set_option linter.unusedVariables false

end Go.Proofs.Ytcfffgbnkjclfaa
