/- Stores: the program's function StoreValid and the model's answer 'stB'. -/
import Derived.Test.YtcfffgbnkjclfaaRs
import Derived.LoopTactic
import Derived.Outline
namespace Go.Proofs.Ytcfffgbnkjclfaa
open Go.RowKit
set_option linter.unusedVariables false

end Go.Proofs.Ytcfffgbnkjclfaa
