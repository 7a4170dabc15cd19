/- Stores: the program's function StoreValid and the model's answer 'stB'. -/
import Derived.Test.YtohoeonfoolpdaaDoorRs
import Derived.LoopTactic
import Derived.Outline
namespace Go.Proofs.YtohoeonfoolpdaaDoor
open Go.RowKit
set_option linter.unusedVariables false

end Go.Proofs.YtohoeonfoolpdaaDoor
