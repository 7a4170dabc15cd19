/- Stores: the program's function StoreValid and the model's answer 'stB'. -/
import Derived.Test.YtlaajompcbmdoacRs
import Derived.LoopTactic
import Derived.Outline
namespace Go.Proofs.Ytlaajompcbmdoac
open Go.RowKit
set_option linter.unusedVariables false

end Go.Proofs.Ytlaajompcbmdoac
