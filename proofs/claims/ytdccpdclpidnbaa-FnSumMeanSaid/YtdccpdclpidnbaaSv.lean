/- Stores: the program's function StoreValid and the model's answer 'stB'. -/
import Derived.Test.YtdccpdclpidnbaaRs
import Derived.LoopTactic
import Derived.Outline
namespace Go.Proofs.Ytdccpdclpidnbaa
open Go.RowKit
set_option linter.unusedVariables false

end Go.Proofs.Ytdccpdclpidnbaa
