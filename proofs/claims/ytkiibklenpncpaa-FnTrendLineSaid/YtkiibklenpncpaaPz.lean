/- PairsOf and TrendOf: the model. -/
import Derived.Test.YtkiibklenpncpaaPr
import Derived.Test.YtkiibklenpncpaaMd
import Derived.Deep.QuietTactic
import Derived.BigQuiet
import Derived.LoopTactic
import Derived.IntWalk
namespace Go.Proofs.Ytkiibklenpncpaa
open Go.RowKit
set_option linter.unusedVariables false

end Go.Proofs.Ytkiibklenpncpaa
