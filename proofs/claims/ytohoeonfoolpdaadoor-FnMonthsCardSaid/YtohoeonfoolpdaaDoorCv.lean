/- DateValid of the program. -/
import Derived.Test.YtohoeonfoolpdaaDoorCm
namespace Go.Proofs.YtohoeonfoolpdaaDoor
open Go.RowKit
set_option linter.unusedVariables false

end Go.Proofs.YtohoeonfoolpdaaDoor
