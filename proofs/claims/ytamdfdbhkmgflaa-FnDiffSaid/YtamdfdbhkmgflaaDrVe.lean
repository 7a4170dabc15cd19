/- How keys, and stores with keys or versions, are drawn. -/
import Derived.Test.YtamdfdbhkmgflaaDrSs
import Derived.Test.YtamdfdbhkmgflaaVw
import Derived.Test.YtamdfdbhkmgflaaDrArg
namespace Go.Proofs.Ytamdfdbhkmgflaa
open Go.RowKit
set_option linter.unusedVariables false

theorem keepOnly {B : Nat} {w w' : World} (k : Keep w w') : Only B w w' := ⟨Below.os k, Below.tape k, Below.output k, Below.size k, fun i hi _ => Below.block k i hi⟩
end Go.Proofs.Ytamdfdbhkmgflaa
