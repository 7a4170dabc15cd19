/- How the laws' stores are drawn; two stores held against each other. -/
import Derived.Test.YtamdfdbhkmgflaaDrSt
import Derived.Deep.QuietTactic
import Derived.BigQuiet
namespace Go.Proofs.Ytamdfdbhkmgflaa
open Go.RowKit
set_option linter.unusedVariables false

end Go.Proofs.Ytamdfdbhkmgflaa
