/- Runs of equal values around a day: the program and the model answer 'dn + 1 + up'. -/
import Derived.Test.YtpgdbhafdnfhcaaFg
import Derived.LoopTactic
import Derived.Deep.QuietTactic
import Derived.BigQuiet
namespace Go.Proofs.Ytpgdbhafdnfhcaa
open Go.RowKit
set_option linter.unusedVariables false

def runN (zs : List Int) (k : Nat) : Nat := dn zs k + 1 + up zs k
end Go.Proofs.Ytpgdbhafdnfhcaa
