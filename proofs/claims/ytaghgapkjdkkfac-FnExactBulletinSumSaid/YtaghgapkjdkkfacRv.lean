/- The two functions ReportValid (of the program and of its model) answer what 'rOk' says. -/
import Derived.Test.YtaghgapkjdkkfacKl
namespace Go.Proofs.Ytaghgapkjdkkfac
open Go.RowKit
set_option linter.unusedVariables false

def inB (n lo hi : Int) : Bool := decide (lo ≤ n) && decide (n ≤ hi)
def rOk (s d k v : Int) : Bool := kOk k && inB s 1 9 && inB d 0 999 && inB v (kLo k) (kHi k)

theorem retB {a b : Bool} (h : a = b) : Ending.returned (.bool a) = .returned (.bool b) := by rw [h]
theorem retI {a b : Int} (h : a = b) : Ending.returned (.int .i64 a) = .returned (.int .i64 b) := by rw [h]

end Go.Proofs.Ytaghgapkjdkkfac
