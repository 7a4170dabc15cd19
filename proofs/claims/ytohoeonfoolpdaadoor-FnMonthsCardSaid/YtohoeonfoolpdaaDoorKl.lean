/- The two functions KindLimits (of the program and of its model) answer what 'kLo', 'kHi' and 'kOk' say. -/
import Derived.Test.YtohoeonfoolpdaaDoorRows
import Derived.WalkKit
namespace Go.Proofs.YtohoeonfoolpdaaDoor
open Go.RowKit

def kLo (k : Int) : Int := if k = 1 then -600 else if k = 3 then 8500 else 0
def kHi (k : Int) : Int := if k = 1 then 600 else if k = 2 then 2000 else if k = 3 then 10900 else 0
def kOk (k : Int) : Bool := decide (1 ≤ k ∧ k ≤ 3)

theorem kVal {k lo hi : Int} {b : Bool} (h1 : lo = kLo k) (h2 : hi = kHi k) (h3 : b = kOk k) :
    Ending.returned (.tuple #[.int .i64 lo, .int .i64 hi, .bool b]) = .returned (.tuple #[.int .i64 (kLo k), .int .i64 (kHi k), .bool (kOk k)]) := by
  rw [h1, h2, h3]

end Go.Proofs.YtohoeonfoolpdaaDoor
