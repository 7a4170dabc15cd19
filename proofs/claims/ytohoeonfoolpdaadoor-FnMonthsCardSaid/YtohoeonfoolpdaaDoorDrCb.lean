/- How dates are drawn. -/
import Derived.Test.YtohoeonfoolpdaaDoorDrCal
import Derived.Deep.RegionHeld3
import Derived.Deep.DeepCutAuto
namespace Go.Proofs.YtohoeonfoolpdaaDoor
open Go.RowKit
set_option linter.unusedVariables false

def DrewDate (w : World) (B p k : Nat) (e : Ending) (w' : World) : Prop :=
  ∃ (y m d : Int) (q : Nat), e = .returned (.agg #[.int .i64 y, .int .i64 m, .int .i64 d]) ∧ (0 ≤ y ∧ y ≤ 2300) ∧ (0 ≤ m ∧ m ≤ 40) ∧ (0 ≤ d ∧ d ≤ 40) ∧ q ≤ p + k ∧ Rd w' B q ∧ Only B w w'

def DrewDC (w : World) (e : Ending) (w' : World) : Prop :=
  ∃ y m d c : Int, e = .returned (.tuple #[.agg #[.int .i64 y, .int .i64 m, .int .i64 d], .int .i64 c]) ∧ (0 ≤ y ∧ y ≤ 2300) ∧ (0 ≤ m ∧ m ≤ 40) ∧ (0 ≤ d ∧ d ≤ 40) ∧ (0 ≤ c ∧ c ≤ 3) ∧ Keep w w'
end Go.Proofs.YtohoeonfoolpdaaDoor
