/- How the series of extremes are drawn. -/
import Derived.Test.YtmndlghadgccbadDrSq
namespace Go.Proofs.Ytmndlghadgccbad
open Go.RowKit
set_option linter.unusedVariables false

theorem drawRecordDays (a0 : Option Addr) (len cap : Nat) (w : World) (ha : CodeArg w a0 len cap) :
    Calls Try.prog 35 #[.slice a0 len cap] w (DrewSq w) := by
  go_enter Try.func35, Try.ntmps35
  go_wp2_with fail
  refine (drawSeriesValid a0 len cap _ ha).mono ?_
  rintro e w1 ⟨a, c, zs, rfl, hl, hc, hB, hL, hk⟩
  go_wp2
  go_ret
  exact ⟨a, c, zs, rfl, hl, hc, hB, hL, hk⟩
end Go.Proofs.Ytmndlghadgccbad
