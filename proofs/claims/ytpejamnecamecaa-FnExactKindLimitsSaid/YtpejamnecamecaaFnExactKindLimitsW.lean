/- The walk of the law on KindLimits: both functions answer alike. -/
import Derived.Test.YtpejamnecamecaaKl
import Derived.RowKit3
namespace Go.Proofs.Ytpejamnecamecaa
open Go.RowKit
set_option linter.unusedVariables false

set_option maxHeartbeats 400000 in
theorem walk_FnExactKindLimits (k : Int) (w : World) (wf : (Lit.int .i64 k).wf = true) :
    Calls Try.prog 8 #[.int .i64 k] w fun e w' => e = .returned (.bool true) ∧ Below w.heap.size w w' := by
  go_enter Try.func8, Try.ntmps8
  go_wp2_with (first | (go_at_call 17; refine (kl_spec _ _).mono ?_; rintro e w' ⟨rfl, rfl⟩) | (go_at_call 15; refine (kl_impl _ _).mono ?_; rintro e w' ⟨rfl, rfl⟩))
  go_ret
  exact ⟨rfl, Below.refl _ _⟩
end Go.Proofs.Ytpejamnecamecaa
