/- What every frame asks of the whole program, once: these take a minute each by the kernel, and the same for every law of the seat. -/
import Derived.Test.YtamdfdbhkmgflaaRows
import Derived.JoinedOf
namespace Go.Proofs.Ytamdfdbhkmgflaa
theorem jf_enter : Try.pinned.checked.prog.mayEnter = true := by kernel_rfl
theorem jf_lifts : Try.pinned.checked.prog.liftsFinal = false := by kernel_rfl
theorem jf_make : Try.pinned.checked.prog.make = some .cut := by kernel_rfl
end Go.Proofs.Ytamdfdbhkmgflaa
