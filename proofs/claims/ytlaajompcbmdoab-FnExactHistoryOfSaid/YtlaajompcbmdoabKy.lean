/- A key of the law's own type turned into one of the program's. -/
import Derived.Test.YtlaajompcbmdoabKeep
import Derived.WalkKit
namespace Go.Proofs.Ytlaajompcbmdoab
open Go.RowKit
set_option linter.unusedVariables false

set_option maxHeartbeats 400000 in
theorem toKey3 (s d t : Int) (w : World) :
    Calls Try.prog 18 #[.agg #[.int .i64 s, .int .i64 d, .int .i64 t]] w fun e w' => e = .returned (.agg #[.int .i64 s, .int .i64 d, .int .i64 t]) ∧ Below w.heap.size w w' := by
  go_enter Try.func18, Try.ntmps18
  go_wp2
  refine bodyPost_ret (v := .agg #[.int .i64 s, .int .i64 d, .int .i64 t]) (by simp [results, Try.results18, go_sem]) rfl ⟨rfl, ?_⟩
  repeat (first | exact Below.refl _ _ | refine Below.setCell ?_ (by simp <;> omega) _ | refine Below.alloc ?_ (by simp <;> omega) _)
end Go.Proofs.Ytlaajompcbmdoab
