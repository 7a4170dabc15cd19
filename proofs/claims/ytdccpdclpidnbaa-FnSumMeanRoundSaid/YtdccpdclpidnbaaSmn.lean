/- A mean of a sum: the program and the model. -/
import Derived.Test.YtdccpdclpidnbaaHt
import Derived.Test.YtdccpdclpidnbaaKeep
namespace Go.Proofs.Ytdccpdclpidnbaa
open Go.RowKit
set_option linter.unusedVariables false

set_option maxHeartbeats 400000 in
theorem smn_impl (t m : Int) (w : World) :
    Calls Try.prog 47 #[.agg #[.int .i64 t, .int .i64 m]] w fun e w' => e = .returned (.tuple #[.int .i64 (ro t m), .bool (roOk t m)]) ∧ Keep w w' := by
  go_enter Try.func47, Try.ntmps47
  go_wp2_with fail
  refine (ro_impl t m _).mono ?_
  rintro e w1 ⟨rfl, rfl⟩
  go_wp2
  go_ret2
  exact ⟨rfl, (Keep.refl _).alloc _⟩
set_option maxHeartbeats 400000 in
theorem smn_spec (t m : Int) (w : World) :
    Calls Try.prog 49 #[.agg #[.int .i64 t, .int .i64 m]] w fun e w' => e = .returned (.tuple #[.int .i64 (ro t m), .bool (roOk t m)]) ∧ Keep w w' := by
  go_enter Try.func49, Try.ntmps49
  go_wp2_with fail
  refine (ro_spec t m _).mono ?_
  rintro e w1 ⟨rfl, rfl⟩
  go_wp2
  go_ret2
  exact ⟨rfl, (Keep.refl _).alloc _⟩
set_option maxHeartbeats 400000 in
theorem toSm (t m : Int) (w : World) :
    Calls Try.prog 50 #[.agg #[.int .i64 t, .int .i64 m]] w fun e w' => e = .returned (.agg #[.int .i64 t, .int .i64 m]) ∧ Keep w w' := by
  go_enter Try.func50, Try.ntmps50
  go_wp2
  refine bodyPost_ret (v := .agg #[.int .i64 t, .int .i64 m]) (by simp [results, Try.results50, go_sem, *]) rfl ⟨rfl, ?_⟩
  first | exact ((Keep.refl w).alloc _).alloc _ | exact (Keep.refl w).alloc _ | exact ((((Keep.refl w).alloc _).alloc _).setCell (by simp) _).setCell (by simp) _ | exact (((Keep.refl w).alloc _).alloc _).alloc _
end Go.Proofs.Ytdccpdclpidnbaa
