/- The laws' own dates: made into the program's; two dates compared. -/
import Derived.Test.YthlabofegjfmfaaDoorCv
import Derived.Test.YthlabofegjfmfaaDoorCw
import Derived.StillTailTactics
import Derived.Test.YthlabofegjfmfaaDoorStill
namespace Go.Proofs.YthlabofegjfmfaaDoor
open Go.RowKit
set_option linter.unusedVariables false

set_option maxHeartbeats 400000 in
theorem toDate_any (y m d : Int) (w : World) :
    Calls Tryd.prog 31 #[.agg #[.int .i64 y, .int .i64 m, .int .i64 d]] w fun e w' => e = .returned (.agg #[.int .i64 y, .int .i64 m, .int .i64 d]) ∧ Keep w w' := by
  go_enter Tryd.func31, Tryd.ntmps31
  go_wp2_with fail
  first
    | (refine bodyPost_ret (v := .agg #[.int .i64 y, .int .i64 m, .int .i64 d]) (by simp [results, Tryd.results31, go_sem, *]) rfl ⟨rfl, ?_⟩; (repeat' (first | with_reducible exact Keep.refl _ | with_reducible refine Keep.setCell ?_ (by simp) _ | with_reducible refine Keep.drewN ?_ _ | with_reducible refine Keep.alloc ?_ _)); done)
    | (go_quiet (fail); go_wp2; refine bodyPost_ret (v := .agg #[.int .i64 y, .int .i64 m, .int .i64 d]) (by simp [results, Tryd.results31, go_sem, *]) rfl ⟨rfl, ?_⟩; (repeat' (first | with_reducible exact Keep.refl _ | with_reducible refine Keep.setCell ?_ (by simp) _ | with_reducible refine Keep.drewN ?_ _ | with_reducible refine Keep.alloc ?_ _)); done)
set_option maxHeartbeats 400000 in
theorem eqDate_same (y m d : Int) (w : World) :
    Calls Tryd.prog 32 #[.agg #[.int .i64 y, .int .i64 m, .int .i64 d], .agg #[.int .i64 y, .int .i64 m, .int .i64 d]] w fun e w' => e = .returned (.bool true) ∧ Keep w w' := by
  go_enter Tryd.func32, Tryd.ntmps32
  go_wp2_with fail
  first
    | (go_ret; exact ⟨rfl, ((Keep.refl w).alloc _).alloc _⟩)
    | (go_quiet (fail); go_wp2; go_ret; exact ⟨rfl, (((Keep.refl w).alloc _).alloc _).drewN _⟩)
end Go.Proofs.YthlabofegjfmfaaDoor
