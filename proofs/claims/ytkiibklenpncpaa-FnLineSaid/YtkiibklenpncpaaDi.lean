/- Differences without a sign, and steps: 'dst'. -/
import Derived.Test.YtkiibklenpncpaaHl
import Derived.Test.YtkiibklenpncpaaRv
namespace Go.Proofs.Ytkiibklenpncpaa
open Go.RowKit
set_option linter.unusedVariables false

/-- The difference of two numbers, without its sign. -/
def dst (x y : Int) : Int := if x < y then y - x else x - y
theorem dst_nn (x y : Int) : 0 ≤ dst x y := by unfold dst; split <;> omega
theorem dst_max (x y : Int) : dst x y = max (x - y) (y - x) := by unfold dst; split <;> omega
theorem dst_comm (x y : Int) : dst x y = dst y x := by unfold dst; split <;> split <;> omega
theorem dst_in (x y st : Int) : decide (st < dst y x) = !(inB (x - y) (-st) st) := by
  unfold dst inB
  rw [Bool.eq_iff_iff]
  split <;> simp <;> omega
set_option maxHeartbeats 400000 in
theorem gsv_any (x : Int) (w : World) :
    Calls Try.prog 114 #[.int .i64 x] w fun e w' => e = .returned (.bool (inB x 0 19999)) ∧ w = w' := by
  go_enter Try.func114, Try.ntmps114
  go_wp2
  all_goals
    go_ret
    refine ⟨retB ?_, rfl⟩
    rw [Bool.eq_iff_iff]; simp [inB]; try omega
end Go.Proofs.Ytkiibklenpncpaa
