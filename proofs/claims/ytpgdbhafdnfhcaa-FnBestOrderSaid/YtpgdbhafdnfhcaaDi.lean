/- Differences without a sign, and steps: 'dst'. -/
import Derived.Test.YtpgdbhafdnfhcaaHl
import Derived.Test.YtpgdbhafdnfhcaaRv
namespace Go.Proofs.Ytpgdbhafdnfhcaa
open Go.RowKit
set_option linter.unusedVariables false

/-- The difference of two numbers, without its sign. -/
def dst (x y : Int) : Int := if x < y then y - x else x - y
theorem dst_nn (x y : Int) : 0 ≤ dst x y := by unfold dst; split <;> omega
theorem dst_max (x y : Int) : dst x y = max (x - y) (y - x) := by unfold dst; split <;> omega
theorem dst_comm (x y : Int) : dst x y = dst y x := by unfold dst; split <;> split <;> omega
theorem dst_in (x y st : Int) : decide (st < dst y x) = !(inB (x - y) (-st) st) := by
  unfold dst inB
  rw [Bool.eq_iff_iff]
  split <;> simp <;> omega
set_option maxHeartbeats 400000 in
theorem dst_any (x y : Int) (w : World) (x0 : -100000 ≤ x) (x1 : x ≤ 100000) (y0 : -100000 ≤ y) (y1 : y ≤ 100000) :
    Calls Try.prog 88 #[.int .i64 x, .int .i64 y] w fun e w' => e = .returned (.int .i64 (dst x y)) ∧ w = w' := by
  by_cases h : x < y
  · have hd : dst x y = y - x := by rw [dst, if_pos h]
    have H := Lib.hid hd
    clear hd
    go_enter Try.func88, Try.ntmps88
    go_wp2
    all_goals
      go_ret
      exact ⟨retI (by have := H.out; omega), rfl⟩
  · have hd : dst x y = x - y := by rw [dst, if_neg h]
    have H := Lib.hid hd
    clear hd
    go_enter Try.func88, Try.ntmps88
    go_wp2
    all_goals
      go_ret
      exact ⟨retI (by have := H.out; omega), rfl⟩
end Go.Proofs.Ytpgdbhafdnfhcaa
