/- TrendOf: the program answers as its model, and leaves its argument alone. -/
import Derived.Test.YtlaajompcbmdoacPy
import Derived.Test.YtlaajompcbmdoacTj
import Derived.Test.YtlaajompcbmdoacFr
namespace Go.Proofs.Ytlaajompcbmdoac
open Go.RowKit
set_option linter.unusedVariables false

set_option maxRecDepth 100000 in
set_option maxHeartbeats 1000000 in
theorem walk_FnExactTrendOf (a0 : Option Addr) (len0 cap0 : Nat) (z0 : List Int) (w : World) (w0 : IsRow .i64 w a0 len0 cap0 z0) :
    Calls Try.prog 10 #[.slice a0 len0 cap0] w fun e w' => e = .returned (.bool true) ∧ Below w.heap.size w w' := by
  obtain ⟨y0, hl0, hL0, ⟨hm0, hM0⟩, hW0⟩ := ls_of_row w0
  subst hl0
  clear w0 hW0
  unfold maxLen at hM0
  by_cases h0 : y0.length ≤ 1048576
  case' neg =>
    have hd0 : decide (1048576 < (y0.length : Int)) = true := by simp; omega
    go_enter Try.func10, Try.ntmps10
    go_wp2
    go_ret
    exact ⟨rfl, Below.refl _ _⟩
  have hd0 : decide (1048576 < (y0.length : Int)) = false := by simp; omega
  go_enter Try.func10, Try.ntmps10
  go_wp2_with fail
  refine (toI_lt _ _ y0 _ (hL0) h0).mono ?_
  rintro e w1 ⟨g1, hg1, hl1, rfl, hW1, k1⟩
  have c1 : Keep w w1 := Keep.trans (Keep.refl w) k1
  go_wp2_with fail
  refine (tv_spec _ _ y0 _ hW1.ls h0).mono ?_
  rintro e w2 ⟨rfl, k2⟩
  have c2 : Keep w w2 := Keep.trans c1 k2
  go_wp2_with fail
  refine (toI_lt _ _ y0 _ (hL0.keep c2) h0).mono ?_
  rintro e w3 ⟨g3, hg3, hl3, rfl, hW3, k3⟩
  have c3 : Keep w w3 := Keep.trans c2 k3
  go_wp2_with fail
  refine (tv_impl _ _ y0 _ hW3.ls h0).mono ?_
  rintro e w4 ⟨rfl, k4⟩
  have c4 : Keep w w4 := Keep.trans c3 k4
  go_wp2_with fail
  refine (toI_lt _ _ y0 _ (hL0.keep c4) h0).mono ?_
  rintro e w5 ⟨g5, hg5, hl5, rfl, hW5, k5⟩
  have c5 : Keep w w5 := Keep.trans c4 k5
  go_wp2_with fail
  refine (eqI_same _ _ _ _ y0 _ ((hW3.keep k4).keep k5).ls hW5.ls h0).mono ?_
  rintro e w6 ⟨rfl, n6, rfl⟩
  have c6 := c5.drewN n6
  have k6 := (Keep.refl w5).drewN n6
  go_wp2
  go_ret
  exact ⟨rfl, c6⟩
end Go.Proofs.Ytlaajompcbmdoac
