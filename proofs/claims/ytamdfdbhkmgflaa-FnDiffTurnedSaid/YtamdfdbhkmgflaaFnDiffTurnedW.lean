/- P153: the differences the other way round are the same; of a version and itself there are none. -/
import Derived.Test.YtamdfdbhkmgflaaDrDk
import Derived.Test.YtamdfdbhkmgflaaDrSa
import Derived.Test.YtamdfdbhkmgflaaKo
import Derived.Test.YtamdfdbhkmgflaaFr
namespace Go.Proofs.Ytamdfdbhkmgflaa
open Go.RowKit
set_option linter.unusedVariables false

set_option maxRecDepth 100000 in
set_option maxHeartbeats 3200000 in
theorem walk_FnDiffTurned (a0 : Option Addr) (len0 cap0 : Nat) (z0 : List Int) (w : World) (w0 : IsRow .u8 w a0 len0 cap0 z0) :
    Calls Try.prog 4 #[.slice a0 len0 cap0] w fun e w' => e = .returned (.bool true) ∧ Below w.heap.size w w' := by
  have ha := code_of_row w0
  obtain ⟨hl0, hm0⟩ := ha.1
  unfold maxLen at hm0
  clear w0
  by_cases h : len0 ≤ 1048576
  case' neg =>
    have hd : decide (1048576 < (len0 : Int)) = true := by simp; omega
    go_enter Try.func4, Try.ntmps4
    go_wp2
    go_ret
    exact ⟨rfl, Below.refl _ _⟩
  have hd : decide (1048576 < (len0 : Int)) = false := by simp; omega
  go_enter Try.func4, Try.ntmps4
  go_wp2_with fail
  refine (drawDiffOf a0 len0 cap0 _ ha).mono ?_
  rintro e w1 ⟨gg, c, rs, v, u, rfl, hl, hcl, hF, hv, hu, k1⟩
  have hL1 := hF.rs
  clear ha hF hv hu
  have hle := dfL_len rs v u
  have HI := Lib.hid (fun x y W (k : Keep w1 W) => df_impl _ c rs x y W (hL1.keep k) (by omega) hcl)
  have HS := Lib.hid (dfL_sym rs u v)
  have HE := Lib.hid (dfL_self rs v)
  go_wp2_with fail
  refine (HI.out v u _ (Keep.refl _)).mono ?_
  rintro e w2 ⟨p, q, rfl, hF2, k2⟩
  go_wp2_with fail
  refine (df_spec _ c rs v u _ (hL1.keep k2) (by omega) hcl).mono ?_
  rintro e w3 ⟨p3, q3, rfl, hF3, k3⟩
  have K3 : Keep w1 w3 := k2.trans k3
  have hO := hF2.ks.keep k3
  go_wp2_with fail
  refine (sK_same p p3 q q3 (dfL rs v u) _ hO hF3.ks (by omega)).mono ?_
  rintro e w4 ⟨rfl, k4⟩
  have K4 := K3.trans k4
  have hO4 := hO.keep k4
  go_wp2_with fail
  refine (HI.out u v _ K4).mono ?_
  rintro e w5 ⟨p5, q5, rfl, hF5, k5⟩
  rw [HS.out] at hF5 ⊢
  have hO5 := hO4.keep k5
  go_wp2_with fail
  refine (sK_same p5 p q5 q (dfL rs v u) _ hF5.ks hO5 (by omega)).mono ?_
  rintro e w6 ⟨rfl, k6⟩
  have K6 := (K4.trans k5).trans k6
  go_wp2_with fail
  refine (HI.out v v _ K6).mono ?_
  rintro e w7 ⟨p7, q7, rfl, hF7, k7⟩
  rw [HE.out]
  go_wp2
  go_ret
  exact ⟨by rfl, (k1.trans K6).trans k7⟩
end Go.Proofs.Ytamdfdbhkmgflaa
