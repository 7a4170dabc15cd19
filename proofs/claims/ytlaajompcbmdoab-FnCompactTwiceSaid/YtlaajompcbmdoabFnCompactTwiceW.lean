/- A compact store is its own compact store. -/
import Derived.Test.YtlaajompcbmdoabDrVe
import Derived.Test.YtlaajompcbmdoabDrSa
import Derived.Test.YtlaajompcbmdoabVp
import Derived.Test.YtlaajompcbmdoabVc
import Derived.Test.YtlaajompcbmdoabFr
namespace Go.Proofs.Ytlaajompcbmdoab
open Go.RowKit
set_option linter.unusedVariables false

set_option maxRecDepth 100000 in
set_option maxHeartbeats 3200000 in
theorem walk_FnCompactTwice (a0 : Option Addr) (len0 cap0 : Nat) (z0 : List Int) (w : World) (w0 : IsRow .u8 w a0 len0 cap0 z0) :
    Calls Try.prog 11 #[.slice a0 len0 cap0] w fun e w' => e = .returned (.bool true) ∧ Below w.heap.size w w' := by
  have ha := code_of_row w0
  obtain ⟨hl0, hm0⟩ := ha.1
  unfold maxLen at hm0
  clear w0
  by_cases h : len0 ≤ 1048576
  case' neg =>
    have hd : decide (1048576 < (len0 : Int)) = true := by simp; omega
    go_enter Try.func11, Try.ntmps11
    go_wp2
    go_ret
    exact ⟨rfl, Below.refl _ _⟩
  have hd : decide (1048576 < (len0 : Int)) = false := by simp; omega
  go_enter Try.func11, Try.ntmps11
  go_wp2_with fail
  refine (drawCompactOf a0 len0 cap0 _ ha).mono ?_
  rintro e w1 ⟨gg, c, rs, rfl, hl, hcl, hF, k1⟩
  have hL1 := hF.rs
  clear ha hF
  have hle := cpL_len rs
  have HSV := Lib.hid (fun W (k : Keep w1 W) => sv_spec _ c rs W (hL1.keep k) (by omega))
  go_wp2_with fail
  refine (cp_impl _ c rs _ hL1 (by omega) hcl).mono ?_
  rintro e w2 ⟨p, q, rfl, hq2, hF2, k2⟩
  have K2 : Keep w1 w2 := k2
  go_wp2_with fail
  refine (cp_spec _ c rs _ (hL1.keep K2) (by omega) hcl).mono ?_
  rintro e w3 ⟨p3, q3, rfl, hq3, hF3, k3⟩
  have K3 : Keep w1 w3 := K2.trans k3
  have hO := hF2.rs.keep k3
  have hW := hF3.rs
  clear hF2 hF3 k2 k3 K2
  go_wp2_with fail
  refine (sR_same p p3 q q3 (cpL rs) _ hO hW (by omega)).mono ?_
  rintro e w4 ⟨rfl, k4⟩
  rcases Bool.eq_false_or_eq_true (stB rs) with hs | hs
  case' inr =>
    rw [hs] at HSV
    clear hs
    go_wp2_with fail
    refine (HSV.out _ (K3.trans k4)).mono ?_
    rintro e w5 ⟨rfl, k5⟩
    go_wp2_with fail
    refine (sR_same p p3 q q3 (cpL rs) _ ((hO.keep k4).keep k5) ((hW.keep k4).keep k5) (by omega)).mono ?_
    rintro e w6 ⟨rfl, k6⟩
    go_wp2
    go_ret
    exact ⟨rfl, (((k1.trans K3).trans k4).trans k5).trans k6⟩
  rw [hs] at HSV
  go_wp2_with fail
  refine (HSV.out _ (K3.trans k4)).mono ?_
  rintro e w5 ⟨rfl, k5⟩
  have K5 : Keep w1 w5 := (K3.trans k4).trans k5
  have hO5 := (hO.keep k4).keep k5
  clear hO hW K3 k4 k5 HSV
  have HC := Lib.hid (cp_changes hs)
  go_wp2_with fail
  refine (cp_impl p q (cpL rs) _ hO5 (by omega) hq2).mono ?_
  rintro e w6 ⟨p6, q6, rfl, hq6, hF6, k6⟩
  have hT2 := cp_twiceL hs
  rw [hT2] at hF6 ⊢
  clear hT2 hq6
  have hO6 := hO5.keep k6
  go_wp2_with fail
  refine (sR_same p6 p q6 q (cpL rs) _ hF6.rs hO6 (by omega)).mono ?_
  rintro e w7 ⟨rfl, k7⟩
  go_wp2_with fail
  refine (sc_impl p q (cpL rs) _ (hO6.keep k7) (by omega)).mono ?_
  rintro e w8 ⟨p8, q8, rfl, hF8, k8⟩
  have K8 : Keep w1 w8 := ((K5.trans k6).trans k7).trans k8
  go_wp2_with fail
  refine (sc_impl _ c rs _ (hL1.keep K8) (by omega)).mono ?_
  rintro e w9 ⟨p9, q9, rfl, hF9, k9⟩
  have hcc : (((scL (cpL rs)).length : Int) == ((scL rs).length : Int)) = true := by rw [HC.out]; simp
  go_wp2
  go_ret
  exact ⟨retB (by first | rfl | exact hcc | (rw [HC.out]; simp)), (k1.trans K8).trans k9⟩
end Go.Proofs.Ytlaajompcbmdoab
