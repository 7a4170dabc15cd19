/- P81: a greater price has fewer cuts. -/
import Derived.Test.YtpgdbhafdnfhcaaDrBe
import Derived.Test.YtpgdbhafdnfhcaaBi
import Derived.Test.YtpgdbhafdnfhcaaBp
import Derived.Test.YtpgdbhafdnfhcaaBl
import Derived.Test.YtpgdbhafdnfhcaaLw
import Derived.Test.YtpgdbhafdnfhcaaFr
namespace Go.Proofs.Ytpgdbhafdnfhcaa
open Go.RowKit
set_option linter.unusedVariables false

set_option maxRecDepth 100000 in
set_option maxHeartbeats 6400000 in
theorem walk_FnBestPrice (a0 : Option Addr) (len0 cap0 : Nat) (z0 : List Int) (w : World) (w0 : IsRow .u8 w a0 len0 cap0 z0) :
    Calls Try.prog 9 #[.slice a0 len0 cap0] w fun e w' => e = .returned (.bool true) ∧ Below w.heap.size w w' := by
  have ha := code_of_row w0
  obtain ⟨hl0, hm0⟩ := ha.1
  unfold maxLen at hm0
  clear w0
  by_cases h : len0 ≤ 1048576
  case' neg =>
    have hd : decide (1048576 < (len0 : Int)) = true := by simp; omega
    go_enter Try.func9, Try.ntmps9
    go_wp2
    go_ret
    exact ⟨rfl, Below.refl _ _⟩
  have hd : decide (1048576 < (len0 : Int)) = false := by simp; omega
  go_enter Try.func9, Try.ntmps9
  go_wp2_with fail
  refine (drawCutsBest a0 len0 cap0 _ ha).mono ?_
  rintro e w1 ⟨a, ca, zs, price, rfl, ⟨hl11, hca⟩, hL1, ⟨hx0, hx1⟩, k1⟩
  clear ha
  go_wp2_with fail
  refine (cb_impl a ca zs price _ hL1 (by omega) hca).mono ?_
  rintro e w2 ⟨p, q, rfl, hq, hF2, k2⟩
  go_wp2_with fail
  refine (cb_spec a ca zs price _ (hL1.keep k2) (by omega) hca).mono ?_
  rintro e w3 ⟨p3, q3, rfl, hq3, hF3, k3⟩
  have K3 : Keep w1 w3 := k2.trans k3
  have hO := hF2.ls.keep k3
  have hW := hF3.ls
  have hL := hL1.keep K3
  have KF := k1.trans K3
  clear hF2 hF3 k2 k3 hL1 K3 k1
  rcases Bool.eq_false_or_eq_true (cbOk zs price) with hs | hs
  case' inr =>
    have hz : (cbL zs price).length ≤ 0 := Nat.le_of_eq (congrArg List.length (cbL_no hs))
    generalize cbL zs price = L at *
    rw [hs]
    clear hs
    go_wp2_with fail
    refine (sI_eq p p3 q q3 L _ hO hW (by omega)).mono ?_
    rintro e w5 ⟨rfl, k5⟩
    go_wp2_with fail
    refine (sI_eq p p3 q q3 L _ (hO.keep k5) (hW.keep k5) (by omega)).mono ?_
    rintro e w7 ⟨rfl, k7⟩
    go_wp2
    go_ret
    exact ⟨rfl, (KF.trans k5).trans k7⟩
  obtain ⟨c1, c2, ⟨c3, c4⟩, c5, c6⟩ := cb_cost hs
  by_cases h9 : price = 9999
  · subst h9
    generalize cbL zs 9999 = L at *
    rw [hs]
    go_wp2_with fail
    refine (sI_eq p p3 q q3 L _ hO hW (by omega)).mono ?_
    rintro e w4 ⟨rfl, k4⟩
    go_wp2_with fail
    refine (sI_eq p p3 q q3 L _ (hO.keep k4) (hW.keep k4) (by omega)).mono ?_
    rintro e w7 ⟨rfl, k7⟩
    go_wp2
    go_ret
    exact ⟨rfl, (KF.trans k4).trans k7⟩
  have hs2 : cbOk zs (price + 1) = true := by
    obtain ⟨x1, x2, x3, x4⟩ := cbOk_facts hs
    rw [cbOk, x1]; simp [inB]; omega
  have hle := cb_price hs hs2
  have hpb := cbOk_facts hs
  obtain ⟨-, -, hpb0, hpb1⟩ := hpb
  have hw : IntKind.i64.wrap (price + 1) = price + 1 := IntWalk.i64_in _ (by omega)
  have d9 : (price == 9999) = false := beq_eq_false_iff_ne.2 h9
  have HI := Lib.hid (fun W (k : Keep w3 W) => cb_impl a ca zs (price + 1) W (hL.keep k) (by omega) hca)
  rw [hs2] at HI
  rw [hs]
  clear hs hs2 c1 c2 c3 c4 c6 hL
  generalize cbL zs price = L at *
  generalize cbL zs (price + 1) = L2 at *
  have dl : decide (L2.length ≤ L.length) = true := decide_eq_true hle
  go_wp2_with fail
  refine (sI_eq p p3 q q3 L _ hO hW (by omega)).mono ?_
  rintro e w4 ⟨rfl, k4⟩
  go_wp2_with fail
  refine (HI.out _ k4).mono ?_
  rintro e w5 ⟨x, c, rfl, hxc, hF, k5⟩
  go_wp2
  all_goals go_ret
  all_goals exact ⟨by first | rfl | exact retB (by simp; omega), (KF.trans k4).trans k5⟩
end Go.Proofs.Ytpgdbhafdnfhcaa
