/- P87: adjusting does not change what parts cost. -/
import Derived.Test.YtehjjoalnfpgdaaDrAj
import Derived.Test.YtehjjoalnfpgdaaAq
import Derived.Test.YtehjjoalnfpgdaaAt
import Derived.Test.YtehjjoalnfpgdaaAk
import Derived.Test.YtehjjoalnfpgdaaLw
import Derived.Test.YtehjjoalnfpgdaaFr
import Derived.Test.YtehjjoalnfpgdaaKd
namespace Go.Proofs.Ytehjjoalnfpgdaa
open Go.RowKit
set_option linter.unusedVariables false

set_option maxRecDepth 100000 in
set_option maxHeartbeats 6400000 in
theorem walk_FnAdjustCost (a0 : Option Addr) (len0 cap0 : Nat) (z0 : List Int) (w : World) (w0 : IsRow .u8 w a0 len0 cap0 z0) :
    Calls Try.prog 7 #[.slice a0 len0 cap0] w fun e w' => e = .returned (.bool true) ∧ Below w.heap.size w w' := by
  have ha := code_of_row w0
  obtain ⟨hl0, hm0⟩ := ha.1
  unfold maxLen at hm0
  clear w0
  by_cases h : len0 ≤ 1048576
  case' neg =>
    have hd : decide (1048576 < (len0 : Int)) = true := by simp; omega
    go_enter Try.func7, Try.ntmps7
    go_wp2
    go_ret
    exact ⟨rfl, Below.refl _ _⟩
  have hd : decide (1048576 < (len0 : Int)) = false := by simp; omega
  go_enter Try.func7, Try.ntmps7
  go_wp2_with fail
  refine (drawAdjustOf a0 len0 cap0 _ ha).mono ?_
  rintro e w1 ⟨a, b0, ca, cb, zs, cs, rfl, ⟨hl11, hca⟩, ⟨hl13, hcb⟩, hL1, hC1, k1⟩
  clear ha
  have hz := aoL_le zs cs
  go_wp2_with fail
  refine (ao_impl a b0 ca cb zs cs _ hL1 hC1 hca (by omega) (by omega)).mono ?_
  rintro e w2 ⟨p, q, rfl, hq, hF2, k2⟩
  go_wp2_with fail
  refine (ao_spec a b0 ca cb zs cs _ (hL1.keep k2) (hC1.keep k2) hca (by omega) (by omega)).mono ?_
  rintro e w3 ⟨p3, q3, rfl, hq3, hF3, k3⟩
  have K3 : Keep w1 w3 := k2.trans k3
  have hO := hF2.ls.keep k3
  have hW := hF3.ls
  have hL := hL1.keep K3
  have hC := hC1.keep K3
  have KF := k1.trans K3
  clear hF2 hF3 k2 k3 hL1 hC1 K3 k1
  rcases Bool.eq_false_or_eq_true (aoB zs cs) with hs | hs
  case' inr =>
    generalize aoL zs cs = L at *
    rw [hs]
    clear hs
    go_wp2_with fail
    refine (sI_eq p p3 q q3 L _ hO hW (by omega)).mono ?_
    rintro e w5 ⟨rfl, k5⟩
    go_wp2_with fail
    refine (sI_eq p p3 q q3 L _ (hO.keep k5) (hW.keep k5) (by omega)).mono ?_
    rintro e w7 ⟨rfl, k7⟩
    go_wp2
    go_ret
    exact ⟨rfl, (KF.trans k5).trans k7⟩
  obtain ⟨y1, y2, y3, y4, _⟩ := ao_yes hs
  have t1 := cc_ao hs 5
  obtain ⟨l1, l8, hlc⟩ := ajB_len y1
  have HC1 := Lib.hid (fun W (k : Keep w3 W) => cc_impl p b0 q cb (aoL zs cs) cs 5 W (hO.keep k) (hC.keep k) hq (by omega) (by omega))
  have HC2 := Lib.hid (fun W (k : Keep w3 W) => cc_impl a b0 ca cb zs cs 5 W (hL.keep k) (hC.keep k) hca (by omega) (by omega))
  rw [t1] at HC1
  rw [hs]
  clear hs t1 y1 y2 y3 y4 hL hC hlc
  generalize aoL zs cs = L at *
  generalize ccV zs cs 5 = V at *
  go_wp2_with fail
  refine (sI_eq p p3 q q3 L _ hO hW (by omega)).mono ?_
  rintro e w4 ⟨rfl, k4⟩
  go_wp2_with fail
  refine (HC1.out _ k4).mono ?_
  rintro e w5 ⟨rfl, k5⟩
  go_wp2_with fail
  refine (HC2.out _ (k4.trans k5)).mono ?_
  rintro e w6 ⟨rfl, k6⟩
  go_wp2
  go_ret
  exact ⟨retB (by simp), ((KF.trans k4).trans k5).trans k6⟩
end Go.Proofs.Ytehjjoalnfpgdaa
