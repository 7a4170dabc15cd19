/- P85: adjustments can be taken back. -/
import Derived.Test.YtehjjoalnfpgdaaDrAj
import Derived.Test.YtehjjoalnfpgdaaAq
import Derived.Test.YtehjjoalnfpgdaaAt
import Derived.Test.YtehjjoalnfpgdaaAk
import Derived.Test.YtehjjoalnfpgdaaLw
import Derived.Test.YtehjjoalnfpgdaaFr
namespace Go.Proofs.Ytehjjoalnfpgdaa
open Go.RowKit
set_option linter.unusedVariables false

set_option maxRecDepth 100000 in
set_option maxHeartbeats 6400000 in
theorem walk_FnAdjustBack (a0 : Option Addr) (len0 cap0 : Nat) (z0 : List Int) (w : World) (w0 : IsRow .u8 w a0 len0 cap0 z0) :
    Calls Try.prog 5 #[.slice a0 len0 cap0] w fun e w' => e = .returned (.bool true) ∧ Below w.heap.size w w' := by
  have ha := code_of_row w0
  obtain ⟨hl0, hm0⟩ := ha.1
  unfold maxLen at hm0
  clear w0
  by_cases h : len0 ≤ 1048576
  case' neg =>
    have hd : decide (1048576 < (len0 : Int)) = true := by simp; omega
    go_enter Try.func5, Try.ntmps5
    go_wp2
    go_ret
    exact ⟨rfl, Below.refl _ _⟩
  have hd : decide (1048576 < (len0 : Int)) = false := by simp; omega
  go_enter Try.func5, Try.ntmps5
  go_wp2_with fail
  refine (drawAdjustOf a0 len0 cap0 _ ha).mono ?_
  rintro e w1 ⟨a, b0, ca, cb, zs, cs, rfl, ⟨hl11, hca⟩, ⟨hl13, hcb⟩, hL1, hC1, k1⟩
  clear ha
  have hz := aoL_le zs cs
  go_wp2_with fail
  refine (ao_impl a b0 ca cb zs cs _ hL1 hC1 hca (by omega) (by omega)).mono ?_
  rintro e w2 ⟨p, q, rfl, hq, hF2, k2⟩
  go_wp2_with fail
  refine (ao_spec a b0 ca cb zs cs _ (hL1.keep k2) (hC1.keep k2) hca (by omega) (by omega)).mono ?_
  rintro e w3 ⟨p3, q3, rfl, hq3, hF3, k3⟩
  have K3 : Keep w1 w3 := k2.trans k3
  have hO := hF2.ls.keep k3
  have hW := hF3.ls
  have hL := hL1.keep K3
  have hC := hC1.keep K3
  have KF := k1.trans K3
  clear hF2 hF3 k2 k3 hL1 hC1 K3 k1
  rcases Bool.eq_false_or_eq_true (aoB zs cs) with hs | hs
  case' inr =>
    generalize aoL zs cs = L at *
    rw [hs]
    clear hs
    go_wp2_with fail
    refine (sI_eq p p3 q q3 L _ hO hW (by omega)).mono ?_
    rintro e w5 ⟨rfl, k5⟩
    go_wp2_with fail
    refine (sI_eq p p3 q q3 L _ (hO.keep k5) (hW.keep k5) (by omega)).mono ?_
    rintro e w7 ⟨rfl, k7⟩
    go_wp2
    go_ret
    exact ⟨rfl, (KF.trans k5).trans k7⟩
  obtain ⟨y1, y2, y3, y4, _⟩ := ao_yes hs
  obtain ⟨t1, t2⟩ := ao_back hs
  obtain ⟨l1, l8, hlc⟩ := ajB_len y1
  have hsl := asL_le zs cs
  have HAs := Lib.hid (fun W (k : Keep w3 W) => as_impl a b0 ca cb zs cs W (hL.keep k) (hC.keep k) hca (by omega) (by omega))
  have HAb := Lib.hid (fun W (k : Keep w3 W) x c (h : Ls W x (asL zs cs)) => ab_impl p b0 x q cb c (aoL zs cs) cs (asL zs cs) W (hO.keep k) (hC.keep k) h hq (by omega) (by omega) (by omega))
  rw [y1] at HAs
  rw [t1, t2] at HAb
  have HLz := Lib.hid (fun W (k : Keep w3 W) => hL.keep k)
  rw [hs]
  clear hs t1 t2 y1 y2 y3 y4 hL hC hlc
  generalize aoL zs cs = L at *
  generalize asL zs cs = S at *
  go_wp2_with fail
  refine (sI_eq p p3 q q3 L _ hO hW (by omega)).mono ?_
  rintro e w4 ⟨rfl, k4⟩
  go_wp2_with fail
  refine (HAs.out _ k4).mono ?_
  rintro e w5 ⟨p5, q5, rfl, hq5, hF5, k5⟩
  go_wp2_with fail
  refine (HAb.out _ (k4.trans k5) _ _ hF5.ls).mono ?_
  rintro e w6 ⟨p6, q6, rfl, hq6, hF6, k6⟩
  go_wp2_with fail
  refine (sI_eq p6 a q6 ca zs _ hF6.ls (HLz.out _ ((k4.trans k5).trans k6)) (by omega)).mono ?_
  rintro e w7 ⟨rfl, k7⟩
  go_wp2
  go_ret
  exact ⟨rfl, (((KF.trans k4).trans k5).trans k6).trans k7⟩
end Go.Proofs.Ytehjjoalnfpgdaa
