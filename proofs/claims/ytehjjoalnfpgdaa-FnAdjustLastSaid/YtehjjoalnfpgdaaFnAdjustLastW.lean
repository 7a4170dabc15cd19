/- P86: the last part is not changed. -/
import Derived.Test.YtehjjoalnfpgdaaDrAj
import Derived.Test.YtehjjoalnfpgdaaAq
import Derived.Test.YtehjjoalnfpgdaaAt
import Derived.Test.YtehjjoalnfpgdaaAk
import Derived.Test.YtehjjoalnfpgdaaLw
import Derived.Test.YtehjjoalnfpgdaaFr
import Derived.IntWalk
namespace Go.Proofs.Ytehjjoalnfpgdaa
open Go.RowKit
set_option linter.unusedVariables false

set_option maxRecDepth 100000 in
set_option maxHeartbeats 6400000 in
theorem walk_FnAdjustLast (a0 : Option Addr) (len0 cap0 : Nat) (z0 : List Int) (w : World) (w0 : IsRow .u8 w a0 len0 cap0 z0) :
    Calls Try.prog 6 #[.slice a0 len0 cap0] w fun e w' => e = .returned (.bool true) ∧ Below w.heap.size w w' := by
  have ha := code_of_row w0
  obtain ⟨hl0, hm0⟩ := ha.1
  unfold maxLen at hm0
  clear w0
  by_cases h : len0 ≤ 1048576
  case' neg =>
    have hd : decide (1048576 < (len0 : Int)) = true := by simp; omega
    go_enter Try.func6, Try.ntmps6
    go_wp2
    go_ret
    exact ⟨rfl, Below.refl _ _⟩
  have hd : decide (1048576 < (len0 : Int)) = false := by simp; omega
  go_enter Try.func6, Try.ntmps6
  go_wp2_with fail
  refine (drawAdjustSteps a0 len0 cap0 _ ha).mono ?_
  rintro e w1 ⟨a, b0, ca, cb, zs, cs, rfl, ⟨hl11, hca⟩, ⟨hl13, hcb⟩, hL1, hC1, k1⟩
  clear ha
  have hz := asL_le zs cs
  go_wp2_with fail
  refine (as_impl a b0 ca cb zs cs _ hL1 hC1 hca (by omega) (by omega)).mono ?_
  rintro e w2 ⟨p, q, rfl, hq, hF2, k2⟩
  go_wp2_with fail
  refine (as_spec a b0 ca cb zs cs _ (hL1.keep k2) (hC1.keep k2) hca (by omega) (by omega)).mono ?_
  rintro e w3 ⟨p3, q3, rfl, hq3, hF3, k3⟩
  have K3 : Keep w1 w3 := k2.trans k3
  have hO := hF2.ls.keep k3
  have hW := hF3.ls
  have hL := hL1.keep K3
  have hC := hC1.keep K3
  have KF := k1.trans K3
  clear hF2 hF3 k2 k3 hL1 hC1 K3 k1
  rcases Bool.eq_false_or_eq_true (ajB zs cs) with hs | hs
  case' inr =>
    generalize asL zs cs = L at *
    rw [hs]
    clear hs
    go_wp2_with fail
    refine (sI_eq p p3 q q3 L _ hO hW (by omega)).mono ?_
    rintro e w5 ⟨rfl, k5⟩
    go_wp2_with fail
    refine (sI_eq p p3 q q3 L _ (hO.keep k5) (hW.keep k5) (by omega)).mono ?_
    rintro e w7 ⟨rfl, k7⟩
    go_wp2
    go_ret
    exact ⟨rfl, (KF.trans k5).trans k7⟩
  obtain ⟨t1, t2⟩ := ao_none (ajB_facts hs).1
  obtain ⟨l1, l8, hlc⟩ := ajB_len hs
  have hsl : Hid ((asL zs cs).length = cs.length + 1 ∧ (asL zs cs).getD cs.length 0 = 0) := Lib.hid (by rw [asL_yes hs]; exact ⟨asl_len zs cs, asl_last zs cs⟩)
  have HAo := Lib.hid (fun W (k : Keep w3 W) g c => ao_impl a (some ⟨g, 0, none⟩) ca c zs [] W (hL.keep k) (.inl rfl) hca (by omega) (by simp))
  rw [t1, t2] at HAo
  have HLz := Lib.hid (fun W (k : Keep w3 W) => hL.keep k)
  rw [hs]
  clear hs t1 t2 hL hC l1
  obtain ⟨m, hm9⟩ : ∃ m, cs.length = m := ⟨_, rfl⟩
  rw [hm9] at hsl hlc hl13 hcb hz ⊢
  clear hm9
  generalize asL zs cs = L at *
  go_wp2_with fail
  refine (sI_eq p p3 q q3 L _ hO hW (by omega)).mono ?_
  rintro e w4 ⟨rfl, k4⟩
  have hO4 := hO.keep k4
  rw [hsl.out.1]
  go_wp2_with fail
  refine (HAo.out _ (k4.alloc _) _ _).mono ?_
  rintro e w5 ⟨p5, q5, rfl, hq5, hF5, k5⟩
  have K5 : Keep w4 w5 := ((Keep.refl w4).alloc _).trans k5
  obtain ⟨b9, o9, rfl, _, c9⟩ := (hO4.keep K5).at_ (i := m) (by rw [hsl.out.1]; omega)
  rw [hsl.out.2] at c9
  have m0 : (0 : Int) ≤ (m : Int) := by omega
  have m1 : (m : Int) < (m : Int) + 1 := by omega
  have ew : IntKind.i64.wrap ((m : Int) + 1) = (m : Int) + 1 := IntWalk.i64_in _ ⟨by omega, by omega⟩
  clear hO4 hsl k5
  go_wp2_with fail
  refine (sI_eq p5 a q5 ca zs _ (by first | exact hF5.ls | exact hF5.ls.drewN _) (HLz.out _ (by first | exact k4.trans K5 | exact (k4.trans K5).drewN _)) (by omega)).mono ?_
  rintro e w7 ⟨rfl, k7⟩
  go_wp2
  go_ret
  exact ⟨rfl, ((KF.trans k4).trans K5).trans k7⟩
end Go.Proofs.Ytehjjoalnfpgdaa
