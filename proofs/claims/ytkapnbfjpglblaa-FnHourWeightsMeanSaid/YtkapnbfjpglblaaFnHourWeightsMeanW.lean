/- P33: a mean is one of weights. -/
import Derived.Test.YtkapnbfjpglblaaHx
import Derived.Test.YtkapnbfjpglblaaDrHm
import Derived.Test.YtkapnbfjpglblaaRf
import Derived.Test.YtkapnbfjpglblaaFr
import Derived.Deep.QuietTactic
import Derived.BigQuiet
import Derived.WalkLawsBesides
import Derived.Outline
import Derived.Deep.RegionHeld3
namespace Go.Proofs.Ytkapnbfjpglblaa
open Go.RowKit
set_option linter.unusedVariables false

set_option maxRecDepth 100000 in
set_option maxHeartbeats 3200000 in
theorem walk_FnHourWeightsMean (a0 : Option Addr) (len0 cap0 : Nat) (z0 : List Int) (w : World) (w0 : IsRow .u8 w a0 len0 cap0 z0) :
    Calls Try.prog 11 #[.slice a0 len0 cap0] w fun e w' => e = .returned (.bool true) ∧ Below w.heap.size w w' := by
  have ha := code_of_row w0
  obtain ⟨hl, hm⟩ := ha.1
  unfold maxLen at hm
  clear w0
  by_cases h : len0 ≤ 1048576
  case' neg =>
    have hd : decide (1048576 < (len0 : Int)) = true := by simp; omega
    go_enter Try.func11, Try.ntmps11
    go_wp2
    go_ret
    exact ⟨rfl, Below.refl _ _⟩
  have hd : decide (1048576 < (len0 : Int)) = false := by simp; omega
  go_enter Try.func11, Try.ntmps11
  have hmx := hm
  clear hm
  go_wp2_with fail
  refine (drawHourMean a0 len0 cap0 _ ha).mono ?_
  rintro e w1 ⟨a, c, zs, rfl, hl, hB, hL, k1⟩
  rcases Bool.eq_false_or_eq_true (hmOk zs) with hk | hk
  case' inr =>
    have HK := Lib.hid hk
    clear hk hB
    go_wp2_with fail
    refine (hm_impl a c zs _ hL (by omega)).mono ?_
    rintro e w2 ⟨he, k2⟩
    rw [HK.out] at he
    subst he
    go_wp2_with fail
    refine (hm_spec a c zs _ (hL.keep k2) (by omega)).mono ?_
    rintro e w3 ⟨he, k3⟩
    rw [HK.out] at he
    subst he
    go_wp2
    go_ret
    exact ⟨rfl, (show Keep w _ from (k1.trans k2).trans k3)⟩
  case' inl =>
    obtain ⟨_, h3, ⟨x0, x1⟩, ⟨y0, y1⟩, z0, z1⟩ := hmOk_facts hk
    have hmv := hm_yes hk
    obtain ⟨x, y, z, rfl, ex, ey, ez⟩ := three h3
    rw [ex] at x0 x1
    rw [ey] at y0 y1
    rw [ez] at z0 z1
    obtain ⟨r1, r2⟩ := rq_three x y z
    obtain ⟨o, ho⟩ : ∃ o, rq (x + y + 2 * z) 4 = o := ⟨_, rfl⟩
    have V : Hid (hm [x, y, z] = o ∧ hmOk [x, y, z] = true) := Lib.hid ⟨hmv.trans ho, hk⟩
    rw [ho] at r1 r2
    have HO := Lib.hid ho
    clear hmv ho ex ey ez hk h3 hl hB
    have o0 : -999 ≤ o := by omega
    have o1 : o ≤ 10999 := by omega
    go_wp2_with fail
    refine (hm_impl a c [x, y, z] _ hL (by simp)).mono ?_
    rintro e w2 ⟨he, k2⟩
    rw [V.out.1, V.out.2] at he
    subst he
    have hL2 := hL.keep k2
    go_wp2_with fail
    refine (hm_spec a c [x, y, z] _ hL2 (by simp)).mono ?_
    rintro e w3 ⟨he, k3⟩
    rw [V.out.1, V.out.2] at he
    subst he
    have hL3 := hL2.keep k3
    have c3 : Keep w w3 := (Keep.trans k1 k2).trans k3
    obtain ⟨b, off, rfl, hb, c0, c1, c2⟩ := hL3.three
    clear hL hL2
    have V2 : Hid (hw [x, y, z] [1, 1, 2] = o ∧ hwOk [x, y, z] [1, 1, 2] = true) := Lib.hid ⟨(hm_is _).2.trans V.out.1, (hm_is _).1.trans V.out.2⟩
    have V3 : Hid (hw [x, y, z] [3, 3, 6] = o ∧ hwOk [x, y, z] [3, 3, 6] = true) := Lib.hid (by
      have h1 : hwOk [x, y, z] [3, 3, 6] = true := by
        have h2 := (hwOk_facts V2.out.2).1
        have h3 : wtsB [3, 3, 6] = true := by decide
        simp only [hwOk, h2, h3]; rfl
      refine ⟨?_, h1⟩
      rw [hw_yes h1]
      have e1 : wsN [x, y, z] [3, 3, 6] [x, y, z].length = 3 * (x + y + 2 * z) := by simp [wsN]; omega
      have e2 : wtN [3, 3, 6] [x, y, z].length = 3 * 4 := rfl
      rw [e1, e2, rq_scale _ _ (by omega)]; exact HO.out)
    clear HO r1 r2 c0 c1 c2
    go_wp2_with fail
    refine (hw_impl _ _ c 3 [x, y, z] [1, 1, 2] _ (hL3.alloc _) (Ls.new [1, 1, 2] (Keep.refl _)) (by simp) (by simp)).mono ?_
    rintro e w4 ⟨he, k4⟩
    rw [V2.out.1, V2.out.2] at he
    subst he
    have hL4 := (hL3.alloc _).keep k4
    have c4 : Keep w w4 := (c3.alloc _).trans k4
    go_wp2_with fail
    refine (hw_impl _ _ c 3 [x, y, z] [3, 3, 6] _ (hL4.alloc _) (Ls.new [3, 3, 6] (Keep.refl _)) (by simp) (by simp)).mono ?_
    rintro e w5 ⟨he, k5⟩
    rw [V3.out.1, V3.out.2] at he
    subst he
    have c5 : Keep w w5 := (c4.alloc _).trans k5
    go_wp2
    go_ret
    exact ⟨rfl, c5⟩
end Go.Proofs.Ytkapnbfjpglblaa
