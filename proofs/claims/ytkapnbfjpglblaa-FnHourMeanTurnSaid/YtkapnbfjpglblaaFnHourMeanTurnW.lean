/- P30: both first readings count alike. -/
import Derived.Test.YtkapnbfjpglblaaHx
import Derived.Test.YtkapnbfjpglblaaDrHm
import Derived.Test.YtkapnbfjpglblaaRf
import Derived.Test.YtkapnbfjpglblaaFr
import Derived.Deep.QuietTactic
import Derived.BigQuiet
import Derived.WalkLawsBesides
import Derived.Outline
import Derived.Deep.RegionHeld3
namespace Go.Proofs.Ytkapnbfjpglblaa
open Go.RowKit
set_option linter.unusedVariables false

set_option maxRecDepth 100000 in
set_option maxHeartbeats 3200000 in
theorem walk_FnHourMeanTurn (a0 : Option Addr) (len0 cap0 : Nat) (z0 : List Int) (w : World) (w0 : IsRow .u8 w a0 len0 cap0 z0) :
    Calls Try.prog 8 #[.slice a0 len0 cap0] w fun e w' => e = .returned (.bool true) ∧ Below w.heap.size w w' := by
  have ha := code_of_row w0
  obtain ⟨hl, hm⟩ := ha.1
  unfold maxLen at hm
  clear w0
  by_cases h : len0 ≤ 1048576
  case' neg =>
    have hd : decide (1048576 < (len0 : Int)) = true := by simp; omega
    go_enter Try.func8, Try.ntmps8
    go_wp2
    go_ret
    exact ⟨rfl, Below.refl _ _⟩
  have hd : decide (1048576 < (len0 : Int)) = false := by simp; omega
  go_enter Try.func8, Try.ntmps8
  have hmx := hm
  clear hm
  go_wp2_with fail
  refine (drawHourMean a0 len0 cap0 _ ha).mono ?_
  rintro e w1 ⟨a, c, zs, rfl, hl, hB, hL, k1⟩
  rcases Bool.eq_false_or_eq_true (hmOk zs) with hk | hk
  case' inr =>
    have HK := Lib.hid hk
    clear hk hB
    go_wp2_with fail
    refine (hm_impl a c zs _ hL (by omega)).mono ?_
    rintro e w2 ⟨he, k2⟩
    rw [HK.out] at he
    subst he
    go_wp2_with fail
    refine (hm_spec a c zs _ (hL.keep k2) (by omega)).mono ?_
    rintro e w3 ⟨he, k3⟩
    rw [HK.out] at he
    subst he
    go_wp2
    go_ret
    exact ⟨rfl, (show Keep w _ from (k1.trans k2).trans k3)⟩
  case' inl =>
    obtain ⟨_, h3, ⟨x0, x1⟩, ⟨y0, y1⟩, z0, z1⟩ := hmOk_facts hk
    have hmv := hm_yes hk
    obtain ⟨x, y, z, rfl, ex, ey, ez⟩ := three h3
    rw [ex] at x0 x1
    rw [ey] at y0 y1
    rw [ez] at z0 z1
    obtain ⟨r1, r2⟩ := rq_three x y z
    obtain ⟨o, ho⟩ : ∃ o, rq (x + y + 2 * z) 4 = o := ⟨_, rfl⟩
    have V : Hid (hm [x, y, z] = o ∧ hmOk [x, y, z] = true) := Lib.hid ⟨hmv.trans ho, hk⟩
    rw [ho] at r1 r2
    have HO := Lib.hid ho
    clear hmv ho ex ey ez hk h3 hl hB
    have o0 : -999 ≤ o := by omega
    have o1 : o ≤ 10999 := by omega
    go_wp2_with fail
    refine (hm_impl a c [x, y, z] _ hL (by simp)).mono ?_
    rintro e w2 ⟨he, k2⟩
    rw [V.out.1, V.out.2] at he
    subst he
    have hL2 := hL.keep k2
    go_wp2_with fail
    refine (hm_spec a c [x, y, z] _ hL2 (by simp)).mono ?_
    rintro e w3 ⟨he, k3⟩
    rw [V.out.1, V.out.2] at he
    subst he
    have hL3 := hL2.keep k3
    have c3 : Keep w w3 := (Keep.trans k1 k2).trans k3
    obtain ⟨b, off, rfl, hb, c0, c1, c2⟩ := hL3.three
    clear hL hL2
    have V2 : Hid (hm [y, x, z] = o ∧ hmOk [y, x, z] = true) := Lib.hid (by
      have h1 : hmOk [y, x, z] = true := by
        have := V.out.2
        simp only [hmOk, rdsB, List.all_cons, List.all_nil, Bool.and_true, Bool.and_eq_true] at this ⊢
        exact ⟨⟨⟨this.1.1.2.1, this.1.1.1, this.1.1.2.2⟩, rfl⟩, rfl⟩
      refine ⟨?_, h1⟩
      rw [hm_yes h1, ← HO.out]
      show rq (y + x + 2 * z) 4 = _
      rw [Int.add_comm y x])
    have V3 : Hid (hm [z, z, z] = z ∧ hmOk [z, z, z] = true) := Lib.hid (by
      have h1 : hmOk [z, z, z] = true := by
        have := V.out.2
        simp only [hmOk, rdsB, List.all_cons, List.all_nil, Bool.and_true, Bool.and_eq_true] at this ⊢
        exact ⟨⟨⟨this.1.1.2.2, this.1.1.2.2, this.1.1.2.2⟩, rfl⟩, rfl⟩
      exact ⟨(hm_yes h1).trans (rq_same z), h1⟩)
    have A1 := fun (w : World) (h : Ls w (some ⟨w3.heap.size, 0, none⟩) [y, x, z]) => Lib.hid (hm_impl (some ⟨w3.heap.size, 0, none⟩) 3 [y, x, z] w h (by simp))
    clear HO r1 r2
    go_wp2_with fail
    go_region_held3 (fun w' => w'.cell? ⟨b, off, none⟩ = some (.int .i64 x) ∧ w'.cell? ⟨b, off + 1, none⟩ = some (.int .i64 y) ∧ w'.cell? ⟨b, off + 2, none⟩ = some (.int .i64 z)) (go_keep)
      ((go_at_call 24; refine (A1 _ (Ls.new [y, x, z] ((Keep.refl (w3.alloc _)).drew))).out.mono ?_; rintro e w4 ⟨he, k4⟩; rw [V2.out.1, V2.out.2] at he; subst he; have kk := ((Keep.refl w3).alloc (.cells #[.int .i64 y, .int .i64 x, .int .i64 z] 3)).drew.trans k4; have d0 := kk.cell c0; have d1 := kk.cell c1; have d2 := kk.cell c2))
    have c4 := c3.trans kk
    have A2 := fun (w : World) (h : Ls w (some ⟨w4.heap.size, 0, none⟩) [z, z, z]) => Lib.hid (hm_impl (some ⟨w4.heap.size, 0, none⟩) 3 [z, z, z] w h (by simp))
    clear A1 k4 kk d0 d1 c0 c1 c2
    go_wp2_with fail
    go_region_held3 (fun w' => w'.cell? ⟨b, off + 2, none⟩ = some (.int .i64 z)) (go_keep)
      ((go_at_call 24; refine (A2 _ (Ls.new [z, z, z] ((Keep.refl (w4.alloc _)).drew))).out.mono ?_; rintro e w5 ⟨he, k5⟩; rw [V3.out.1, V3.out.2] at he; subst he; have kk := ((Keep.refl w4).alloc (.cells #[.int .i64 z, .int .i64 z, .int .i64 z] 3)).drew.trans k5; have d5 := kk.cell d2))
    have c5 := c4.trans kk
    go_wp2
    go_ret
    exact ⟨rfl, c5⟩
end Go.Proofs.Ytkapnbfjpglblaa
