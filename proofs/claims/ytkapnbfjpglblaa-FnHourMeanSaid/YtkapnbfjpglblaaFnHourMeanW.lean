/- P29: a mean is between readings. -/
import Derived.Test.YtkapnbfjpglblaaHx
import Derived.Test.YtkapnbfjpglblaaDrHm
import Derived.Test.YtkapnbfjpglblaaRf
import Derived.Test.YtkapnbfjpglblaaFr
import Derived.Deep.QuietTactic
import Derived.BigQuiet
import Derived.WalkLawsBesides
import Derived.Outline
import Derived.Deep.RegionHeld3
namespace Go.Proofs.Ytkapnbfjpglblaa
open Go.RowKit
set_option linter.unusedVariables false

set_option maxRecDepth 100000 in
set_option maxHeartbeats 3200000 in
theorem walk_FnHourMean (a0 : Option Addr) (len0 cap0 : Nat) (z0 : List Int) (w : World) (w0 : IsRow .u8 w a0 len0 cap0 z0) :
    Calls Try.prog 7 #[.slice a0 len0 cap0] w fun e w' => e = .returned (.bool true) ∧ Below w.heap.size w w' := by
  have ha := code_of_row w0
  obtain ⟨hl, hm⟩ := ha.1
  unfold maxLen at hm
  clear w0
  by_cases h : len0 ≤ 1048576
  case' neg =>
    have hd : decide (1048576 < (len0 : Int)) = true := by simp; omega
    go_enter Try.func7, Try.ntmps7
    go_wp2
    go_ret
    exact ⟨rfl, Below.refl _ _⟩
  have hd : decide (1048576 < (len0 : Int)) = false := by simp; omega
  go_enter Try.func7, Try.ntmps7
  have hmx := hm
  clear hm
  go_wp2_with fail
  refine (drawHourMean a0 len0 cap0 _ ha).mono ?_
  rintro e w1 ⟨a, c, zs, rfl, hl, hB, hL, k1⟩
  rcases Bool.eq_false_or_eq_true (hmOk zs) with hk | hk
  case' inr =>
    have HK := Lib.hid hk
    clear hk hB
    go_wp2_with fail
    refine (hm_impl a c zs _ hL (by omega)).mono ?_
    rintro e w2 ⟨he, k2⟩
    rw [HK.out] at he
    subst he
    go_wp2_with fail
    refine (hm_spec a c zs _ (hL.keep k2) (by omega)).mono ?_
    rintro e w3 ⟨he, k3⟩
    rw [HK.out] at he
    subst he
    go_wp2
    go_ret
    exact ⟨rfl, (show Keep w _ from (k1.trans k2).trans k3)⟩
  case' inl =>
    obtain ⟨_, h3, ⟨x0, x1⟩, ⟨y0, y1⟩, z0, z1⟩ := hmOk_facts hk
    have hmv := hm_yes hk
    obtain ⟨x, y, z, rfl, ex, ey, ez⟩ := three h3
    rw [ex] at x0 x1
    rw [ey] at y0 y1
    rw [ez] at z0 z1
    obtain ⟨r1, r2⟩ := rq_three x y z
    obtain ⟨o, ho⟩ : ∃ o, rq (x + y + 2 * z) 4 = o := ⟨_, rfl⟩
    have V : Hid (hm [x, y, z] = o ∧ hmOk [x, y, z] = true) := Lib.hid ⟨hmv.trans ho, hk⟩
    rw [ho] at r1 r2
    have HO := Lib.hid ho
    clear hmv ho ex ey ez hk h3 hl hB
    have o0 : -999 ≤ o := by omega
    have o1 : o ≤ 10999 := by omega
    go_wp2_with fail
    refine (hm_impl a c [x, y, z] _ hL (by simp)).mono ?_
    rintro e w2 ⟨he, k2⟩
    rw [V.out.1, V.out.2] at he
    subst he
    have hL2 := hL.keep k2
    go_wp2_with fail
    refine (hm_spec a c [x, y, z] _ hL2 (by simp)).mono ?_
    rintro e w3 ⟨he, k3⟩
    rw [V.out.1, V.out.2] at he
    subst he
    have hL3 := hL2.keep k3
    have c3 : Keep w w3 := (Keep.trans k1 k2).trans k3
    obtain ⟨b, off, rfl, hb, c0, c1, c2⟩ := hL3.three
    clear hL hL2
    have s1 : IntKind.i64.wrap (x + y) = x + y := IntWalk.i64_in _ (by omega)
    have s2 : IntKind.i64.wrap (2 * z) = 2 * z := IntWalk.i64_in _ (by omega)
    have s3 : IntKind.i64.wrap (x + y + 2 * z) = x + y + 2 * z := IntWalk.i64_in _ (by omega)
    have HQ := fun w => Lib.hid (ro_i ⟨roOk_mk (n := x + y + 2 * z) (d := 4) (by omega), (ro_yes (roOk_mk (by omega))).trans HO.out⟩ w)
    obtain ⟨m1, f1⟩ : ∃ m1, (if y < x then y else x) = m1 := ⟨_, rfl⟩
    obtain ⟨m2, f2⟩ : ∃ m2, (if z < m1 then z else m1) = m2 := ⟨_, rfl⟩
    obtain ⟨n1, f3⟩ : ∃ n1, (if x < y then y else x) = n1 := ⟨_, rfl⟩
    obtain ⟨n2, f4⟩ : ∃ n2, (if n1 < z then z else n1) = n2 := ⟨_, rfl⟩
    have g1 : decide (m2 ≤ o) = true := by
      rw [← f2, ← f1]; simp; split <;> split <;> omega
    have g2 : decide (o ≤ n2) = true := by
      rw [← f4, ← f3]; simp; split <;> split <;> omega
    clear r1 r2
    go_wp2_with fail
    go_quiet ((go_at_call 21; exact Calls.quiet_of_same ((HQ _).out.mono fun _ _ h => ⟨h.1, h.2.symm⟩)))
    clear s1 s2 s3
    go_wp2_with fail
    go_region_held3 (fun w' => w'.cell? ⟨b, off, none⟩ = some (.int .i64 x) ∧ w'.cell? ⟨b, off + 1, none⟩ = some (.int .i64 y) ∧ w'.cell? ⟨b, off + 2, none⟩ = some (.int .i64 z)) (go_keep) (fail)
    go_wp2
    go_ret
    exact ⟨rfl, (show Keep w _ from by (repeat' (first | with_reducible assumption | with_reducible refine Keep.drew ?_ | with_reducible refine Keep.drewN ?_ _)))⟩
end Go.Proofs.Ytkapnbfjpglblaa
