/- P37: old versions are kept. -/
import Derived.Test.YtkapnbfjpglblabDrSa
import Derived.Test.YtkapnbfjpglblabFr
import Derived.Deep.RegionHeld3
namespace Go.Proofs.Ytkapnbfjpglblab
open Go.RowKit
set_option linter.unusedVariables false

theorem stB_snocO {rs : List R4} {r : R4} (h : (stB rs && rB r) = true) (hl : rs.length < 40) : stB (rs ++ [r]) = true := by
  simp only [Bool.and_eq_true] at h
  refine stB_yes ?_ (by simp; omega)
  rw [List.all_append, (stB_facts h.1).1]
  simp [h.2]

theorem svV_old {rs : List R4} {r : R4} (h : (stB rs && rB r) = true) (hl : rs.length < 40) (u : Nat) (hu : u ≤ rs.length) (s d k : Int) : svV (rs ++ [r]) (u : Int) s d k = svV rs (u : Int) s d k := by
  have h0 : stB rs = true := by simp only [Bool.and_eq_true] at h; exact h.1
  have h1 : vrB (rs ++ [r]) (u : Int) = true := by rw [vrB, stB_snocO h hl]; simp [inB]; omega
  have h2 : vrB rs (u : Int) = true := by rw [vrB, h0]; simp [inB]; omega
  rw [svV_yes h1, svV_yes h2]
  have h3 := vN_take (rs ++ [r]) s d k rs.length (by simp) u hu
  rw [List.take_left] at h3
  exact h3.symm

set_option maxRecDepth 100000 in
set_option maxHeartbeats 3200000 in
theorem walk_FnStoreOld (a0 : Option Addr) (len0 cap0 : Nat) (z0 : List Int) (a1 : Option Addr) (len1 cap1 : Nat) (z1 : List Int) (w : World) (w0 : IsRow .u8 w a0 len0 cap0 z0) (w1 : IsRow .u8 w a1 len1 cap1 z1) :
    Calls Try.prog 4 #[.slice a0 len0 cap0, .slice a1 len1 cap1] w fun e w' => e = .returned (.bool true) ∧ Below w.heap.size w w' := by
  have ha := code_of_row w0
  obtain ⟨hl0, hm0⟩ := ha.1
  unfold maxLen at hm0
  clear w0
  have ha1 := code_of_row w1
  obtain ⟨hl1, hm1⟩ := ha1.1
  unfold maxLen at hm1
  clear w1 ha1
  by_cases h : len0 ≤ 1048576
  case' neg =>
    have hd : decide (1048576 < (len0 : Int)) = true := by simp; omega
    go_enter Try.func4, Try.ntmps4
    go_wp2
    go_ret
    exact ⟨rfl, Below.refl _ _⟩
  have hd : decide (1048576 < (len0 : Int)) = false := by simp; omega
  by_cases h1 : len1 ≤ 1048576
  case' neg =>
    have hd1 : decide (1048576 < (len1 : Int)) = true := by simp; omega
    go_enter Try.func4, Try.ntmps4
    go_wp2
    go_ret
    exact ⟨rfl, Below.refl _ _⟩
  have hd1 : decide (1048576 < (len1 : Int)) = false := by simp; omega
  go_enter Try.func4, Try.ntmps4
  go_wp2_with fail
  refine (drawStoreAdd a0 len0 cap0 _ ha).mono ?_
  rintro e wd ⟨g, c, rs, s, d, k, v, rfl, hl, hcl, hF, ⟨d0, d1⟩, kd⟩
  have hz0 := kd.size
  have hB : Keep w (wd.alloc (.cells #[.int .i64 s, .int .i64 d, .int .i64 k, .int .i64 v] 25)) := kd.alloc _
  have hL0 := hF.rs.alloc (.cells #[.int .i64 s, .int .i64 d, .int .i64 k, .int .i64 v] 25)
  clear ha
  go_wp2_with fail
  refine (sad_impl g 0 c rs s d k v _ hL0 (by omega) hcl).mono ?_
  rintro e w2 ⟨p, q, rfl, hq2, hF2, k2⟩
  have b0 := k2.new 0 (v := .int .i64 s) rfl
  have b1 := k2.new 1 (v := .int .i64 d) rfl
  have b2 := k2.new 2 (v := .int .i64 k) rfl
  have b3 := k2.new 3 (v := .int .i64 v) rfl
  have hL2 := hL0.keep k2
  go_wp2_with fail
  refine (sad_spec g 0 c rs s d k v _ hL2 (by omega) hcl).mono ?_
  rintro e w3 ⟨p3, q3, rfl, hq3, hF3, k3⟩
  have c0 := k3.cell b0
  have c1 := k3.cell b1
  have c2 := k3.cell b2
  have c3 := k3.cell b3
  have hL := hL2.keep k3
  have hO := hF2.rs.keep k3
  have hW := hF3.rs
  have kk : Keep w w3 := (hB.trans k2).trans k3
  have hl40 := adL_len rs (s, d, k, v)
  clear b0 b1 b2 b3 hL0 hL2 hF hF2 hF3 k2 k3 kd hB
  have hcase : ((stB rs && rB (s, d, k, v)) = false) ∨ ((stB rs && rB (s, d, k, v)) = true ∧ rs.length = 40) ∨ ((stB rs && rB (s, d, k, v)) = true ∧ rs.length < 40) := by
    rcases Bool.eq_false_or_eq_true (stB rs && rB (s, d, k, v)) with h | h
    · have h9 := h
      simp only [Bool.and_eq_true] at h9
      have := (stB_facts h9.1).2
      rcases Nat.lt_or_ge rs.length 40 with h8 | h8
      · exact .inr (.inr ⟨h, h8⟩)
      · exact .inr (.inl ⟨h, by omega⟩)
    · exact .inl h
  generalize hLd : adL rs (s, d, k, v) = L at *
  generalize hBd : adB rs (s, d, k, v) = bb at *
  rcases hcase with hno | ⟨hok, hfull⟩ | ⟨hok, hless⟩
  · have HE := adL_no hno
    rw [hLd, hBd] at HE
    obtain ⟨rfl, rfl⟩ := HE
    clear hLd hBd hq2 hq3 hl40
    go_wp2_with fail
    refine (sR_same _ _ _ _ [] _ hO hW (by simp)).mono ?_
    rintro e w4 ⟨rfl, k4⟩
    go_wp2_with fail
    refine (sR_same _ _ _ _ [] _ (hO.keep k4) (hW.keep k4) (by simp)).mono ?_
    rintro e w5 ⟨rfl, k5⟩
    go_wp2
    go_ret
    exact ⟨rfl, (kk.trans k4).trans k5⟩
  · have HE := adL_full hok hfull
    rw [hLd, hBd] at HE
    obtain ⟨rfl, rfl⟩ := HE
    clear hLd hBd
    replace hok := Lib.hid hok
    replace hfull := Lib.hid hfull
    go_wp2_with fail
    refine (sR_same _ _ _ _ L _ hO hW (by omega)).mono ?_
    rintro e w4 ⟨rfl, k4⟩
    go_wp2_with fail
    refine (sR_same _ _ _ _ L _ (hO.keep k4) (hW.keep k4) (by omega)).mono ?_
    rintro e w5 ⟨rfl, k5⟩
    go_wp2
    go_ret
    exact ⟨rfl, (kk.trans k4).trans k5⟩
  · have HE := adL_yes hok hless
    rw [hLd, hBd] at HE
    obtain ⟨hL1, rfl⟩ := HE
    have HLn : Hid (L.length = rs.length + 1) := Lib.hid (by rw [hL1]; simp)
    have HL1 := Lib.hid hL1
    clear hLd hBd hL1
    replace hok := Lib.hid hok
    obtain ⟨u, hu⟩ : ∃ u : Nat, u = len1 % (rs.length + 1) := ⟨_, rfl⟩
    have hu1 : u ≤ rs.length := by rw [hu]; have := Nat.mod_lt len1 (show 0 < rs.length + 1 by omega); omega
    have hmod : Int.tmod (len1 : Int) ((rs.length : Int) + 1) = (u : Int) := by
      have h9 := Int.ofNat_tmod len1 (rs.length + 1)
      rw [← hu] at h9
      simpa using h9.symm
    clear hu
    have hnz : ((rs.length : Int) + 1 == 0) = false := by simp; omega
    have hnz2 : ¬ (rs.length : Int) + 1 = 0 := by omega
    obtain ⟨X, hX⟩ : ∃ X, svV rs (u : Int) s d k = X := ⟨_, rfl⟩
    have HV2 := Lib.hid hX
    have HV : Hid (svV L (u : Int) s d k = X) := Lib.hid (by rw [HL1.out, svV_old hok.out hless u hu1]; exact hX)
    have HSL : Hid (stB L = true) := Lib.hid (by rw [HL1.out]; exact stB_snocO hok.out hless)
    clear hX
    go_wp2_with fail
    refine (sR_same _ _ _ _ L _ hO hW (by omega)).mono ?_
    rintro e w4 ⟨rfl, k4⟩
    have O4 := hO.keep k4
    have L4 := hL.keep k4
    have y0 := k4.cell c0
    have y1 := k4.cell c1
    have y2 := k4.cell c2
    have y3 := k4.cell c3
    clear c0 c1 c2 c3
    go_wp2_with fail
    go_region_held3 (fun w' => Keep w4 w' ∧ w'.cell? ⟨wd.heap.size, 0, none⟩ = some (.int .i64 s) ∧ w'.cell? ⟨wd.heap.size, 1, none⟩ = some (.int .i64 d) ∧ w'.cell? ⟨wd.heap.size, 2, none⟩ = some (.int .i64 k) ∧ w'.cell? ⟨wd.heap.size, 3, none⟩ = some (.int .i64 v))
      ((go_split_ands; refine (fun hK => ⟨hK, hK.cell y0, hK.cell y1, hK.cell y2, hK.cell y3⟩ : Keep w4 _ → _) ?_; (repeat' (first | with_reducible assumption | with_reducible exact Keep.refl _ | with_reducible refine Keep.drew ?_ | with_reducible refine Keep.alloc ?_ _ | with_reducible refine Keep.trans ?_ hk))))
      (first
        | (go_at_call 21; go_split_ands; (with_reducible refine (svv_impl p q L (u : Int) s d k _ (O4.keep (by (repeat' (first | with_reducible assumption | with_reducible exact Keep.refl _ | with_reducible refine Keep.drew ?_ | with_reducible refine Keep.alloc ?_ _ | with_reducible refine Keep.trans ?_ hk)))) (by omega) (by omega)).mono ?_); rintro e w' ⟨he, hk⟩; rw [HV.out] at he; subst he; go_split_ands; have hK : Keep w4 w' := Keep.trans (by (repeat' (first | with_reducible assumption | with_reducible exact Keep.refl _ | with_reducible refine Keep.drew ?_ | with_reducible refine Keep.alloc ?_ _ | with_reducible refine Keep.trans ?_ hk))) hk)
        | (go_at_call 21; go_split_ands; (with_reducible refine (svv_impl (some ⟨g, 0, none⟩) c rs (u : Int) s d k _ (L4.keep (by (repeat' (first | with_reducible assumption | with_reducible exact Keep.refl _ | with_reducible refine Keep.drew ?_ | with_reducible refine Keep.alloc ?_ _ | with_reducible refine Keep.trans ?_ hk)))) (by omega) (by omega)).mono ?_); rintro e w' ⟨he, hk⟩; rw [HV2.out] at he; subst he; go_split_ands; have hK : Keep w4 w' := Keep.trans (by (repeat' (first | with_reducible assumption | with_reducible exact Keep.refl _ | with_reducible refine Keep.drew ?_ | with_reducible refine Keep.alloc ?_ _ | with_reducible refine Keep.trans ?_ hk))) hk)
        | (go_at_call 22; go_split_ands; (with_reducible refine (sv_impl p q L _ (O4.keep (by (repeat' (first | with_reducible assumption | with_reducible exact Keep.refl _ | with_reducible refine Keep.drew ?_ | with_reducible refine Keep.alloc ?_ _ | with_reducible refine Keep.trans ?_ hk)))) (by omega)).mono ?_); rintro e w' ⟨he, hk⟩; rw [HSL.out] at he; subst he; go_split_ands; have hK : Keep w4 w' := Keep.trans (by (repeat' (first | with_reducible assumption | with_reducible exact Keep.refl _ | with_reducible refine Keep.drew ?_ | with_reducible refine Keep.alloc ?_ _ | with_reducible refine Keep.trans ?_ hk))) hk))
    all_goals
      go_wp2
      go_ret
      exact ⟨rfl, (kk.trans k4).trans (by (repeat' (first | with_reducible assumption | with_reducible exact Keep.refl _ | with_reducible refine Keep.drew ?_ | with_reducible refine Keep.alloc ?_ _ | with_reducible refine Keep.trans ?_ hk)))⟩
end Go.Proofs.Ytkapnbfjpglblab
