/- Series: the program and the model answer 'sqB' and 'sk'. -/
import Derived.Test.YtohoeonfoolpdaaDoorFg
import Derived.LoopTactic
namespace Go.Proofs.YtohoeonfoolpdaaDoor
open Go.RowKit
set_option linter.unusedVariables false

set_option maxHeartbeats 400000 in
theorem qv_spec (x : Int) (w : World) :
    Calls Tryd.prog 48 #[.int .i64 x] w fun e w' => e = .returned (.bool (qB x)) ∧ w = w' := by
  by_cases hx : x = -9999
  · subst hx
    go_enter Tryd.func48, Tryd.ntmps48
    go_wp2
    go_ret
    exact ⟨rfl, rfl⟩
  · have e1 : (x == -9999) = false := by simp [hx]
    have HX := Lib.hid (show qB x = inB x (-999) 10999 from qB_ne hx)
    go_enter Tryd.func48, Tryd.ntmps48
    go_wp2_with (go_at_call 49; refine (l6In_any _ _ _ _).mono ?_; rintro e w' ⟨rfl, rfl⟩)
    go_ret
    exact ⟨retB HX.out.symm, rfl⟩
set_option maxHeartbeats 1000000 in
theorem sqv_impl (a : Option Addr) (cap : Nat) (zs : List Int) (w : World) (h : Ls w a zs) (hm : zs.length ≤ 4611686018427387904) :
    Calls Tryd.prog 37 #[.slice a zs.length cap] w fun e w' => e = .returned (.bool (sqB zs)) ∧ w = w' := by
  by_cases h2 : 1 ≤ zs.length ∧ zs.length ≤ 12
  · obtain ⟨h3, h4⟩ := id h2
    have HL := Lib.hid h2
    have d1 : decide ((zs.length : Int) < 1) = false := by simp; omega
    have d2 : decide (12 < (zs.length : Int)) = false := by simp; omega
    clear h2
    go_enter Tryd.func37, Tryd.ntmps37
    go_wp2_with fail
    go_loop [15] (fun i => ∃ k : Nat, k ≤ zs.length ∧ i = .int .i64 k ∧ Hid ((zs.take k).all qB = true)) (fun i => zs.length - (intOf i).toNat)
    case atStart => exact ⟨0, by omega, rfl, Lib.hid (by simp)⟩
    case round =>
      obtain ⟨k, hk, rfl, HA⟩ := hrel
      by_cases hlt : k < zs.length
      · obtain ⟨b, off, rfl, hb, hc⟩ := h.at_ hlt
        by_cases hx : zs.getD k 0 = -9999
        · have HS := Lib.hid (show (zs.take (k + 1)).all qB = true by rw [take_snoc_all _ _ _ hlt, HA.out, hx]; rfl)
          rw [hx] at hc
          clear hx
          go_wp2_with fail
          go_round
          case rel => exact ⟨k + 1, by omega, by go_num, HS⟩
          case measure => simp [intOf]; omega
        · have hx2 : (zs.getD k 0 != -9999) = true := by simpa using hx
          have hqr := qB_ne hx
          rcases Bool.eq_false_or_eq_true (rdB (zs.getD k 0)) with hr | hr
          · have HS := Lib.hid (show (zs.take (k + 1)).all qB = true by rw [take_snoc_all _ _ _ hlt, HA.out, hqr, hr]; rfl)
            clear hqr hx
            generalize zs.getD k 0 = x at hc hr hx2
            go_wp2_with (go_at_call 53; refine (rd_impl _ _).mono ?_; rintro e w' ⟨rfl, rfl⟩)
            go_round
            case rel => exact ⟨k + 1, by omega, by go_num, HS⟩
            case measure => simp [intOf]; omega
          · have HF := Lib.hid (sq_bad (all_not qB zs k hlt (hqr.trans hr)))
            clear hqr hx
            generalize zs.getD k 0 = x at hc hr hx2
            go_wp2_with (go_at_call 53; refine (rd_impl _ _).mono ?_; rintro e w' ⟨rfl, rfl⟩)
            go_ret
            exact ⟨retB HF.out.symm, rfl⟩
      · have HT := Lib.hid (sq_all (by rw [← take_all hlt]; exact HA.out) HL.out)
        go_wp2
        go_ret
        exact ⟨retB HT.out.symm, rfl⟩
  · have HF := Lib.hid (sq_len_no h2)
    have hc : decide ((zs.length : Int) < 1) = true ∨ (decide ((zs.length : Int) < 1) = false ∧ decide (12 < (zs.length : Int)) = true) := by
      by_cases h0 : zs.length < 1
      · left; simp; omega
      · right; constructor <;> simp <;> omega
    clear h2
    rcases hc with hc | ⟨hc, hd⟩
    all_goals
      go_enter Tryd.func37, Tryd.ntmps37
      go_wp2
      go_ret
      exact ⟨retB HF.out.symm, rfl⟩
set_option maxHeartbeats 1000000 in
theorem sqv_spec (a : Option Addr) (cap : Nat) (zs : List Int) (w : World) (h : Ls w a zs) (hm : zs.length ≤ 4611686018427387904) :
    Calls Tryd.prog 34 #[.slice a zs.length cap] w fun e w' => e = .returned (.bool (sqB zs)) ∧ w = w' := by
  go_enter Tryd.func34, Tryd.ntmps34
  go_wp2_with fail
  go_loop [3] (fun i => ∃ k : Nat, k ≤ zs.length ∧ i = .int .i64 k ∧ Hid ((zs.take k).all qB = true)) (fun i => zs.length - (intOf i).toNat)
  case atStart => exact ⟨0, by omega, rfl, Lib.hid (by simp)⟩
  case round =>
    obtain ⟨k, hk, rfl, HA⟩ := hrel
    by_cases hlt : k < zs.length
    · obtain ⟨b, off, rfl, hb, hc⟩ := h.at_ hlt
      rcases Bool.eq_false_or_eq_true (qB (zs.getD k 0)) with hr | hr
      · have HS := Lib.hid (show (zs.take (k + 1)).all qB = true by rw [take_snoc_all _ _ _ hlt, HA.out, hr]; rfl)
        generalize zs.getD k 0 = x at hc hr
        go_wp2_with (go_at_call 48; refine (qv_spec _ _).mono ?_; rintro e w' ⟨rfl, rfl⟩)
        go_round
        case rel => exact ⟨k + 1, by omega, by go_num, HS⟩
        case measure => simp [intOf]; omega
      · have HF := Lib.hid (sq_bad (all_not qB zs k hlt hr))
        generalize zs.getD k 0 = x at hc hr
        go_wp2_with (go_at_call 48; refine (qv_spec _ _).mono ?_; rintro e w' ⟨rfl, rfl⟩)
        go_ret
        exact ⟨retB HF.out.symm, rfl⟩
    · have HA2 : Hid (zs.all qB = true) := Lib.hid (by rw [← take_all hlt]; exact HA.out)
      have HT : Hid (inB (zs.length : Int) 1 12 = sqB zs) := Lib.hid (by
        by_cases h2 : 1 ≤ zs.length ∧ zs.length ≤ 12
        · rw [sq_all HA2.out h2, inB_yes (by omega)]
        · rw [sq_len_no h2, inB_no (by omega)])
      go_wp2_with (go_at_call 49; refine (l6In_any _ _ _ _).mono ?_; rintro e w' ⟨rfl, rfl⟩)
      go_ret
      exact ⟨retB HT.out, rfl⟩
set_option maxHeartbeats 1000000 in
theorem sk_impl (a : Option Addr) (cap : Nat) (zs : List Int) (w : World) (h : Ls w a zs) (hm : zs.length ≤ 4611686018427387904) :
    Calls Tryd.prog 13 #[.slice a zs.length cap] w fun e w' => e = .returned (.int .i64 (sk zs)) ∧ w = w' := by
  rcases Bool.eq_false_or_eq_true (sqB zs) with hq | hq
  · have HL := Lib.hid (sq_facts hq).2
    have HY := Lib.hid (sk_yes hq)
    go_enter Tryd.func13, Tryd.ntmps13
    go_wp2_with (go_at_call 37; refine (sqv_impl _ _ zs _ h hm).mono ?_; rintro e w' ⟨he, rfl⟩; rw [hq] at he; subst he)
    go_loop [3, 11] (fun c i => ∃ k : Nat, k ≤ zs.length ∧ i = .int .i64 k ∧ c = .int .i64 (knN zs k : Int)) (fun _ i => zs.length - (intOf i).toNat)
    case atStart => exact ⟨0, by omega, rfl, rfl⟩
    case round =>
      obtain ⟨k, hk, rfl, rfl⟩ := hrel
      have hkl := knN_le zs k
      by_cases hlt : k < zs.length
      · obtain ⟨b, off, rfl, hb, hc⟩ := h.at_ hlt
        by_cases hx : zs.getD k 0 = -9999
        · have HS : Hid (knN zs (k + 1) = knN zs k) := Lib.hid (by simp only [knN, hx]; simp)
          rw [hx] at hc
          clear hx
          generalize knN zs k = n at hkl HS
          go_wp2_with fail
          go_round
          case rel => exact ⟨k + 1, by omega, by go_num, by rw [HS.out]⟩
          case measure => simp [intOf]; omega
        · have hx2 : (zs.getD k 0 != -9999) = true := by simpa using hx
          have HS : Hid (knN zs (k + 1) = knN zs k + 1) := Lib.hid (by simp only [knN, if_neg hx])
          clear hx
          generalize zs.getD k 0 = x at hc hx2
          generalize knN zs k = n at hkl HS
          go_wp2_with fail
          go_round
          case rel => exact ⟨k + 1, by omega, by go_num, by rw [HS.out]; go_num⟩
          case measure => simp [intOf]; omega
      · obtain rfl : k = zs.length := by omega
        go_wp2
        go_ret
        exact ⟨retI HY.out.symm, rfl⟩
  · have HN := Lib.hid (sk_no hq)
    go_enter Tryd.func13, Tryd.ntmps13
    go_wp2_with (go_at_call 37; refine (sqv_impl _ _ zs _ h hm).mono ?_; rintro e w' ⟨he, rfl⟩; rw [hq] at he; subst he)
    go_ret
    exact ⟨retI HN.out.symm, rfl⟩
end Go.Proofs.YtohoeonfoolpdaaDoor
