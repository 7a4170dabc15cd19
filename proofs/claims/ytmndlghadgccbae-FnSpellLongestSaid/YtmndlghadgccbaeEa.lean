/- Extremes: the program and the model answer 'abV', 'spA', 'spN'. -/
import Derived.Test.YtmndlghadgccbaeEx
import Derived.Test.YtmndlghadgccbaeSq
import Derived.LoopTactic
namespace Go.Proofs.Ytmndlghadgccbae
open Go.RowKit
set_option linter.unusedVariables false

set_option maxHeartbeats 400000 in
theorem re_any (x lv : Int) (w : World) :
    Calls Try.prog 51 #[.int .i64 x, .int .i64 lv] w fun e w' => e = .returned (.bool (reB lv x)) ∧ w = w' := by
  rcases reB_cases lv x with ⟨rfl, h⟩ | ⟨h1, h2, h3, h⟩ | ⟨h1, h2, h3, h⟩
  · have H := Lib.hid h
    clear h
    go_enter Try.func51, Try.ntmps51
    go_wp2
    go_ret
    exact ⟨retB H.out.symm, rfl⟩
  · have H := Lib.hid h
    have d : decide (lv ≤ x) = false := decide_eq_false (by omega)
    clear h
    go_enter Try.func51, Try.ntmps51
    go_wp2
    go_ret
    exact ⟨retB H.out.symm, rfl⟩
  · have H := Lib.hid h
    have d : decide (lv ≤ x) = true := decide_eq_true h3
    clear h
    go_enter Try.func51, Try.ntmps51
    go_wp2
    go_ret
    exact ⟨retB H.out.symm, rfl⟩
set_option maxHeartbeats 1000000 in
theorem ab_impl (a : Option Addr) (cap : Nat) (zs : List Int) (lv : Int) (w : World) (h : Ls w a zs) (hm : zs.length ≤ 4611686018427387904) :
    Calls Try.prog 27 #[.slice a zs.length cap, .int .i64 lv] w fun e w' => e = .returned (.int .i64 (abV zs lv)) ∧ w = w' := by
  rcases Bool.eq_false_or_eq_true (sqB zs) with hq | hq
  · have HL := Lib.hid (sq_facts hq).2
    have HY := Lib.hid (abV_yes lv hq)
    go_enter Try.func27, Try.ntmps27
    go_wp2_with (go_at_call 37; refine (sqv_impl _ _ zs _ h hm).mono ?_; rintro e w' ⟨he, rfl⟩; rw [hq] at he; subst he)
    go_loop [5, 13] (fun c i => ∃ k : Nat, k ≤ zs.length ∧ i = .int .i64 k ∧ c = .int .i64 (abN zs lv k : Int)) (fun _ i => zs.length - (intOf i).toNat)
    case atStart => exact ⟨0, by omega, rfl, rfl⟩
    case round =>
      obtain ⟨k, hk, rfl, rfl⟩ := hrel
      have hkl := abN_le zs lv k
      by_cases hlt : k < zs.length
      · obtain ⟨b, off, rfl, hb, hc⟩ := h.at_ hlt
        rcases Bool.eq_false_or_eq_true (reB lv (zs.getD k 0)) with hx | hx
        · have HS := Lib.hid (abN_yes hx)
          generalize abN zs lv k = n at hkl HS
          generalize zs.getD k 0 = x at hc hx
          go_wp2_with (go_at_call 51; refine (re_any _ _ _).mono ?_; rintro e w' ⟨he, rfl⟩; rw [hx] at he; subst he)
          go_round
          case rel => exact ⟨k + 1, by omega, by go_num, by rw [HS.out]; go_num⟩
          case measure => simp [intOf]; omega
        · have HS := Lib.hid (abN_no hx)
          generalize abN zs lv k = n at hkl HS
          generalize zs.getD k 0 = x at hc hx
          go_wp2_with (go_at_call 51; refine (re_any _ _ _).mono ?_; rintro e w' ⟨he, rfl⟩; rw [hx] at he; subst he)
          go_round
          case rel => exact ⟨k + 1, by omega, by go_num, by rw [HS.out]⟩
          case measure => simp [intOf]; omega
      · obtain rfl : k = zs.length := by omega
        go_wp2
        go_ret
        exact ⟨retI HY.out.symm, rfl⟩
  · have HN := Lib.hid (abV_no lv hq)
    go_enter Try.func27, Try.ntmps27
    go_wp2_with (go_at_call 37; refine (sqv_impl _ _ zs _ h hm).mono ?_; rintro e w' ⟨he, rfl⟩; rw [hq] at he; subst he)
    go_ret
    exact ⟨retI HN.out.symm, rfl⟩
set_option maxHeartbeats 1000000 in
theorem ab_spec (a : Option Addr) (cap : Nat) (zs : List Int) (lv : Int) (w : World) (h : Ls w a zs) (hm : zs.length ≤ 4611686018427387904) :
    Calls Try.prog 28 #[.slice a zs.length cap, .int .i64 lv] w fun e w' => e = .returned (.int .i64 (abV zs lv)) ∧ w = w' := by
  rcases Bool.eq_false_or_eq_true (sqB zs) with hq | hq
  · have HL := Lib.hid (sq_facts hq).2
    have HY := Lib.hid (abV_yes lv hq)
    go_enter Try.func28, Try.ntmps28
    go_wp2_with (go_at_call 16; refine (sqv_spec _ _ zs _ h hm).mono ?_; rintro e w' ⟨he, rfl⟩; rw [hq] at he; subst he)
    go_loop [5, 6] (fun c i => ∃ k : Nat, k ≤ zs.length ∧ i = .int .i64 k ∧ c = .int .i64 (abN zs lv k : Int)) (fun _ i => zs.length - (intOf i).toNat)
    case atStart => exact ⟨0, by omega, rfl, rfl⟩
    case round =>
      obtain ⟨k, hk, rfl, rfl⟩ := hrel
      have hkl := abN_le zs lv k
      by_cases hlt : k < zs.length
      · obtain ⟨b, off, rfl, hb, hc⟩ := h.at_ hlt
        rcases reB_cases lv (zs.getD k 0) with ⟨hx, hr⟩ | ⟨h1, h2, h3, hr⟩ | ⟨h1, h2, h3, hr⟩
        · have HS := Lib.hid (abN_no hr)
          rw [hx] at hc
          clear hx hr
          generalize abN zs lv k = n at hkl HS
          go_wp2_with fail
          go_round
          case rel => exact ⟨k + 1, by omega, by go_num, by rw [HS.out]⟩
          case measure => simp [intOf]; omega
        · have HS := Lib.hid (abN_no hr)
          have d : decide (lv ≤ zs.getD k 0) = false := decide_eq_false (by omega)
          clear hr
          generalize abN zs lv k = n at hkl HS
          generalize zs.getD k 0 = x at hc h1 h2 h3 d
          go_wp2_with fail
          go_round
          case rel => exact ⟨k + 1, by omega, by go_num, by rw [HS.out]⟩
          case measure => simp [intOf]; omega
        · have HS := Lib.hid (abN_yes hr)
          have d : decide (lv ≤ zs.getD k 0) = true := decide_eq_true h3
          clear hr
          generalize abN zs lv k = n at hkl HS
          generalize zs.getD k 0 = x at hc h1 h2 h3 d
          go_wp2_with fail
          go_round
          case rel => exact ⟨k + 1, by omega, by go_num, by rw [HS.out]; go_num⟩
          case measure => simp [intOf]; omega
      · obtain rfl : k = zs.length := by omega
        go_wp2
        go_ret
        exact ⟨retI HY.out.symm, rfl⟩
  · have HN := Lib.hid (abV_no lv hq)
    go_enter Try.func28, Try.ntmps28
    go_wp2_with (go_at_call 16; refine (sqv_spec _ _ zs _ h hm).mono ?_; rintro e w' ⟨he, rfl⟩; rw [hq] at he; subst he)
    go_ret
    exact ⟨retI HN.out.symm, rfl⟩
theorem retII {a b c d : Int} (h : a = c) (k : b = d) : Ending.returned (.tuple #[.int .i64 a, .int .i64 b]) = .returned (.tuple #[.int .i64 c, .int .i64 d]) := by rw [h, k]
set_option maxHeartbeats 2000000 in
theorem sp_impl (a : Option Addr) (cap : Nat) (zs : List Int) (lv : Int) (w : World) (h : Ls w a zs) (hm : zs.length ≤ 4611686018427387904) :
    Calls Try.prog 30 #[.slice a zs.length cap, .int .i64 lv] w fun e w' => e = .returned (.tuple #[.int .i64 (spA zs lv), .int .i64 (spN zs lv)]) ∧ w = w' := by
  rcases Bool.eq_false_or_eq_true (sqB zs) with hq | hq
  · have HL := Lib.hid (sq_facts hq).2
    have HY := Lib.hid (sp_yes lv hq)
    go_enter Try.func30, Try.ntmps30
    go_wp2_with (go_at_call 37; refine (sqv_impl _ _ zs _ h hm).mono ?_; rintro e w' ⟨he, rfl⟩; rw [hq] at he; subst he)
    go_loop [6, 7, 8, 16] (fun f m r i => ∃ k : Nat, k ≤ zs.length ∧ i = .int .i64 k ∧ f = .int .i64 (spF zs lv k : Int) ∧ m = .int .i64 (spM zs lv k : Int) ∧ r = .int .i64 (spR zs lv k : Int)) (fun _ _ _ i => zs.length - (intOf i).toNat)
    case atStart => exact ⟨0, by omega, rfl, rfl, rfl, rfl⟩
    case round =>
      obtain ⟨k, hk, rfl, rfl, rfl, rfl⟩ := hrel
      have hrl := spR_le zs lv k
      have hml := spR_M zs lv k
      by_cases hlt : k < zs.length
      · obtain ⟨b, off, rfl, hb, hc⟩ := h.at_ hlt
        rcases Bool.eq_false_or_eq_true (reB lv (zs.getD k 0)) with hx | hx
        · by_cases hmr : spM zs lv k < spR zs lv k + 1
          · have HS := Lib.hid (And.intro (spR_yes hx) (spM_more hx hmr))
            generalize spF zs lv k = f at hml HS
            generalize spM zs lv k = m at hml HS hmr
            generalize spR zs lv k = r at hml HS hrl hmr
            generalize zs.getD k 0 = x at hc hx
            have d : decide ((m : Int) < (r : Int) + 1) = true := decide_eq_true (by omega)
            go_wp2_with (go_at_call 51; refine (re_any _ _ _).mono ?_; rintro e w' ⟨he, rfl⟩; rw [hx] at he; subst he)
            go_round
            case rel => exact ⟨k + 1, by omega, by go_num, by rw [HS.out.2.2]; go_num, by rw [HS.out.2.1]; go_num, by rw [HS.out.1]; go_num⟩
            case measure => simp [intOf]; omega
          · have HS := Lib.hid (And.intro (spR_yes hx) (spM_less hx hmr))
            generalize spF zs lv k = f at hml HS
            generalize spM zs lv k = m at hml HS hmr
            generalize spR zs lv k = r at hml HS hrl hmr
            generalize zs.getD k 0 = x at hc hx
            have d : decide ((m : Int) < (r : Int) + 1) = false := decide_eq_false (by omega)
            go_wp2_with (go_at_call 51; refine (re_any _ _ _).mono ?_; rintro e w' ⟨he, rfl⟩; rw [hx] at he; subst he)
            go_round
            case rel => exact ⟨k + 1, by omega, by go_num, by rw [HS.out.2.2], by rw [HS.out.2.1], by rw [HS.out.1]; go_num⟩
            case measure => simp [intOf]; omega
        · have HS := Lib.hid (spR_no hx)
          generalize spF zs lv k = f at hml HS
          generalize spM zs lv k = m at hml HS
          generalize spR zs lv k = r at hml HS hrl
          generalize zs.getD k 0 = x at hc hx
          go_wp2_with (go_at_call 51; refine (re_any _ _ _).mono ?_; rintro e w' ⟨he, rfl⟩; rw [hx] at he; subst he)
          go_round
          case rel => exact ⟨k + 1, by omega, by go_num, by rw [HS.out.2.2], by rw [HS.out.2.1], by rw [HS.out.1]; rfl⟩
          case measure => simp [intOf]; omega
      · obtain rfl : k = zs.length := by omega
        go_wp2
        go_ret2
        exact ⟨retII HY.out.1.symm HY.out.2.symm, rfl⟩
  · have HN := Lib.hid (sp_no lv hq)
    go_enter Try.func30, Try.ntmps30
    go_wp2_with (go_at_call 37; refine (sqv_impl _ _ zs _ h hm).mono ?_; rintro e w' ⟨he, rfl⟩; rw [hq] at he; subst he)
    go_ret2
    exact ⟨retII HN.out.1.symm HN.out.2.symm, rfl⟩
set_option maxHeartbeats 2000000 in
theorem sp_spec (a : Option Addr) (cap : Nat) (zs : List Int) (lv : Int) (w : World) (h : Ls w a zs) (hm : zs.length ≤ 4611686018427387904) :
    Calls Try.prog 31 #[.slice a zs.length cap, .int .i64 lv] w fun e w' => e = .returned (.tuple #[.int .i64 (spA zs lv), .int .i64 (spN zs lv)]) ∧ w = w' := by
  have HQ := Lib.hid (sqv_spec a cap zs w h hm)
  rcases Bool.eq_false_or_eq_true (sqB zs) with hq | hq
  · have HL := Lib.hid (sq_facts hq).2
    have HY := Lib.hid (sp_yes lv hq)
    rw [hq] at HQ
    clear hq
    go_enter Try.func31, Try.ntmps31
    go_wp2_with fail
    go_loop [6, 7, 8, 9] (fun f m r i => ∃ k : Nat, k ≤ zs.length ∧ i = .int .i64 k ∧ f = .int .i64 (spF zs lv k : Int) ∧ m = .int .i64 (spM zs lv k : Int) ∧ r = .int .i64 (spR zs lv k : Int)) (fun _ _ _ i => zs.length - (intOf i).toNat)
    case atStart => exact ⟨0, by omega, rfl, rfl, rfl, rfl⟩
    case round =>
      obtain ⟨k, hk, rfl, rfl, rfl, rfl⟩ := hrel
      have hrl := spR_le zs lv k
      have hml := spR_M zs lv k
      by_cases hlt : k < zs.length
      · obtain ⟨b, off, rfl, hb, hc⟩ := h.at_ hlt
        rcases reB_cases lv (zs.getD k 0) with ⟨hx, hr⟩ | ⟨h1, h2, h3, hr⟩ | ⟨h1, h2, h3, hr⟩
        · have HS := Lib.hid (spR_no hr)
          rw [hx] at hc
          clear hx hr
          generalize spF zs lv k = f at hml HS
          generalize spM zs lv k = m at hml HS
          generalize spR zs lv k = r at hml HS hrl
          have d : decide ((m : Int) < 0) = false := decide_eq_false (by omega)
          go_wp2_with (go_at_call 16; refine HQ.out.mono ?_; rintro e w' ⟨rfl, rfl⟩)
          go_round
          case rel => exact ⟨k + 1, by omega, by go_num, by rw [HS.out.2.2], by rw [HS.out.2.1], by rw [HS.out.1]; rfl⟩
          case measure => simp [intOf]; omega
        · have HS := Lib.hid (spR_no hr)
          clear hr
          generalize spF zs lv k = f at hml HS
          generalize spM zs lv k = m at hml HS
          generalize spR zs lv k = r at hml HS hrl
          generalize zs.getD k 0 = x at hc h1 h2 h3
          have d : decide ((m : Int) < 0) = false := decide_eq_false (by omega)
          have d2 : decide (x < lv) = true := decide_eq_true h3
          go_wp2_with (go_at_call 16; refine HQ.out.mono ?_; rintro e w' ⟨rfl, rfl⟩)
          go_round
          case rel => exact ⟨k + 1, by omega, by go_num, by rw [HS.out.2.2], by rw [HS.out.2.1], by rw [HS.out.1]; rfl⟩
          case measure => simp [intOf]; omega
        · by_cases hmr : spM zs lv k < spR zs lv k + 1
          · have HS := Lib.hid (And.intro (spR_yes hr) (spM_more hr hmr))
            clear hr
            generalize spF zs lv k = f at hml HS
            generalize spM zs lv k = m at hml HS hmr
            generalize spR zs lv k = r at hml HS hrl hmr
            generalize zs.getD k 0 = x at hc h1 h2 h3
            have d : decide ((m : Int) < (r : Int) + 1) = true := decide_eq_true (by omega)
            have d2 : decide (x < lv) = false := decide_eq_false (by omega)
            go_wp2_with (go_at_call 16; refine HQ.out.mono ?_; rintro e w' ⟨rfl, rfl⟩)
            go_round
            case rel => exact ⟨k + 1, by omega, by go_num, by rw [HS.out.2.2]; go_num, by rw [HS.out.2.1]; go_num, by rw [HS.out.1]; go_num⟩
            case measure => simp [intOf]; omega
          · have HS := Lib.hid (And.intro (spR_yes hr) (spM_less hr hmr))
            clear hr
            generalize spF zs lv k = f at hml HS
            generalize spM zs lv k = m at hml HS hmr
            generalize spR zs lv k = r at hml HS hrl hmr
            generalize zs.getD k 0 = x at hc h1 h2 h3
            have d : decide ((m : Int) < (r : Int) + 1) = false := decide_eq_false (by omega)
            have d2 : decide (x < lv) = false := decide_eq_false (by omega)
            go_wp2_with (go_at_call 16; refine HQ.out.mono ?_; rintro e w' ⟨rfl, rfl⟩)
            go_round
            case rel => exact ⟨k + 1, by omega, by go_num, by rw [HS.out.2.2], by rw [HS.out.2.1], by rw [HS.out.1]; go_num⟩
            case measure => simp [intOf]; omega
      · obtain rfl : k = zs.length := by omega
        go_wp2
        go_ret2
        exact ⟨retII HY.out.1.symm HY.out.2.symm, rfl⟩
  · have HN := Lib.hid (sp_no lv hq)
    rw [hq] at HQ
    clear hq
    go_enter Try.func31, Try.ntmps31
    go_wp2_with fail
    go_loop [6, 7, 8, 9] (fun f m r i => i = .int .i64 0 ∧ f = .int .i64 0 ∧ m = .int .i64 0) (fun _ _ _ i => 0)
    case atStart => exact ⟨rfl, rfl, rfl⟩
    case round =>
      obtain ⟨rfl, rfl, rfl⟩ := hrel
      by_cases hlt : 0 < zs.length
      · go_wp2_with (go_at_call 16; refine HQ.out.mono ?_; rintro e w' ⟨rfl, rfl⟩)
        go_ret2
        exact ⟨retII HN.out.1.symm HN.out.2.symm, rfl⟩
      · go_wp2
        go_ret2
        exact ⟨retII HN.out.1.symm HN.out.2.symm, rfl⟩
end Go.Proofs.Ytmndlghadgccbae
