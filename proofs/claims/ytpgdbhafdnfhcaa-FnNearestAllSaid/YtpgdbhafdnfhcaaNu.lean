/- container/heap at sites near a place: up, down, Push, Pop. -/
import Derived.Test.YtpgdbhafdnfhcaaNt
import Derived.LoopTactic
namespace Go.Proofs.Ytpgdbhafdnfhcaa
open Go.RowKit
set_option linter.unusedVariables false

theorem OwnS.wr {w : World} {base g n cap : Nat} {H : List R3} (h : OwnS w base (.slice (some ⟨g, 0, none⟩) n cap) H) (hn : H.length = n) (h0 : 0 < n) : WrS w g H ∧ base ≤ g := by
  obtain ⟨g', c', hv, _, hb, _, hW⟩ := h.form (by omega)
  injection hv with hv _ _
  injection hv with hv
  injection hv with hv _ _
  subst hv
  exact ⟨hW, hb⟩
theorem perm_tB {H H' : List R3} (h : H'.Perm H) (hB : ∀ r ∈ H, tB r = true) : ∀ r ∈ H', tB r = true := fun r hr => hB r (h.subset hr)
set_option maxRecDepth 100000 in
set_option maxHeartbeats 2000000 in
theorem up_any (P base g n cap : Nat) (c : R3) (H : List R3) (j0 : Nat) (w : World) (h : Nr w P (.slice (some ⟨g, 0, none⟩) n cap) c) (hO : OwnS w base (.slice (some ⟨g, 0, none⟩) n cap) H) (hn : H.length = n) (hg : P < base) (hj0 : j0 < n) (hn6 : n ≤ 6)
    (hc : tB c = true) (hB : ∀ r ∈ H, tB r = true) (hI : upI (kf c) H j0) :
    Calls Try.prog 123 #[.iface 112 (.pointer (some ⟨P, 0, none⟩)), .int .i64 (j0 : Int)] w fun e w' => e = .returned (.tuple #[]) ∧ ∃ H', H'.Perm H ∧ hp (kf c) H' ∧ Nr w' P (.slice (some ⟨g, 0, none⟩) n cap) c ∧ OwnS w' base (.slice (some ⟨g, 0, none⟩) n cap) H' ∧ Kp P w w' := by
  have mL := mLess (some ⟨P, 0, none⟩)
  have mS := mSwap (some ⟨P, 0, none⟩)
  have HO := Lib.hid hO
  have HN := Lib.hid hn
  have HBB := Lib.hid hB
  have HI0 := Lib.hid hI
  clear hO hn hB hI
  go_enter Try.func123, Try.ntmps123
  go_wp2_with fail
  go_loopw [1] (fun q wr => ∃ (j : Nat) (H' : List R3), q = .int .i64 j ∧ j < n ∧ Hid (H'.Perm H) ∧ Hid (upI (kf c) H' j) ∧ Nr wr P (.slice (some ⟨g, 0, none⟩) n cap) c ∧ Hid (OwnS wr base (.slice (some ⟨g, 0, none⟩) n cap) H') ∧ Kp P w wr) (fun q _ => (intOf q).toNat)
  case atStart => exact ⟨j0, H, rfl, hj0, Lib.hid (List.Perm.refl _), HI0, h, HO, Kp.refl _ _⟩
  case round =>
    obtain ⟨j, H', rfl, hj, HP, HI, hNr, HOw, hK⟩ := hrel
    have HPl : Hid (H'.length = n) := Lib.hid (by rw [HP.out.length_eq, HN.out])
    by_cases hz : j = 0
    · have HD := Lib.hid (upI_done HI.out (.inl hz))
      subst hz
      go_wp2
      go_end0
      exact ⟨rfl, H', HP.out, HD.out, hNr, HOw.out, hK⟩
    obtain ⟨p, hp⟩ : ∃ p, (j - 1) / 2 = p := ⟨_, rfl⟩
    have hpi : ((j : Int) - 1) / 2 = (p : Int) := by omega
    have hpj : p < j := by omega
    have hne : ((p : Int) == (j : Int)) = false := beq_eq_false_iff_ne.2 (by omega)
    obtain ⟨hWr, hbg⟩ := HOw.out.wr HPl.out (by omega)
    have HL := Lib.hid (less_any P g n cap c H' j p wr hNr hWr.ss HPl.out hj (by omega) hn6 hc (perm_tB HP.out HBB.out))
    have HI2 := HI
    have HST := Lib.hid (fun hlt => upI_step (k := kf c) (H := H') (j := j) HI.out (by rw [HPl.out]; exact hj) (by omega) hlt)
    have HDN := Lib.hid (fun hle => upI_done (k := kf c) (H := H') (j := j) HI.out (.inr hle))
    rw [hp] at HST HDN
    have HW := Lib.hid hWr
    clear hp hWr HI HI2
    by_cases hlt : kf c (H'.getD j t0) < kf c (H'.getD p t0)
    · rw [decide_eq_true hlt] at HL
      have HS2 := Lib.hid (HST.out hlt)
      clear HST HDN hlt
      go_wp2_with fail
      refine HL.out.mono ?_
      rintro e w1 ⟨rfl, k1⟩
      go_wp2_with fail
      refine (swap_any P g n cap c H' p j w1 (hNr.keep k1) (HW.out.keep k1) HPl.out (by omega) (by omega) hj hn6).mono ?_
      rintro e w2 ⟨rfl, hN2, hW2, hK2, hO2⟩
      have HO2 := Lib.hid (hO2 base (HOw.out.keep k1))
      go_wp2
      go_roundw
      case rel => exact ⟨p, swp H' p j, rfl, by omega, Lib.hid ((swp_perm H' (by rw [HPl.out]; omega) (by rw [HPl.out]; omega)).trans HP.out), HS2, hN2, HO2, (hK.trans (Keep.kp k1)).trans (hK2.kp (by omega))⟩
      case measure => simp [intOf]; omega
    · rw [decide_eq_false hlt] at HL
      have HD := Lib.hid (HDN.out (by omega))
      clear HST HDN hlt
      go_wp2_with fail
      refine HL.out.mono ?_
      rintro e w1 ⟨rfl, k1⟩
      go_wp2
      go_end0
      exact ⟨rfl, H', HP.out, HD.out, hNr.keep k1, HOw.out.keep k1, hK.trans (Keep.kp k1)⟩
set_option maxRecDepth 100000 in
set_option maxHeartbeats 4000000 in
theorem down_any (P g n N cap : Nat) (c : R3) (H : List R3) (w : World) (h : Nr w P (.slice (some ⟨g, 0, none⟩) N cap) c) (hW : WrS w g H) (hN : H.length = N) (hnN : n < N) (hg : P < g) (hN6 : N ≤ 6)
    (hc : tB c = true) (hB : ∀ r ∈ H, tB r = true) (hI : dnI (kf c) H n 0) :
    Calls Try.prog 124 #[.iface 112 (.pointer (some ⟨P, 0, none⟩)), .int .i64 0, .int .i64 (n : Int)] w fun e w' => (∃ b, e = .returned (.bool b)) ∧ ∃ H', H'.Perm H ∧ H'.getD n t0 = H.getD n t0 ∧ hp (kf c) (H'.take n) ∧ Nr w' P (.slice (some ⟨g, 0, none⟩) N cap) c ∧ WrS w' g H' ∧ Tw P g w w' := by
  have mL := mLess (some ⟨P, 0, none⟩)
  have mS := mSwap (some ⟨P, 0, none⟩)
  have HW0 := Lib.hid hW
  have HN := Lib.hid hN
  have HBB := Lib.hid hB
  have HI0 := Lib.hid hI
  clear hW hN hB hI
  go_enter Try.func124, Try.ntmps124
  go_wp2_with fail
  go_loopw [7] (fun q wr => ∃ (i : Nat) (H' : List R3), q = .int .i64 i ∧ i ≤ n ∧ Hid (H'.Perm H) ∧ Hid (H'.getD n t0 = H.getD n t0) ∧ Hid (dnI (kf c) H' n i) ∧ Nr wr P (.slice (some ⟨g, 0, none⟩) N cap) c ∧ Hid (WrS wr g H') ∧ Tw P g w wr) (fun q _ => n - (intOf q).toNat)
  case atStart => exact ⟨0, H, rfl, by omega, Lib.hid (List.Perm.refl _), Lib.hid rfl, HI0, h, HW0, Tw.refl _ _ _⟩
  case round =>
    obtain ⟨i, H', rfl, hi, HP, HG, HI, hNr, HW, hK⟩ := hrel
    have HPl : Hid (H'.length = N) := Lib.hid (by rw [HP.out.length_eq, HN.out])
    obtain ⟨a, ha⟩ : ∃ a, 2 * i + 1 = a := ⟨_, rfl⟩
    have hai : (2 : Int) * (i : Int) + 1 = (a : Int) := by omega
    obtain ⟨b, hb⟩ : ∃ b, a + 1 = b := ⟨_, rfl⟩
    have hbi : (a : Int) + 1 = (b : Int) := by omega
    have hd1 : 2 * i + 1 ≤ a := by omega
    have hd2 : a ≤ 2 * i + 1 := by omega
    have hd3 : a + 1 ≤ b := by omega
    have hd4 : b ≤ a + 1 := by omega
    clear ha hb
    by_cases hea : n ≤ a
    · have HD := Lib.hid (dnI_done HI.out (by rw [HPl.out]; omega) (fun m m0 hm he => by omega))
      have g1 : (n : Int) ≤ (a : Int) := by omega
      go_wp2
      go_ret
      exact ⟨⟨_, rfl⟩, H', HP.out, HG.out, HD.out, hNr, HW.out, hK⟩
    have hal : a < n := by omega
    by_cases hbn : b < n
    · have HLb := Lib.hid (less_any P g N cap c H' b a wr hNr HW.out.ss HPl.out (by omega) (by omega) hN6 hc (perm_tB HP.out HBB.out))
      by_cases hl2 : kf c (H'.getD b t0) < kf c (H'.getD a t0)
      · rw [decide_eq_true hl2] at HLb
        go_wp2_with fail
        refine HLb.out.mono ?_
        rintro e w1 ⟨rfl, k1⟩
        have HLi := Lib.hid (less_any P g N cap c H' b i w1 (hNr.keep k1) (HW.out.keep k1).ss HPl.out (by omega) (by omega) hN6 hc (perm_tB HP.out HBB.out))
        have hmin : Hid (∀ m, 0 < m → m < n → (m - 1) / 2 = i → kf c (H'.getD b t0) ≤ kf c (H'.getD m t0)) := Lib.hid (fun m m0 hm he => by
          have h2 : m = a ∨ m = b := by omega
          rcases h2 with h2 | h2
          · rw [h2]; omega
          · rw [h2]; omega)
        by_cases hlt : kf c (H'.getD b t0) < kf c (H'.getD i t0)
        · rw [decide_eq_true hlt] at HLi
          have HST := Lib.hid (dnI_step HI.out (by rw [HPl.out]; omega) (by omega) (by omega) (by omega) hmin.out hlt)
          clear hmin hlt
          go_wp2_with fail
          refine HLi.out.mono ?_
          rintro e wL ⟨rfl, kL⟩
          have KL := Keep.trans k1 kL
          go_wp2_with fail
          refine (swap_any P g N cap c H' i b wL (hNr.keep KL) (HW.out.keep KL) HPl.out hg (by omega) (by omega) hN6).mono ?_
          rintro e wS ⟨rfl, hNS, hWS, hKS, _⟩
          have HWS := Lib.hid hWS
          go_wp2
          go_roundw
          case rel => exact ⟨b, swp H' i b, rfl, by omega, Lib.hid ((swp_perm H' (by rw [HPl.out]; omega) (by rw [HPl.out]; omega)).trans HP.out), Lib.hid (by rw [swp_at _ (by rw [HPl.out]; omega) (by rw [HPl.out]; omega), if_neg (by omega), if_neg (by omega)]; exact HG.out), HST, hNS, HWS, (hK.trans (Keep.tw KL)).trans hKS⟩
          case measure => simp [intOf]; omega
        · rw [decide_eq_false hlt] at HLi
          have HD := Lib.hid (dnI_done HI.out (by rw [HPl.out]; omega) (fun m m0 hm he => Int.le_trans (Int.not_lt.1 hlt) (hmin.out m m0 hm he)))
          clear hmin hlt
          go_wp2_with fail
          refine HLi.out.mono ?_
          rintro e wL ⟨rfl, kL⟩
          have KL := Keep.trans k1 kL
          go_wp2
          go_ret
          exact ⟨⟨_, rfl⟩, H', HP.out, HG.out, HD.out, hNr.keep KL, HW.out.keep KL, hK.trans (Keep.tw KL)⟩
      · rw [decide_eq_false hl2] at HLb
        go_wp2_with fail
        refine HLb.out.mono ?_
        rintro e w1 ⟨rfl, k1⟩
        have HLi := Lib.hid (less_any P g N cap c H' a i w1 (hNr.keep k1) (HW.out.keep k1).ss HPl.out (by omega) (by omega) hN6 hc (perm_tB HP.out HBB.out))
        have hmin : Hid (∀ m, 0 < m → m < n → (m - 1) / 2 = i → kf c (H'.getD a t0) ≤ kf c (H'.getD m t0)) := Lib.hid (fun m m0 hm he => by
          have h2 : m = a ∨ m = b := by omega
          rcases h2 with h2 | h2
          · rw [h2]; omega
          · rw [h2]; omega)
        by_cases hlt : kf c (H'.getD a t0) < kf c (H'.getD i t0)
        · rw [decide_eq_true hlt] at HLi
          have HST := Lib.hid (dnI_step HI.out (by rw [HPl.out]; omega) (by omega) (by omega) (by omega) hmin.out hlt)
          clear hmin hlt
          go_wp2_with fail
          refine HLi.out.mono ?_
          rintro e wL ⟨rfl, kL⟩
          have KL := Keep.trans k1 kL
          go_wp2_with fail
          refine (swap_any P g N cap c H' i a wL (hNr.keep KL) (HW.out.keep KL) HPl.out hg (by omega) (by omega) hN6).mono ?_
          rintro e wS ⟨rfl, hNS, hWS, hKS, _⟩
          have HWS := Lib.hid hWS
          go_wp2
          go_roundw
          case rel => exact ⟨a, swp H' i a, rfl, by omega, Lib.hid ((swp_perm H' (by rw [HPl.out]; omega) (by rw [HPl.out]; omega)).trans HP.out), Lib.hid (by rw [swp_at _ (by rw [HPl.out]; omega) (by rw [HPl.out]; omega), if_neg (by omega), if_neg (by omega)]; exact HG.out), HST, hNS, HWS, (hK.trans (Keep.tw KL)).trans hKS⟩
          case measure => simp [intOf]; omega
        · rw [decide_eq_false hlt] at HLi
          have HD := Lib.hid (dnI_done HI.out (by rw [HPl.out]; omega) (fun m m0 hm he => Int.le_trans (Int.not_lt.1 hlt) (hmin.out m m0 hm he)))
          clear hmin hlt
          go_wp2_with fail
          refine HLi.out.mono ?_
          rintro e wL ⟨rfl, kL⟩
          have KL := Keep.trans k1 kL
          go_wp2
          go_ret
          exact ⟨⟨_, rfl⟩, H', HP.out, HG.out, HD.out, hNr.keep KL, HW.out.keep KL, hK.trans (Keep.tw KL)⟩
    · have k1 : Keep wr wr := Keep.refl wr
      have HLi := Lib.hid (less_any P g N cap c H' a i wr (hNr.keep k1) (HW.out.keep k1).ss HPl.out (by omega) (by omega) hN6 hc (perm_tB HP.out HBB.out))
      have hmin : Hid (∀ m, 0 < m → m < n → (m - 1) / 2 = i → kf c (H'.getD a t0) ≤ kf c (H'.getD m t0)) := Lib.hid (fun m m0 hm he => by
        have h2 : m = a := by omega
        rw [h2]; exact Int.le_refl _)
      by_cases hlt : kf c (H'.getD a t0) < kf c (H'.getD i t0)
      · rw [decide_eq_true hlt] at HLi
        have HST := Lib.hid (dnI_step HI.out (by rw [HPl.out]; omega) (by omega) (by omega) (by omega) hmin.out hlt)
        clear hmin hlt
        go_wp2_with fail
        refine HLi.out.mono ?_
        rintro e wL ⟨rfl, kL⟩
        have KL := Keep.trans k1 kL
        go_wp2_with fail
        refine (swap_any P g N cap c H' i a wL (hNr.keep KL) (HW.out.keep KL) HPl.out hg (by omega) (by omega) hN6).mono ?_
        rintro e wS ⟨rfl, hNS, hWS, hKS, _⟩
        have HWS := Lib.hid hWS
        go_wp2
        go_roundw
        case rel => exact ⟨a, swp H' i a, rfl, by omega, Lib.hid ((swp_perm H' (by rw [HPl.out]; omega) (by rw [HPl.out]; omega)).trans HP.out), Lib.hid (by rw [swp_at _ (by rw [HPl.out]; omega) (by rw [HPl.out]; omega), if_neg (by omega), if_neg (by omega)]; exact HG.out), HST, hNS, HWS, (hK.trans (Keep.tw KL)).trans hKS⟩
        case measure => simp [intOf]; omega
      · rw [decide_eq_false hlt] at HLi
        have HD := Lib.hid (dnI_done HI.out (by rw [HPl.out]; omega) (fun m m0 hm he => Int.le_trans (Int.not_lt.1 hlt) (hmin.out m m0 hm he)))
        clear hmin hlt
        go_wp2_with fail
        refine HLi.out.mono ?_
        rintro e wL ⟨rfl, kL⟩
        have KL := Keep.trans k1 kL
        go_wp2
        go_ret
        exact ⟨⟨_, rfl⟩, H', HP.out, HG.out, HD.out, hNr.keep KL, HW.out.keep KL, hK.trans (Keep.tw KL)⟩
set_option maxRecDepth 100000 in
set_option maxHeartbeats 1000000 in
theorem hpush_any (P base n : Nat) (v : Value) (c r : R3) (H : List R3) (w : World) (h : Nr w P v c) (hO : OwnS w base v H) (hn : H.length = n) (hg : P < base) (hb : base ≤ w.heap.size) (hn6 : n < 6)
    (hc : tB c = true) (hB : ∀ s ∈ H, tB s = true) (hr : tB r = true) (hH : hp (kf c) H) :
    Calls Try.prog 94 #[.iface 112 (.pointer (some ⟨P, 0, none⟩)), .iface 62 (ag r)] w fun e w' => e = .returned (.tuple #[]) ∧ ∃ g cap H', H'.Perm (H ++ [r]) ∧ hp (kf c) H' ∧ Nr w' P (.slice (some ⟨g, 0, none⟩) (n + 1) cap) c ∧ OwnS w' base (.slice (some ⟨g, 0, none⟩) (n + 1) cap) H' ∧ Kp P w w' := by
  have mP := mPush (some ⟨P, 0, none⟩)
  have mL := mLen (some ⟨P, 0, none⟩)
  have HP := Lib.hid (mpush_any P base n v c r H w h hO hn hg hb (by omega))
  have HU := Lib.hid (upI_push hH r)
  have HL : Hid ((H ++ [r]).length = n + 1) := Lib.hid (by simp [hn])
  have HBB : Hid (∀ s ∈ H ++ [r], tB s = true) := Lib.hid (fun s hs => by
    rw [List.mem_append, List.mem_singleton] at hs
    rcases hs with hs | rfl
    · exact hB s hs
    · exact hr)
  have HN := Lib.hid hn
  have hnn : ((n + 1 : Nat) : Int) - 1 = (n : Int) := by omega
  unfold ag at *
  clear hO hn hB hH h
  go_enter Try.func94, Try.ntmps94
  go_wp2_with fail
  refine HP.out.mono ?_
  rintro e w1 ⟨rfl, g, cap, hN1, hO1, hK1⟩
  have HU1 := Lib.hid (HN.out ▸ HU.out : upI (kf c) (H ++ [r]) n)
  have HUP := Lib.hid (fun W (k : Keep w1 W) => up_any P base g (n + 1) cap c (H ++ [r]) n W (hN1.keep k) (hO1.keep k) HL.out hg (by omega) (by omega) hc HBB.out HU1.out)
  go_wp2_with fail
  refine (nlen_any P (n + 1) cap _ c w1 hN1).mono ?_
  rintro e w2 ⟨rfl, rfl⟩
  go_wp2_with fail
  refine (HUP.out _ (Keep.refl _)).mono ?_
  rintro e w3 ⟨rfl, H', hPm, hHp, hN3, hO3, hK3⟩
  go_wp2
  go_end0
  exact ⟨rfl, g, cap, H', hPm, hHp, hN3, hO3, hK1.trans hK3⟩
set_option maxRecDepth 100000 in
set_option maxHeartbeats 1000000 in
theorem hpop_any (P g n cap : Nat) (c : R3) (H : List R3) (w : World) (h : Nr w P (.slice (some ⟨g, 0, none⟩) (n + 1) cap) c) (hW : WrS w g H) (hn : H.length = n + 1) (hg : P < g) (hn6 : n < 6) (hcap : n + 1 ≤ cap)
    (hc : tB c = true) (hB : ∀ s ∈ H, tB s = true) (hH : hp (kf c) H) :
    Calls Try.prog 96 #[.iface 112 (.pointer (some ⟨P, 0, none⟩))] w fun e w' => e = .returned (.iface 62 (ag (H.getD 0 t0))) ∧ ∃ H', (H.getD 0 t0 :: H').Perm H ∧ hp (kf c) H' ∧ Nr w' P (.slice (some ⟨g, 0, none⟩) n cap) c ∧ WrS w' g H' ∧ Tw P g w w' := by
  have mP := mPop (some ⟨P, 0, none⟩)
  have mL := mLen (some ⟨P, 0, none⟩)
  have mS := mSwap (some ⟨P, 0, none⟩)
  have hnn : ((n + 1 : Nat) : Int) - 1 = (n : Int) := by omega
  have HL := Lib.hid (nlen_any P (n + 1) cap _ c w h)
  have HS := Lib.hid (swap_any P g (n + 1) cap c H 0 n w h hW hn hg (by omega) (by omega) (by omega))
  have HD0 := Lib.hid (dnI_start hH hn)
  have HSl : Hid ((swp H 0 n).length = n + 1) := Lib.hid (by rw [swp_len]; exact hn)
  have HSp := Lib.hid (swp_perm H (show 0 < H.length by omega) (show n < H.length by omega))
  have HSn : Hid ((swp H 0 n).getD n t0 = H.getD 0 t0) := Lib.hid (by rw [swp_at H (show 0 < H.length by omega) (show n < H.length by omega), if_pos rfl])
  have HBB := Lib.hid hB
  have HN := Lib.hid hn
  clear h hW hn hB hH
  go_enter Try.func96, Try.ntmps96
  go_wp2_with fail
  refine HL.out.mono ?_
  rintro e w1 ⟨rfl, rfl⟩
  go_wp2_with fail
  refine HS.out.mono ?_
  rintro e w2 ⟨rfl, hN2, hW2, hK2, _⟩
  go_wp2_with fail
  refine (down_any P g n (n + 1) cap c (swp H 0 n) w2 hN2 hW2 HSl.out (by omega) hg (by omega) hc (perm_tB HSp.out HBB.out) HD0.out).mono ?_
  rintro e w3 ⟨⟨bb, rfl⟩, H', hPm, hGn, hHp, hN3, hW3, hK3⟩
  have HG : Hid (H'.getD n t0 = H.getD 0 t0) := Lib.hid (hGn.trans HSn.out)
  have HPP := Lib.hid (pop_perm HN.out (hPm.trans HSp.out) HG.out)
  have HPO := Lib.hid (mpop_any P g n cap c H' w3 hN3 hW3 (by rw [hPm.length_eq, HSl.out]) hg (by omega) hcap)
  rw [HG.out] at HPO
  go_wp2_with fail
  refine HPO.out.mono ?_
  rintro e w4 ⟨rfl, hN4, hW4, hK4⟩
  go_wp2
  go_ret
  exact ⟨rfl, H'.take n, HPP.out, hHp, hN4, hW4, (hK2.trans hK3).trans hK4⟩
end Go.Proofs.Ytpgdbhafdnfhcaa
