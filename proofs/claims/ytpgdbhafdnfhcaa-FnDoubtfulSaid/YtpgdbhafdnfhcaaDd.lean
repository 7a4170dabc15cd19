/- DoubtfulOf of the model. -/
import Derived.Test.YtpgdbhafdnfhcaaDc
import Derived.Test.YtpgdbhafdnfhcaaNl
import Derived.BigQuiet
import Derived.Deep.RegionHeld3
import Derived.Maps.AppendAt
namespace Go.Proofs.Ytpgdbhafdnfhcaa
open Go.RowKit
set_option linter.unusedVariables false

theorem dist_sym (x y : Int) : dist x y = dist y x := by unfold dist; split <;> split <;> omega
set_option maxRecDepth 100000 in
set_option maxHeartbeats 8000000 in
theorem db_spec (a : Option Addr) (cap : Nat) (ts : List R3) (b : Option Addr) (cb : Nat) (vs : List Int) (many most : Int) (w : World) (h : Ss w a ts) (hm : ts.length ≤ 1048576) (hv : Ls w b vs) (hmv : vs.length ≤ 1048576) (hmost : most ≤ 9223372036854775807) :
    Calls Try.prog 41 #[.slice a ts.length cap, .slice b vs.length cb, .int .i64 many, .int .i64 most] w (MadeL (dbL ts vs many most) w) := by
  obtain ⟨i0, hi, hz0, hz1, hz2⟩ := info_parts infoInt'
  have HSI := Lib.hid (fun W (k : Keep w W) => si_spec a cap ts W (h.keep k) (by omega))
  have HSQ := Lib.hid (fun W (k : Keep w W) => sqv_spec b cb vs W (hv.keep k) (by omega))
  have HMA := Lib.hid (l6In_any many 0 6)
  have HD : Hid (dOk ts vs many most = (siB ts && sqB vs && decide (vs.length = ts.length) && inB many 0 6 && decide (0 ≤ most))) := Lib.hid rfl
  have HNO := Lib.hid (dbL_no (ts := ts) (vs := vs) (many := many) (most := most))
  have k0 : Keep w (w.alloc (.cells #[] 3)) := (Keep.refl w).alloc _
  have HM0 : Hid (∀ W : World, Keep (w.alloc (.cells #[] 3)) W → dbL ts vs many most = [] → MadeL (dbL ts vs many most) w (.returned (.slice (some ⟨w.heap.size, 0, none⟩) 0 0)) W) := Lib.hid (fun W k he => by
    rw [he]
    have h1 : OwnI (w.alloc (.cells #[] 3)) w.heap.size (.slice (some ⟨w.heap.size, 0, none⟩) 0 0) [] := World.ownsRow_made w #[] 0 (Nat.le_refl _) (by unfold maxLen; omega) rfl
    exact made_own (h1.keep k) (((Keep.refl w).alloc _).trans k))
  by_cases h1 : siB ts = false
  · have HE := Lib.hid (HNO.out (by rw [HD.out, h1]; rfl))
    rw [h1] at HSI
    clear h1
    go_enter Try.func41, Try.ntmps41
    go_wp2_with fail
    refine (HSI.out _ k0).mono ?_
    rintro e w1 ⟨rfl, k1⟩
    go_wp2
    go_ret
    exact HM0.out _ k1 HE.out
  have h1 : siB ts = true := by simpa using h1
  rw [h1] at HSI HD
  by_cases h2 : sqB vs = false
  · have HE := Lib.hid (HNO.out (by rw [HD.out, h2]; rfl))
    rw [h2] at HSQ
    clear h2
    go_enter Try.func41, Try.ntmps41
    go_wp2_with fail
    refine (HSI.out _ k0).mono ?_
    rintro e w1 ⟨rfl, k1⟩
    go_wp2_with fail
    refine (HSQ.out _ (k0.trans k1)).mono ?_
    rintro e w2 ⟨rfl, rfl⟩
    go_wp2
    go_ret
    exact HM0.out _ k1 HE.out
  have h2 : sqB vs = true := by simpa using h2
  rw [h2] at HSQ HD
  by_cases h3 : vs.length = ts.length
  case' neg =>
    have HE := Lib.hid (HNO.out (by rw [HD.out, decide_eq_false h3]; rfl))
    have h3n : ((vs.length : Int) != (ts.length : Int)) = true := bne_iff_ne.2 (by omega)
    go_enter Try.func41, Try.ntmps41
    go_wp2_with fail
    refine (HSI.out _ k0).mono ?_
    rintro e w1 ⟨rfl, k1⟩
    go_wp2_with fail
    refine (HSQ.out _ (k0.trans k1)).mono ?_
    rintro e w2 ⟨rfl, rfl⟩
    go_wp2
    go_ret
    exact HM0.out _ k1 HE.out
  have h3n : ((vs.length : Int) != (ts.length : Int)) = false := by simp [h3]
  have H3 := Lib.hid h3
  rw [decide_eq_true h3] at HD
  have hle1 : vs.length ≤ ts.length := by omega
  have hle2 : ts.length ≤ vs.length := by omega
  clear h3
  by_cases h4 : inB many 0 6 = false
  · have HE := Lib.hid (HNO.out (by rw [HD.out, h4]; rfl))
    rw [h4] at HMA
    clear h4
    go_enter Try.func41, Try.ntmps41
    go_wp2_with fail
    refine (HSI.out _ k0).mono ?_
    rintro e w1 ⟨rfl, k1⟩
    go_wp2_with fail
    refine (HSQ.out _ (k0.trans k1)).mono ?_
    rintro e w2 ⟨rfl, rfl⟩
    go_wp2_with fail
    refine (HMA.out _).mono ?_
    rintro e w3 ⟨rfl, rfl⟩
    go_wp2
    go_ret
    exact HM0.out _ k1 HE.out
  have h4 : inB many 0 6 = true := by simpa using h4
  rw [h4] at HMA HD
  by_cases h5 : most < 0
  · have HE := Lib.hid (HNO.out (by rw [HD.out, decide_eq_false (by omega)]; rfl))
    go_enter Try.func41, Try.ntmps41
    go_wp2_with fail
    refine (HSI.out _ k0).mono ?_
    rintro e w1 ⟨rfl, k1⟩
    go_wp2_with fail
    refine (HSQ.out _ (k0.trans k1)).mono ?_
    rintro e w2 ⟨rfl, rfl⟩
    go_wp2_with fail
    refine (HMA.out _).mono ?_
    rintro e w3 ⟨rfl, rfl⟩
    go_wp2
    go_ret
    exact HM0.out _ k1 HE.out
  have hok : dOk ts vs many most = true := by rw [HD.out, decide_eq_true (by omega)]; rfl
  have HL := Lib.hid (dbL_yes hok)
  obtain ⟨-, -, -, ⟨m0, m6⟩, -⟩ := dOk_facts hok
  obtain ⟨mm, rfl⟩ : ∃ mm : Nat, many = (mm : Int) := ⟨many.toNat, by omega⟩
  rw [Int.toNat_natCast] at HL
  have HS := Lib.hid h1
  have HQ : Hid (∀ x ∈ vs, qB x = true) := Lib.hid (fun x hx => List.all_eq_true.1 (sq_facts h2).1 x hx)
  have HH := Lib.hid h
  have HV := Lib.hid hv
  have hl6 := si_len h1
  have hmw : IntKind.i64.wrap (-most) = -most := IntWalk.i64_in _ ⟨by omega, by omega⟩
  have HO0 : Hid (OwnI (w.alloc (.cells #[] 3)) w.heap.size (.slice (some ⟨w.heap.size, 0, none⟩) 0 0) []) := Lib.hid (World.ownsRow_made w #[] 0 (Nat.le_refl _) (by unfold maxLen; omega) rfl)
  clear h1 h2 h4 hok HD HNO h hv HM0
  go_enter Try.func41, Try.ntmps41
  go_wp2_with fail
  refine (HSI.out _ k0).mono ?_
  rintro e w1 ⟨rfl, k1⟩
  go_wp2_with fail
  refine (HSQ.out _ (k0.trans k1)).mono ?_
  rintro e w2 ⟨rfl, rfl⟩
  go_wp2_with fail
  refine (HMA.out _).mono ?_
  rintro e w3 ⟨rfl, rfl⟩
  have HK1 := Lib.hid (k0.trans k1)
  have HO1 := Lib.hid (HO0.out.keep k1)
  clear HSI HSQ HMA HO0 k0 k1
  go_wp2_with fail
  go_loopw [9, 10] (fun u i wr => ∃ (k n g cx : Nat), k ≤ ts.length ∧ n ≤ k ∧ i = .int .i64 k ∧ u = .slice (some ⟨g, 0, none⟩) n cx ∧ n ≤ cx ∧ Hid ((dbN ts vs mm most k).length = n) ∧ Hid (OwnI wr w.heap.size (.slice (some ⟨g, 0, none⟩) n cx) (dbN ts vs mm most k)) ∧ Keep w wr) (fun _ i _ => ts.length - (intOf i).toNat)
  case atStart => exact ⟨0, 0, w.heap.size, 0, by omega, by omega, rfl, rfl, by omega, Lib.hid rfl, HO1, HK1.out⟩
  case round =>
    obtain ⟨k, n, g, cx, hk, hn, rfl, rfl, hnc, HLn, HOw, hK⟩ := hrel
    by_cases hlt : k < ts.length
    case' neg =>
      obtain rfl : k = ts.length := by omega
      have HF : Hid (MadeL (dbL ts vs (mm : Int) most) w (.returned (.slice (some ⟨g, 0, none⟩) n cx)) wr) := Lib.hid (by
        rw [HL.out]
        have h1 := HOw.out
        unfold OwnI at h1
        rw [HLn.out] at h1
        exact made_own h1 hK)
      go_wp2
      go_ret
      exact HF.out
    have HLN := Lib.hid (lnear_any a cap ts k mm wr (HH.out.keep hK) HS.out hlt (by omega))
    have HPS := Lib.hid (fun q (hq : q < ts.length) => plc_self HS.out hq)
    have hjb := jdV_bd (mm := mm) HS.out hlt H3.out HQ.out
    have HDN : Hid (dbN ts vs mm most (k + 1) = dbN ts vs mm most k ++ (if (jdB (nvL ts vs k mm) && (vs.getD k 0 != -9999) && decide (most < dist (vs.getD k 0) (jdV (nvL ts vs k mm)))) then [tS (ts.getD k t0)] else [])) := Lib.hid rfl
    have HNV : Hid (nvL ts vs k mm = (((nrP ts k).take mm).map tS).map fun o => vs.getD (plc ts o) 0) := Lib.hid rfl
    have HJB : Hid (jdB (nvL ts vs k mm) = decide (2 ≤ (knl (nvL ts vs k mm)).length)) := Lib.hid rfl
    have HJV : Hid (jdV (nvL ts vs k mm) = if jdB (nvL ts vs k mm) then mdL (knl (nvL ts vs k mm)) else 0) := Lib.hid rfl
    go_wp2_with fail
    refine HLN.out.mono ?_
    rintro e w4 ⟨n4, PL, hPk, hTk, hn6, g4, c4, rfl, hc4, hW4, hg4, hl4, k4⟩
    have HIL : Hid ((ints PL).length = n4) := Lib.hid (by rw [ints_len, hPk.len])
    have HPk := Lib.hid hPk
    have HN : Hid (nvL ts vs k mm = PL.map fun q => vs.getD q 0) := Lib.hid (by
      rw [HNV.out, ← hTk, ← hPk.map, List.map_map, List.map_map]
      refine List.map_congr_left (fun q hq => ?_)
      show vs.getD (plc ts (tS (ts.getD q t0))) 0 = vs.getD q 0
      rw [HPS.out q (hPk.lt q hq)])
    have HP4 := Lib.hid hW4.ls
    rw [HIL.out]
    have K4 := hK.trans k4
    have HOw4 := Lib.hid (HOw.out.keep k4)
    generalize nvL ts vs k mm = N at *
    clear hPk hTk hW4 HLN HNV HPS hc4 HOw
    obtain ⟨wb, hwb⟩ : ∃ wb : World, wb = w4.alloc (.cells #[] 3) := ⟨_, rfl⟩
    have HN0 : Hid (OwnI (w4.alloc (.cells #[] 3)) w4.heap.size (.slice (some ⟨w4.heap.size, 0, none⟩) 0 0) (([] : List Nat).map fun q => vs.getD q 0)) := Lib.hid (World.ownsRow_made w4 #[] 0 (Nat.le_refl _) (by unfold maxLen; omega) rfl)
    have kb : Keep w4 (w4.alloc (.cells #[] 3)) := (Keep.refl w4).alloc _
    have HKB := Lib.hid kb
    clear hwb kb
    go_wp2_with fail
    go_loopw [12, 13] (fun u i wr => ∃ (j gn cn : Nat), j ≤ n4 ∧ i = .int .i64 j ∧ u = .slice (some ⟨gn, 0, none⟩) j cn ∧ j ≤ cn ∧ Hid (OwnI wr w4.heap.size (.slice (some ⟨gn, 0, none⟩) j cn) ((PL.take j).map fun q => vs.getD q 0)) ∧ Keep w4 wr) (fun _ i _ => n4 - (intOf i).toNat)
    case atStart => exact ⟨0, w4.heap.size, 0, by omega, rfl, rfl, by omega, HN0, HKB.out⟩
    case round =>
      obtain ⟨j, gn, cn, hj, rfl, rfl, hjc, HON, hKn⟩ := hrel
      by_cases hjl : j < n4
      · obtain ⟨pb, po, he, _, cj⟩ := (HP4.out.keep hKn).at_ (show j < (ints PL).length by rw [HIL.out]; exact hjl)
        injection he with he
        injection he with e1 e2 _
        subst e1; subst e2
        rw [Nat.zero_add, ints_at PL (by rw [HPk.out.len]; exact hjl)] at cj
        obtain ⟨q, hq⟩ : ∃ q, PL.getD j 0 = q := ⟨_, rfl⟩
        have hqm : q ∈ PL := by
          rw [← hq]
          have hkl : j < PL.length := by rw [HPk.out.len]; exact hjl
          simp [List.getD_eq_getElem?_getD, hkl]
        have hql := HPk.out.lt q hqm
        have HTK : Hid ((PL.take (j + 1)).map (fun q => vs.getD q 0) = (PL.take j).map (fun q => vs.getD q 0) ++ [vs.getD q 0]) := Lib.hid (by
          have hkl : j < PL.length := by rw [HPk.out.len]; exact hjl
          rw [List.take_succ_eq_append_getElem hkl, List.map_append, ← hq]
          simp [List.getD_eq_getElem?_getD, hkl])
        rw [hq] at cj
        clear hq hqm
        obtain ⟨vb, vo, rfl, _, cv⟩ := (HV.out.keep (K4.trans hKn)).at_ (show q < vs.length by omega)
        obtain ⟨LL, hLL⟩ : ∃ LL, (PL.take j).map (fun q => vs.getD q 0) = LL := ⟨_, rfl⟩
        have HLL : Hid (LL.length = j) := Lib.hid (by rw [← hLL, List.length_map, List.length_take, HPk.out.len]; omega)
        rw [hLL] at HON HTK
        clear hLL
        generalize vs.getD q 0 = v at *
        have q0 : (0 : Int) ≤ (q : Int) := by omega
        have q1 : (q : Int) < (vs.length : Int) := by omega
        have hown : wr.ownsRow w4.heap.size 3 1 (.slice (some ⟨gn, 0, none⟩) j cn) j (LL.map (Value.int .i64)) := by
          have h9 : wr.ownsRow w4.heap.size 3 1 (.slice (some ⟨gn, 0, none⟩) j cn) LL.length (LL.map (Value.int .i64)) := HON.out
          rwa [HLL.out] at h9
        have hbs := hKn.size
        clear HON
        go_wp2_with (at_builtin; refine wpList_append_own _ rfl _ _ 43 rfl w4.heap.size 3 i0 (.int .i64 0) 1 8 Try.underlying43 hi hz0 hz1 hz2 rfl (by decide) _ _ _ rfl (hown.alloc _) ⟨wr.heap.size, 0, none⟩ 1 1 [.int .i64 v] rfl rfl (cell_one_new _ _ _) (by first | rfl | (intro u hu; simp at hu; subst hu; rfl)) (by unfold maxLen; omega) (by omega) (by first | omega | (simp; omega)) ?_)
        intro v' w6 hown' hgrow hnil
        have hrow : ∀ g', (Value.slice (some ⟨gn, 0, none⟩) j cn).ownBlock = some g' → w4.heap.size ≤ g' := fun g' hg => (hown.lt g' hg).1
        obtain ⟨x', cx', rfl, hbx, hlx⟩ := hown'.form (by omega)
        have hcx := own_capI hown'
        have HO6 : Hid (OwnI w6 w4.heap.size (.slice (some ⟨x', 0, none⟩) (j + 1) cx') ((PL.take (j + 1)).map fun q => vs.getD q 0)) := Lib.hid (by
          unfold OwnI
          rw [HTK.out, List.length_append, HLL.out, List.map_append]
          exact hown')
        have HK6 := Lib.hid ((hKn.alloc (.cells #[.int .i64 v] 3)).grown2 hgrow hrow)
        clear hown' hgrow hnil hown hrow
        go_wp2
        go_roundw
        case rel => exact ⟨j + 1, x', cx', by omega, by go_num, rfl, hcx, HO6, HK6.out⟩
        case measure => simp [intOf]; omega
      · obtain rfl : j = n4 := by omega
        have HNN : Hid ((PL.take j).map (fun q => vs.getD q 0) = N) := Lib.hid (by rw [List.take_of_length_le (by rw [HPk.out.len]; exact Nat.le_refl _), HN.out])
        rw [HNN.out] at HON
        have HNl : Hid (N.length = j) := Lib.hid (by rw [HN.out, List.length_map, HPk.out.len])
        have hLs : Ls wr (some ⟨gn, 0, none⟩) N := by
          obtain ⟨x9, c9, hv9, _, h9⟩ := HON.out.lsc
          injection hv9 with e9 _ _
          rw [e9]; exact h9
        have HKN := Lib.hid (known2_any (some ⟨gn, 0, none⟩) cn N wr hLs (by rw [HNl.out]; omega))
        rw [HNl.out] at HKN
        clear HNN hLs
        go_wp2_with fail
        refine HKN.out.mono ?_
        rintro e w5 ⟨g5, c5, rfl, hc5, hW5, hg5, hl5, k5⟩
        have K5 := (K4.trans hKn).trans k5
        have HOX := Lib.hid (HOw4.out.keep (hKn.trans k5))
        obtain ⟨vb, vo, rfl, _, cv⟩ := (HV.out.keep K5).at_ (show k < vs.length by omega)
        have hvb := qB_wide (HQ.out _ (getD_mem (show k < vs.length by omega)))
        have k0' : (0 : Int) ≤ (k : Int) := by omega
        have kz : (k : Int) < (vs.length : Int) := by omega
        have kz2 : (k : Int) < (ts.length : Int) := by omega
        clear HON HKN HN HP4 HIL HPk
        generalize vs.getD k 0 = v at *
        have HKL5 : (knl N).length ≤ 6 := by
          have h1 : (knl N).length ≤ N.length := List.length_filter_le _ _
          have h2 := HNl.out
          omega
        by_cases hv0 : v = -9999
        · have hve : (v != -9999) = false := by simp [hv0]
          have HD2 : Hid (dbN ts vs mm most (k + 1) = dbN ts vs mm most k) := Lib.hid (by rw [HDN.out, hve]; simp)
          rw [← HD2.out] at HLn HOX
          subst hv0
          clear HD2 HDN
          go_wp2_with fail
          go_quiet (fail)
          go_wp2
          go_roundw
          case rel => exact ⟨k + 1, n, g, cx, by omega, by omega, by go_num, rfl, hnc, HLn, Lib.hid (HOX.out.keep ((Keep.refl _).drewN _)), K5.drewN _⟩
          case measure => simp [intOf]; omega
        have hve : (v != -9999) = true := bne_iff_ne.2 hv0
        by_cases hj2 : 2 ≤ (knl N).length
        case' neg =>
          have HD2 : Hid (dbN ts vs mm most (k + 1) = dbN ts vs mm most k) := Lib.hid (by rw [HDN.out, HJB.out, decide_eq_false hj2]; simp)
          rw [← HD2.out] at HLn HOX
          have hge : decide ((2 : Int) ≤ ((knl N).length : Int)) = false := decide_eq_false (by omega)
          clear HD2 HDN
          go_wp2_with fail
          go_quiet (fail)
          go_wp2
          go_roundw
          case rel => exact ⟨k + 1, n, g, cx, by omega, by omega, by go_num, rfl, hnc, HLn, Lib.hid (HOX.out.keep ((Keep.refl _).drewN _)), K5.drewN _⟩
          case measure => simp [intOf]; omega
        have hge : decide ((2 : Int) ≤ ((knl N).length : Int)) = true := decide_eq_true (by omega)
        have hjb1 : Hid (jdB N = true) := Lib.hid (by rw [HJB.out]; exact decide_eq_true hj2)
        have hjv : Hid (jdV N = mdL (knl N)) := Lib.hid (by rw [HJV.out, hjb1.out]; rfl)
        have HMD := Lib.hid (fun W (hw : Keep w5 W) => md_spec (some ⟨g5, 0, none⟩) c5 (knl N) W (hW5.ls.keep hw) (by omega) (by omega))
        rw [hjv.out] at hjb HDN
        rw [hjb1.out, hve] at HDN
        have hTS := Lib.hid (fun W (hw : Keep w5 W) => (HH.out.keep (K5.trans hw)).at_ hlt)
        clear hjv hjb1 HJV HJB hW5
        generalize mdL (knl N) = md at *
        generalize (knl N).length = kl at *
        have hw1 : IntKind.i64.wrap (v - md) = v - md := IntWalk.i64_in _ ⟨by omega, by omega⟩
        have HI := Lib.hid (fun W => (l6In_any (v - md) (-most) most W).mono fun e w' (hh : e = .returned (.bool (inB (v - md) (-most) most)) ∧ W = w') => (⟨hh.1, hh.2 ▸ Keep.refl W⟩ : e = .returned (.bool (inB (v - md) (-most) most)) ∧ Keep W w'))
        obtain ⟨r, hr⟩ : ∃ r, inB (v - md) (-most) most = r := ⟨_, rfl⟩
        have HDI : Hid (decide (most < dist v md) = !r) := Lib.hid (by rw [dist_sym, dist_in, hr])
        rw [hr] at HI
        rw [HDI.out] at HDN
        clear hr HDI
        have HK5 := Lib.hid K5
        obtain ⟨W0, rfl⟩ : ∃ W0 : World, W0 = w5 := ⟨_, rfl⟩
        cases r
        case' true =>
          have HD2 : Hid (dbN ts vs mm most (k + 1) = dbN ts vs mm most k) := Lib.hid (by rw [HDN.out]; simp)
          rw [← HD2.out] at HLn HOX
          clear HD2 HDN
          go_wp2_with fail
          go_region_held3 (fun w' => Keep W0 w' ∧ w'.cell? ⟨vb, vo + k, none⟩ = some (.int .i64 v))
            ((go_split_ands; refine (fun hK => ⟨hK, hK.cell cv⟩ : Keep W0 _ → _) ?_; (repeat' (first | with_reducible assumption | with_reducible exact Keep.refl _ | with_reducible refine Keep.drew ?_ | with_reducible refine Keep.alloc ?_ _ | with_reducible refine Keep.trans ?_ hk))))
            (first
            | (go_at_call 92; go_split_ands; (with_reducible refine (HMD.out _ (by (repeat' (first | with_reducible assumption | with_reducible exact Keep.refl _ | with_reducible refine Keep.drew ?_ | with_reducible refine Keep.alloc ?_ _ | with_reducible refine Keep.trans ?_ hk)))).mono ?_); rintro e w' ⟨rfl, hk⟩; go_split_ands; have hK : Keep W0 w' := Keep.trans (by (repeat' (first | with_reducible assumption | with_reducible exact Keep.refl _ | with_reducible refine Keep.drew ?_ | with_reducible refine Keep.alloc ?_ _ | with_reducible refine Keep.trans ?_ hk))) hk)
            | (go_at_call 50; go_split_ands; (with_reducible refine (HI.out _).mono ?_); rintro e w' ⟨rfl, hk⟩; go_split_ands; have hK : Keep W0 w' := Keep.trans (by (repeat' (first | with_reducible assumption | with_reducible exact Keep.refl _ | with_reducible refine Keep.drew ?_ | with_reducible refine Keep.alloc ?_ _ | with_reducible refine Keep.trans ?_ hk))) hk))
          all_goals
            go_wp2
            go_roundw
            case rel => exact ⟨k + 1, n, g, cx, by omega, by omega, by go_num, rfl, hnc, HLn, Lib.hid (HOX.out.keep (by (repeat' (first | with_reducible assumption | with_reducible exact Keep.refl _ | with_reducible refine Keep.drew ?_ | with_reducible refine Keep.alloc ?_ _ | with_reducible refine Keep.trans ?_ hk)))), HK5.out.trans (by (repeat' (first | with_reducible assumption | with_reducible exact Keep.refl _ | with_reducible refine Keep.drew ?_ | with_reducible refine Keep.alloc ?_ _ | with_reducible refine Keep.trans ?_ hk)))⟩
            case measure => simp [intOf]; omega
        case' false =>
          have HD2 : Hid (dbN ts vs mm most (k + 1) = dbN ts vs mm most k ++ [tS (ts.getD k t0)]) := Lib.hid (by rw [HDN.out]; simp)
          clear HDN
          go_wp2_with fail
          go_region_held3 (fun w' => Keep W0 w' ∧ w'.cell? ⟨vb, vo + k, none⟩ = some (.int .i64 v))
            ((go_split_ands; refine (fun hK => ⟨hK, hK.cell cv⟩ : Keep W0 _ → _) ?_; (repeat' (first | with_reducible assumption | with_reducible exact Keep.refl _ | with_reducible refine Keep.drew ?_ | with_reducible refine Keep.alloc ?_ _ | with_reducible refine Keep.trans ?_ hk))))
            (first
            | (go_at_call 92; go_split_ands; (with_reducible refine (HMD.out _ (by (repeat' (first | with_reducible assumption | with_reducible exact Keep.refl _ | with_reducible refine Keep.drew ?_ | with_reducible refine Keep.alloc ?_ _ | with_reducible refine Keep.trans ?_ hk)))).mono ?_); rintro e w' ⟨rfl, hk⟩; go_split_ands; have hK : Keep W0 w' := Keep.trans (by (repeat' (first | with_reducible assumption | with_reducible exact Keep.refl _ | with_reducible refine Keep.drew ?_ | with_reducible refine Keep.alloc ?_ _ | with_reducible refine Keep.trans ?_ hk))) hk)
            | (go_at_call 50; go_split_ands; (with_reducible refine (HI.out _).mono ?_); rintro e w' ⟨rfl, hk⟩; go_split_ands; have hK : Keep W0 w' := Keep.trans (by (repeat' (first | with_reducible assumption | with_reducible exact Keep.refl _ | with_reducible refine Keep.drew ?_ | with_reducible refine Keep.alloc ?_ _ | with_reducible refine Keep.trans ?_ hk))) hk))
          all_goals
            have K7 := HK5.out.trans hK
            obtain ⟨zb, zo, hze, _, ⟨s0, _, _⟩⟩ := hTS.out _ hK
            subst hze
            have HO7 := HOX.out.keep hK
            generalize tS (ts.getD k t0) = s at *
            obtain ⟨D, hD⟩ : ∃ D, dbN ts vs mm most k = D := ⟨_, rfl⟩
            rw [hD] at HLn HO7 HD2
            clear hD
            have hown : w'.ownsRow w.heap.size 3 1 (.slice (some ⟨g, 0, none⟩) n cx) n (D.map (Value.int .i64)) := by
              have h8 : w'.ownsRow w.heap.size 3 1 (.slice (some ⟨g, 0, none⟩) n cx) D.length (D.map (Value.int .i64)) := HO7
              rwa [HLn.out] at h8
            have hbs := K7.size
            clear HO7 HOX HMD HI hTS
            go_wp2_with (at_builtin; refine wpList_append_own _ rfl _ _ 43 rfl w.heap.size 3 i0 (.int .i64 0) 1 8 Try.underlying43 hi hz0 hz1 hz2 rfl (by decide) _ _ _ rfl (hown.alloc _) ⟨w'.heap.size, 0, none⟩ 1 1 [.int .i64 s] rfl rfl (cell_one_new _ _ _) (by first | rfl | (intro u hu; simp at hu; subst hu; rfl)) (by unfold maxLen; omega) (by omega) (by first | omega | (simp; omega)) ?_)
            intro v' w6 hown' hgrow hnil
            have hrow : ∀ g', (Value.slice (some ⟨g, 0, none⟩) n cx).ownBlock = some g' → w.heap.size ≤ g' := fun g' hg => (hown.lt g' hg).1
            obtain ⟨x', cx', rfl, hbx, hlx⟩ := hown'.form (by omega)
            have hcx := own_capI hown'
            have HO6 : Hid (OwnI w6 w.heap.size (.slice (some ⟨x', 0, none⟩) (n + 1) cx') (dbN ts vs mm most (k + 1))) := Lib.hid (by
              unfold OwnI
              rw [HD2.out, List.length_append, HLn.out, List.map_append]
              exact hown')
            have HL6 : Hid ((dbN ts vs mm most (k + 1)).length = n + 1) := Lib.hid (by rw [HD2.out, List.length_append, HLn.out]; rfl)
            have HK6 := Lib.hid ((K7.alloc (.cells #[.int .i64 s] 3)).grown2 hgrow hrow)
            clear hown' hgrow hnil hown hrow
            go_wp2
            go_roundw
            case rel => exact ⟨k + 1, n + 1, x', cx', by omega, by omega, by go_num, rfl, hcx, HL6, HO6, HK6.out⟩
            case measure => simp [intOf]; omega
end Go.Proofs.Ytpgdbhafdnfhcaa
