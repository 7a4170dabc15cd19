/- NearestOf of the program: all sites are pushed, the nearest are popped. -/
import Derived.Test.YtpgdbhafdnfhcaaNi
import Derived.Test.YtpgdbhafdnfhcaaFc
namespace Go.Proofs.Ytpgdbhafdnfhcaa
open Go.RowKit
set_option linter.unusedVariables false

theorem fil_take (ts : List R3) (st : Int) {k : Nat} (h : k < ts.length) : (ts.take (k + 1)).filter (fun r => tS r != st) = (ts.take k).filter (fun r => tS r != st) ++ (if tS (ts.getD k t0) = st then [] else [ts.getD k t0]) := by
  have e : ts.getD k t0 = ts[k] := by simp [List.getD_eq_getElem?_getD, h]
  rw [List.take_succ_eq_append_getElem h, List.filter_append, e]
  congr 1
  by_cases hx : tS ts[k] = st
  · rw [if_pos hx]; simp [hx]
  · rw [if_neg hx]; simp [hx]
theorem fil_tB {ts : List R3} (h : siB ts = true) (st : Int) (k : Nat) {H : List R3} (hp : H.Perm ((ts.take k).filter (fun r => tS r != st))) : ∀ r ∈ H, tB r = true := by
  intro r hr
  have h1 := List.mem_of_mem_take (List.mem_filter.1 (hp.subset hr)).1
  obtain ⟨i, hi, rfl⟩ := mem_at h1
  exact si_tB h hi
theorem nrP_tB {ts : List R3} (h : siB ts = true) {p : Nat} (hp : p < ts.length) (m : Nat) {H : List R3} (hP : H.Perm ((nrP ts p).drop m)) : ∀ r ∈ H, tB r = true := by
  intro r hr
  obtain ⟨i, hi, _, rfl⟩ := (nrP_mem hp).1 (List.mem_of_mem_drop (hP.subset hr))
  exact si_tB h hi
theorem fldSite (s x y : Int) (W : World) : Sem.run Try.prog (Instr.field 62 (.agg #[.int .i64 s, .int .i64 x, .int .i64 y]) 0) W = .ok (.int .i64 s) W := by kernel_rfl
set_option maxRecDepth 100000 in
set_option maxHeartbeats 8000000 in
theorem nr_impl (a : Option Addr) (cap : Nat) (ts : List R3) (st many : Int) (w : World) (h : Ss w a ts) (hm : ts.length ≤ 1048576) :
    Calls Try.prog 42 #[.slice a ts.length cap, .int .i64 st, .int .i64 many] w (NPost (nrL ts st many) w) := by
  obtain ⟨i0, hi, hz0, hz1, hz2⟩ := info_parts infoInt'
  have HPL := Lib.hid (fun W (k : Keep w W) => place_any a cap ts st W (h.keep k) hm)
  have HSI := Lib.hid (fun W (k : Keep w W) => si_impl a cap ts W (h.keep k) (by omega))
  have HMA := Lib.hid (many_any many)
  have HNO : Hid (nrOk ts st many = false → nrL ts st many = []) := Lib.hid nrL_no
  have HOK : Hid (nrOk ts st many = (siB ts && decide (plc ts st < ts.length) && inB many 0 6)) := Lib.hid rfl
  have HPI : Hid (plI ts st = if plc ts st < ts.length then (plc ts st : Int) else -1) := Lib.hid rfl
  by_cases hs : siB ts = false
  · have HE := Lib.hid (HNO.out (by rw [HOK.out, hs]; rfl))
    rw [hs] at HSI
    clear hs
    generalize plI ts st = pl at *
    go_enter Try.func42, Try.ntmps42
    go_wp2_with fail
    refine (HPL.out _ (Keep.refl _)).mono ?_
    rintro e w1 ⟨rfl, k1⟩
    go_wp2_with fail
    refine (HSI.out _ k1).mono ?_
    rintro e w2 ⟨rfl, k2⟩
    go_wp2
    go_ret
    exact npost_no HE.out (k1.trans k2)
  have hs : siB ts = true := by simpa using hs
  have HS := Lib.hid hs
  rw [hs] at HSI
  clear hs
  by_cases hpp : plc ts st < ts.length
  case' neg =>
    have HE := Lib.hid (HNO.out (by rw [HOK.out, decide_eq_false hpp]; simp))
    rw [HPI.out, if_neg hpp] at HPL
    clear hpp
    go_enter Try.func42, Try.ntmps42
    go_wp2_with fail
    refine (HPL.out _ (Keep.refl _)).mono ?_
    rintro e w1 ⟨rfl, k1⟩
    go_wp2_with fail
    refine (HSI.out _ k1).mono ?_
    rintro e w2 ⟨rfl, k2⟩
    go_wp2
    go_ret
    exact npost_no HE.out (k1.trans k2)
  rw [HPI.out, if_pos hpp] at HPL
  have HAT := Lib.hid (plc_at hpp)
  have hp0 : (0 : Int) ≤ (plc ts st : Int) := by omega
  by_cases hmo : inB many 0 6 = false
  · have HE := Lib.hid (HNO.out (by rw [HOK.out, hmo]; simp))
    rw [hmo] at HMA
    clear hmo
    generalize plc ts st = p at *
    go_enter Try.func42, Try.ntmps42
    go_wp2_with fail
    refine (HPL.out _ (Keep.refl _)).mono ?_
    rintro e w1 ⟨rfl, k1⟩
    go_wp2_with fail
    refine (HSI.out _ k1).mono ?_
    rintro e w2 ⟨rfl, k2⟩
    go_wp2_with fail
    refine (HMA.out _).mono ?_
    rintro e w3 ⟨rfl, rfl⟩
    go_wp2
    go_ret
    exact npost_no HE.out (k1.trans k2)
  have hmo : inB many 0 6 = true := by simpa using hmo
  have HOk : Hid (nrOk ts st many = true) := Lib.hid (by rw [HOK.out, HS.out, decide_eq_true hpp, hmo]; rfl)
  have HL := Lib.hid (nrL_yes HOk.out)
  obtain ⟨_, _, m0, m6⟩ := nrOk_facts HOk.out
  rw [hmo] at HMA
  obtain ⟨mm, rfl⟩ : ∃ mm : Nat, many = (mm : Int) := ⟨many.toNat, by omega⟩
  rw [Int.toNat_natCast] at HL
  have hl6 := si_len HS.out
  clear hmo HOk HOK HPI HNO m0
  generalize plc ts st = p at *
  have hlp := nrP_len hpp
  have HTC := Lib.hid (si_tB HS.out hpp)
  obtain ⟨c, hc⟩ : ∃ c, ts.getD p t0 = c := ⟨_, rfl⟩
  have HC := Lib.hid hc
  rw [hc] at HTC HAT
  have HNP : Hid (nrP ts p = srt (kf c) (ts.take p ++ ts.drop (p + 1))) := Lib.hid (by rw [nrP, hc])
  have HOE : Hid (ts.filter (fun r => tS r != st) = ts.take p ++ ts.drop (p + 1)) := Lib.hid (by rw [← oth_eq HS.out hpp, hc, HAT.out])
  have hpl : (p : Int) < (ts.length : Int) := by omega
  go_enter Try.func42, Try.ntmps42
  go_wp2_with fail
  refine (HPL.out _ (Keep.refl _)).mono ?_
  rintro e w1 ⟨rfl, k1⟩
  go_wp2_with fail
  refine (HSI.out _ k1).mono ?_
  rintro e w1b ⟨rfl, k1b⟩
  go_wp2_with fail
  refine (HMA.out _).mono ?_
  rintro e w2 ⟨rfl, rfl⟩
  have K2 := k1.trans k1b
  obtain ⟨b, off, rfl, hb, ⟨c0, c1, c2⟩⟩ := (h.keep K2).at_ hpp
  rw [hc] at c0 c1 c2
  have HH := Lib.hid (h.keep K2)
  have HKW := Lib.hid K2
  clear HPL HSI HMA k1 k1b hc h
  obtain ⟨P, hP⟩ : ∃ P, P = w1b.heap.size := ⟨_, rfl⟩
  have HNR0 : Hid (Nr (w1b.alloc (.cells #[.int .i64 (tS c), .int .i64 (tX c), .int .i64 (tY c), .slice none 0 0] 114)) w1b.heap.size (.slice none 0 0) c) := Lib.hid ⟨⟨by go_simp, by go_simp, by go_simp⟩, by go_simp, World.frozen?_alloc_at _ _ _ _ rfl⟩
  have HOW0 : Hid (OwnS (w1b.alloc (.cells #[.int .i64 (tS c), .int .i64 (tX c), .int .i64 (tY c), .slice none 0 0] 114)) (w1b.heap.size + 1) (.slice none 0 0) []) := Lib.hid (World.ownsRow_nil _ _ _ _)
  have HKP0 : Hid (Kp w1b.heap.size w1b (w1b.alloc (.cells #[.int .i64 (tS c), .int .i64 (tX c), .int .i64 (tY c), .slice none 0 0] 114))) := Lib.hid (Keep.kp ((Keep.refl w1b).alloc _))
  clear hP
  go_wp2_with fail
  go_loopw [35] (fun i wr => ∃ (k n : Nat) (v : Value) (H : List R3), i = .int .i64 k ∧ k ≤ ts.length ∧ n ≤ k ∧ Hid (H.length = n) ∧ Hid (H.Perm ((ts.take k).filter (fun r => tS r != st))) ∧ Hid (hp (kf c) H) ∧ Hid (Nr wr w1b.heap.size v c) ∧ Hid (OwnS wr (w1b.heap.size + 1) v H) ∧ w1b.heap.size + 1 ≤ wr.heap.size ∧ Hid (Kp w1b.heap.size w1b wr)) (fun i _ => ts.length - (intOf i).toNat)
  case atStart => exact ⟨0, 0, _, [], rfl, by omega, by omega, Lib.hid rfl, Lib.hid (by simp), Lib.hid (fun i h0 hi => by simp at hi), HNR0, HOW0, by simp, HKP0⟩
  case round =>
    obtain ⟨k, n, v, H, rfl, hk, hn, HLn, HPm, HHp, HNr, HOw, hsz, HKp⟩ := hrel
    have HKr := Lib.hid (HKp.out.2 w1b (Nat.le_refl _) (Keep.refl _))
    by_cases hlt : k < ts.length
    · obtain ⟨b', off', he, hb', ⟨d0, d1, d2⟩⟩ := (HH.out.keep HKr.out).at_ hlt
      injection he with he
      injection he with e1 e2 _
      subst e1; subst e2
      have HT := Lib.hid (si_tB HS.out hlt)
      have HFT := Lib.hid (fil_take ts st hlt)
      obtain ⟨r, hr⟩ : ∃ r, ts.getD k t0 = r := ⟨_, rfl⟩
      rw [hr] at d0 d1 d2 HT HFT
      clear hr
      by_cases hx : tS r = st
      · have hxe : (tS r != st) = false := by simp [hx]
        have HPm2 : Hid (H.Perm ((ts.take (k + 1)).filter (fun r => tS r != st))) := Lib.hid (by rw [HFT.out, if_pos hx, List.append_nil]; exact HPm.out)
        have HNr2 := Lib.hid (HNr.out.keep ((Keep.refl wr).alloc (.cells #[.int .i64 (tS r), .int .i64 (tX r), .int .i64 (tY r)] 62)))
        have HOw2 := Lib.hid (HOw.out.keep ((Keep.refl wr).alloc (.cells #[.int .i64 (tS r), .int .i64 (tX r), .int .i64 (tY r)] 62)))
        have HKp2 := Lib.hid (HKp.out.trans (Keep.kp ((Keep.refl wr).alloc (.cells #[.int .i64 (tS r), .int .i64 (tX r), .int .i64 (tY r)] 62))))
        clear hx
        go_wp2
        go_roundw
        case rel => exact ⟨k + 1, n, v, H, by go_num, by omega, by omega, HLn, HPm2, HHp, HNr2, HOw2, by simp; omega, HKp2⟩
        case measure => simp [intOf]; omega
      · have hxe : (tS r != st) = true := bne_iff_ne.2 hx
        have HPU := Lib.hid (hpush_any w1b.heap.size (w1b.heap.size + 1) n v c r H (wr.alloc (.cells #[.int .i64 (tS r), .int .i64 (tX r), .int .i64 (tY r)] 62)) (HNr.out.keep ((Keep.refl wr).alloc _)) (HOw.out.keep ((Keep.refl wr).alloc _)) HLn.out (by omega) (by simp; omega) (by omega) HTC.out (fil_tB HS.out st k HPm.out) HT.out HHp.out)
        have HPm2 : Hid (∀ H' : List R3, H'.Perm (H ++ [r]) → H'.Perm ((ts.take (k + 1)).filter (fun r => tS r != st))) := Lib.hid (fun H' hP => by rw [HFT.out, if_neg hx]; exact hP.trans (HPm.out.append_right _))
        unfold ag at HPU
        clear hx
        go_wp2_with fail
        refine HPU.out.mono ?_
        rintro e w3 ⟨rfl, g, cp, H', hPm', hHp', hN3, hO3, hK3⟩
        have HLn2 : Hid (H'.length = n + 1) := Lib.hid (by rw [hPm'.length_eq, List.length_append, HLn.out]; rfl)
        have HKp2 := Lib.hid ((HKp.out.trans (Keep.kp ((Keep.refl wr).alloc _))).trans hK3)
        have HPm3 := Lib.hid (HPm2.out H' hPm')
        have HHp3 := Lib.hid hHp'
        have HN3 := Lib.hid hN3
        have HO3 := Lib.hid hO3
        have hsz3 : w1b.heap.size + 1 ≤ w3.heap.size := by have := hK3.1; simp at this; omega
        clear hPm' hHp' hN3 hO3 hK3
        go_wp2
        go_roundw
        case rel => exact ⟨k + 1, n + 1, _, H', by go_num, by omega, by omega, HLn2, HPm3, HHp3, HN3, HO3, hsz3, HKp2⟩
        case measure => simp [intOf]; omega
    · obtain rfl : k = ts.length := by omega
      have HPm2 : Hid (H.Perm (ts.take p ++ ts.drop (p + 1))) := Lib.hid (by rw [← HOE.out]; have := HPm.out; rwa [List.take_length] at this)
      have HLn2 : Hid (n = ts.length - 1) := Lib.hid (by rw [← HLn.out, HPm2.out.length_eq, List.length_append, List.length_take, List.length_drop]; omega)
      have HPm3 : Hid (H.Perm ((nrP ts p).drop 0)) := Lib.hid (by rw [List.drop_zero, HNP.out]; exact HPm2.out.trans (srt_perm _ _).symm)
      clear HPm HPm2
      have hn5 : n ≤ 5 := by have := HLn2.out; omega
      have hnl : n + 1 ≤ ts.length := by have := HLn2.out; omega
      have hnl2 : ts.length ≤ n + 1 := by have := HLn2.out; omega
      obtain ⟨av, cv, hv, hcv, _⟩ := HOw.out.slice
      rw [HLn.out] at hv hcv
      subst hv
      have HG : Hid (0 < n → ∃ g, av = some ⟨g, 0, none⟩ ∧ w1b.heap.size < g ∧ g < wr.heap.size ∧ WrS wr g H) := Lib.hid (fun h0 => by
        obtain ⟨g, cc, hv, _, hbg, hlg, hW⟩ := HOw.out.form (by rw [HLn.out]; exact h0)
        injection hv with hv _ _
        exact ⟨g, hv, by omega, hlg, hW⟩)
      have HNS : Hid (Keep w1b wr) := HKr
      clear HOw
      obtain ⟨wo, rfl⟩ : ∃ wo : World, wo = wr := ⟨_, rfl⟩
      go_wp2_with fail
      go_loopw [11] (fun u wq => ∃ (m q : Nat) (x : Option Addr) (cx : Nat) (H' : List R3), u = .slice x m cx ∧ m ≤ cx ∧ m ≤ mm ∧ q ≤ n ∧ Hid (m + q = n) ∧ Hid (H'.length = q) ∧ Hid (H'.Perm ((nrP ts p).drop m)) ∧ Hid (hp (kf c) H') ∧ Hid (Nr wq w1b.heap.size (.slice av q cv) c) ∧ Hid (0 < q → ∃ g, av = some ⟨g, 0, none⟩ ∧ w1b.heap.size < g ∧ g < wo.heap.size ∧ WrS wq g H') ∧ Hid (OwnI wq wo.heap.size (.slice x m cx) (((nrP ts p).take m).map tS)) ∧ wo.heap.size ≤ wq.heap.size ∧ Hid (Keep w1b wq)) (fun u _ => mm - (match u with | .slice _ m _ => m | _ => 0))
      case atStart => exact ⟨0, n, none, 0, H, rfl, by omega, by omega, by omega, Lib.hid (by omega), HLn, HPm3, HHp, HNr, HG, Lib.hid (World.ownsRow_nil _ _ _ _), Nat.le_refl _, HNS⟩
      case round =>
        obtain ⟨m, q, x, cx, H', rfl, hmc, hmm, hqn, HMQ, HLq, HPq, HHq, HNq, HGq, HOq, hsq, HKq⟩ := hrel
        have HDN : (mm ≤ m ∨ q = 0) → Hid (nrL ts st (mm : Int) = ((nrP ts p).take m).map tS ∧ (((nrP ts p).take m).map tS).length = m) := fun hdn => Lib.hid (by
          have hmq := HMQ.out
          have h1 : (nrP ts p).take mm = (nrP ts p).take m := by
            rcases hdn with h9 | h9
            · rw [show mm = m by omega]
            · rw [List.take_of_length_le (by omega), List.take_of_length_le (by omega)]
          refine ⟨by rw [HL.out, h1], ?_⟩
          rw [List.length_map, List.length_take]; omega)
        by_cases hgo : m < mm
        case' neg =>
          have HD := HDN (.inl (by omega))
          have HF : Hid (NPost (nrL ts st (mm : Int)) w (.returned (.slice x m cx)) wr) := Lib.hid (by
            rw [HD.out.1]
            exact npost_own HOq.out HD.out.2.symm hmc (by have := HKW.out.size; have := HNS.out.size; omega) (HKW.out.trans HKq.out))
          clear HDN
          go_wp2
          go_ret
          exact HF.out
        go_wp2_with fail
        refine (nlen_any w1b.heap.size q cv av c wr HNq.out).mono ?_
        rintro e wr' ⟨rfl, rfl⟩
        by_cases hq0 : q = 0
        · have HD := HDN (.inr hq0)
          have HF : Hid (NPost (nrL ts st (mm : Int)) w (.returned (.slice x m cx)) wr) := Lib.hid (by
            rw [HD.out.1]
            exact npost_own HOq.out HD.out.2.symm hmc (by have := HKW.out.size; have := HNS.out.size; omega) (HKW.out.trans HKq.out))
          have hq1 : ¬ (0 : Int) < (q : Int) := by omega
          clear HDN hq0
          go_wp2
          go_ret
          exact HF.out
        obtain ⟨q', rfl⟩ : ∃ q', q = q' + 1 := ⟨q - 1, by omega⟩
        have hq1 : (0 : Int) < ((q' + 1 : Nat) : Int) := by omega
        obtain ⟨g, rfl, hPg, hgw, hWq⟩ := HGq.out (by omega)
        have HPO := Lib.hid (hpop_any w1b.heap.size g q' cv c H' wr HNq.out hWq HLq.out hPg (by omega) (by omega) HTC.out (nrP_tB HS.out hpp m HPq.out) HHq.out)
        have hta := taSite
        have hfd := fldSite
        have HNX : Hid (H'.getD 0 t0 = (nrP ts p).getD m t0) := Lib.hid (by
          have h9 := HPq.out
          have hk := kf_inj HS.out hpp c
          have hl := hlp
          have hmq := HMQ.out
          rw [HNP.out] at h9 hl ⊢
          have hmem : H'.getD 0 t0 ∈ H' := tgetD_mem (by rw [HLq.out]; omega)
          exact next_is hk (by omega) h9 hmem (fun s hs => by
            obtain ⟨i, hi, rfl⟩ := mem_at hs
            exact hp_min HHq.out i hi))
        have HTK : Hid (((nrP ts p).take (m + 1)).map tS = ((nrP ts p).take m).map tS ++ [tS (H'.getD 0 t0)]) := Lib.hid (by
          have hmq := HMQ.out
          have hml : m < (nrP ts p).length := by omega
          rw [List.take_succ_eq_append_getElem hml, List.map_append, HNX.out]
          simp [List.getD_eq_getElem?_getD, hml])
        have HNP2 : Hid (∀ H2 : List R3, (H'.getD 0 t0 :: H2).Perm H' → H2.Perm ((nrP ts p).drop (m + 1))) := Lib.hid (fun H2 h2 => by
          have h9 := HPq.out
          have hl := hlp
          have hmq := HMQ.out
          have hn := HNX.out
          rw [HNP.out] at h9 hl hn ⊢
          exact next_perm (by omega) h9 hn h2)
        unfold ag at HPO
        clear HDN HNX hq0
        generalize tS (H'.getD 0 t0) = s at *
        generalize tX (H'.getD 0 t0) = sx at *
        generalize tY (H'.getD 0 t0) = sy at *
        generalize H'.getD 0 t0 = r0' at *
        go_wp2_with fail
        refine HPO.out.mono ?_
        rintro e w5 ⟨rfl, H2, hPm2, hHp2, hN5, hW5, hT5⟩
        have HO5 := Lib.hid (hT5.own HOq.out (by have := HNS.out.size; omega) hgw)
        have HK5 := Lib.hid (hT5.keep HKq.out (Nat.le_refl _) (by omega))
        have HP5 := Lib.hid (HNP2.out H2 hPm2)
        have HL5 : Hid (H2.length = q') := Lib.hid (by have := hPm2.length_eq; have := HLq.out; simp at *; omega)
        have HH5 := Lib.hid hHp2
        have HN5 := Lib.hid hN5
        have HW5 := Lib.hid hW5
        have hs5 : wo.heap.size ≤ w5.heap.size := Nat.le_trans hsq hT5.size
        have HLT : Hid ((((nrP ts p).take m).map tS).length = m) := Lib.hid (by rw [List.length_map, List.length_take]; have := HMQ.out; omega)
        clear hPm2 hHp2 hN5 hW5 hT5 HPO HNP2 hWq HGq HOq HNq HPq HHq HLq
        obtain ⟨LL, hLL⟩ : ∃ LL, ((nrP ts p).take m).map tS = LL := ⟨_, rfl⟩
        rw [hLL] at HLT HO5 HTK
        clear hLL
        have hown : w5.ownsRow wo.heap.size 3 1 (.slice x m cx) m (LL.map (Value.int .i64)) := by
          have h9 : w5.ownsRow wo.heap.size 3 1 (.slice x m cx) LL.length (LL.map (Value.int .i64)) := HO5.out
          rwa [HLT.out] at h9
        go_wp2_with (at_builtin; refine wpList_append_own _ rfl _ _ 43 rfl wo.heap.size 3 i0 (.int .i64 0) 1 8 Try.underlying43 hi hz0 hz1 hz2 rfl (by decide) _ _ _ rfl (hown.alloc _) ⟨w5.heap.size, 0, none⟩ 1 1 [.int .i64 s] rfl rfl ?c1a ?c2a ?c3a ?c4a ?c5a ?_)
        case c1a =>
          intro j u hj
          match j, hj with
          | 0, hj => simp at hj; subst hj; simp [Addr.add]
        case c2a => first | rfl | (intro u hu; simp at hu; subst hu; rfl)
        case c3a => unfold maxLen; omega
        case c4a => omega
        case c5a => first | omega | (simp; omega)
        intro v' w6 hown' hgrow hnil
        have hrow : ∀ g', (Value.slice x m cx).ownBlock = some g' → wo.heap.size ≤ g' := fun g' hg => (hown.lt g' hg).1
        have hA5 : ∀ o : Obj, w5.heap.size ≤ (w5.alloc o).heap.size := fun o => ((Keep.refl w5).alloc o).size
        obtain ⟨x', cx', rfl, hbx, hlx⟩ := hown'.form (by omega)
        have hcx := own_capI hown'
        have HO6 : Hid (OwnI w6 wo.heap.size (.slice (some ⟨x', 0, none⟩) (m + 1) cx') (((nrP ts p).take (m + 1)).map tS)) := Lib.hid (by
          unfold OwnI
          rw [HTK.out, List.length_append, HLT.out, List.map_append]
          exact hown')
        have HK6 := Lib.hid ((HK5.out.alloc (.cells #[.int .i64 s] 3)).grown2 hgrow (fun g' hg => by have := hrow g' hg; have := HNS.out.size; omega))
        have HB6 : Hid (∀ b, b < wo.heap.size → w6.heap[b]? = w5.heap[b]?) := Lib.hid (fun b hb => by
          have h1 : (w5.alloc (.cells #[.int .i64 s] 3)).heap[b]? = w5.heap[b]? := Below.block ((Keep.refl w5).alloc (.cells #[.int .i64 s] 3)) b (by omega)
          rw [hgrow.block b (by have := hA5 (.cells #[.int .i64 s] 3); omega) (fun e => by have := hrow b e.symm; omega), h1])
        have hs6 : wo.heap.size ≤ w6.heap.size := Nat.le_trans hs5 (Nat.le_trans (hA5 _) hgrow.size)
        have hPw : w1b.heap.size < wo.heap.size := by omega
        have HN6 : Hid (Nr w6 w1b.heap.size (.slice (some ⟨g, 0, none⟩) q' cv) c) := Lib.hid ⟨HN5.out.at3.same fun i => World.cell?_of_block (HB6.out _ hPw), (World.cell?_of_block (HB6.out _ hPw)).trans HN5.out.sl, (World.frozen?_of_block (a := ⟨w1b.heap.size, 3, none⟩) (HB6.out _ hPw)).trans HN5.out.fz⟩
        have HG6 : Hid (0 < q' → ∃ g', (some ⟨g, 0, none⟩ : Option Addr) = some ⟨g', 0, none⟩ ∧ w1b.heap.size < g' ∧ g' < wo.heap.size ∧ WrS w6 g' H2) := Lib.hid (fun _ => ⟨g, rfl, hPg, hgw, fun j hj => by
          obtain ⟨h1, h2⟩ := HW5.out j hj
          have hf : ∀ i, w6.frozen? ⟨g, i, none⟩ = w5.frozen? ⟨g, i, none⟩ := fun i => World.frozen?_of_block (a := ⟨g, i, none⟩) (HB6.out g hgw)
          exact ⟨h1.same fun i => World.cell?_of_block (HB6.out g hgw), ⟨(hf _).trans h2.f0, (hf _).trans h2.f1, (hf _).trans h2.f2⟩⟩⟩)
        clear hown' hgrow hnil hown hrow
        go_wp2
        go_roundw
        case rel => exact ⟨m + 1, q', _, cx', H2, rfl, hcx, by omega, by omega, Lib.hid (by have := HMQ.out; omega), HL5, HP5, HH5, HN6, HG6, HO6, hs6, HK6⟩
        case measure => simp; omega
end Go.Proofs.Ytpgdbhafdnfhcaa
