/- DoubtfulOf of the program. -/
import Derived.Test.YtpgdbhafdnfhcaaDb
import Derived.Test.YtpgdbhafdnfhcaaMf
import Derived.Test.YtpgdbhafdnfhcaaFoA
namespace Go.Proofs.Ytpgdbhafdnfhcaa
open Go.RowKit
set_option linter.unusedVariables false

/-- Whether the value of site p is doubtful. -/
def dbB (ts : List R3) (vs : List Int) (mm : Nat) (most : Int) (p : Nat) : Bool :=
  jdB (nvL ts vs p mm) && (vs.getD p 0 != -9999) && decide (most < dist (vs.getD p 0) (jdV (nvL ts vs p mm)))
def dOk (ts : List R3) (vs : List Int) (many most : Int) : Bool := siB ts && sqB vs && decide (vs.length = ts.length) && inB many 0 6 && decide (0 ≤ most)
def dbN (ts : List R3) (vs : List Int) (mm : Nat) (most : Int) : Nat → List Int
  | 0 => []
  | k + 1 => dbN ts vs mm most k ++ (if dbB ts vs mm most k then [tS (ts.getD k t0)] else [])
theorem dbN_len (ts : List R3) (vs : List Int) (mm : Nat) (most : Int) : ∀ k, (dbN ts vs mm most k).length ≤ k
  | 0 => by simp [dbN]
  | k + 1 => by
    have := dbN_len ts vs mm most k
    rw [dbN, List.length_append]
    split <;> simp <;> omega
def dbL (ts : List R3) (vs : List Int) (many most : Int) : List Int := if dOk ts vs many most then dbN ts vs many.toNat most ts.length else []
theorem dbL_no {ts : List R3} {vs : List Int} {many most : Int} (h : dOk ts vs many most = false) : dbL ts vs many most = [] := by simp [dbL, h]
theorem dbL_yes {ts : List R3} {vs : List Int} {many most : Int} (h : dOk ts vs many most = true) : dbL ts vs many most = dbN ts vs many.toNat most ts.length := by simp [dbL, h]
theorem dOk_facts {ts : List R3} {vs : List Int} {many most : Int} (h : dOk ts vs many most = true) : siB ts = true ∧ sqB vs = true ∧ vs.length = ts.length ∧ (0 ≤ many ∧ many ≤ 6) ∧ 0 ≤ most := by
  simp only [dOk, Bool.and_eq_true, decide_eq_true_eq] at h
  refine ⟨h.1.1.1.1, h.1.1.1.2, h.1.1.2, ?_, h.2⟩
  have := h.1.2
  simp [inB] at this; omega
theorem dbL_len (ts : List R3) (vs : List Int) (many most : Int) : (dbL ts vs many most).length ≤ 6 := by
  rcases Bool.eq_false_or_eq_true (dOk ts vs many most) with h | h
  · rw [dbL_yes h]
    have := dbN_len ts vs many.toNat most ts.length
    have := si_len (dOk_facts h).1
    omega
  · rw [dbL_no h]; simp
theorem jdV_bd {ts : List R3} {vs : List Int} {p mm : Nat} (hs : siB ts = true) (hp : p < ts.length) (hl : vs.length = ts.length) (hv : ∀ x ∈ vs, qB x = true) : -9999 ≤ jdV (nvL ts vs p mm) ∧ jdV (nvL ts vs p mm) ≤ 10999 := by
  unfold jdV
  split
  · rename_i h
    have h2 : 2 ≤ (knl (nvL ts vs p mm)).length := by simpa [jdB] using h
    have hm := mdL_mem (L := knl (nvL ts vs p mm)) (by omega)
    rw [knl, List.mem_filter] at hm
    have hm1 := hm.1
    unfold knl
    generalize mdL (List.filter (fun x => x != -9999) (nvL ts vs p mm)) = m at *
    rw [nvL, List.map_map, List.mem_map] at hm1
    obtain ⟨r, hr, he⟩ := hm1
    obtain ⟨i, hi, _, rfl⟩ := (nrP_mem hp).1 (List.mem_of_mem_take hr)
    have h3 : vs.getD i 0 ∈ vs := getD_mem (by omega)
    have he : vs.getD (plc ts (tS (ts.getD i t0))) 0 = m := he
    rw [plc_self hs hi] at he
    have h4 := qB_wide (hv _ h3)
    rw [he] at h4
    exact h4
  · omega
set_option maxRecDepth 100000 in
set_option maxHeartbeats 6400000 in
theorem db_impl (a : Option Addr) (cap : Nat) (ts : List R3) (b : Option Addr) (cb : Nat) (vs : List Int) (many most : Int) (w : World) (h : Ss w a ts) (hm : ts.length ≤ 1048576) (hv : Ls w b vs) (hmv : vs.length ≤ 1048576) :
    Calls Try.prog 40 #[.slice a ts.length cap, .slice b vs.length cb, .int .i64 many, .int .i64 most] w (NPost (dbL ts vs many most) w) := by
  obtain ⟨i0, hi, hz0, hz1, hz2⟩ := info_parts infoInt'
  have HSI := Lib.hid (si_impl a cap ts w h (by omega))
  have HSQ := Lib.hid (fun W (k : Keep w W) => sqv_impl b cb vs W (hv.keep k) (by omega))
  have HMA := Lib.hid (many_any many)
  have HD : Hid (dOk ts vs many most = (siB ts && sqB vs && decide (vs.length = ts.length) && inB many 0 6 && decide (0 ≤ most))) := Lib.hid rfl
  have HNO := Lib.hid (dbL_no (ts := ts) (vs := vs) (many := many) (most := most))
  by_cases h1 : siB ts = false
  · have HE := Lib.hid (HNO.out (by rw [HD.out, h1]; rfl))
    rw [h1] at HSI
    clear h1
    go_enter Try.func40, Try.ntmps40
    go_wp2_with fail
    refine HSI.out.mono ?_
    rintro e w1 ⟨rfl, k1⟩
    go_wp2
    go_ret
    exact npost_no HE.out k1
  have h1 : siB ts = true := by simpa using h1
  rw [h1] at HSI HD
  by_cases h2 : sqB vs = false
  · have HE := Lib.hid (HNO.out (by rw [HD.out, h2]; rfl))
    rw [h2] at HSQ
    clear h2
    go_enter Try.func40, Try.ntmps40
    go_wp2_with fail
    refine HSI.out.mono ?_
    rintro e w1 ⟨rfl, k1⟩
    go_wp2_with fail
    refine (HSQ.out _ k1).mono ?_
    rintro e w2 ⟨rfl, rfl⟩
    go_wp2
    go_ret
    exact npost_no HE.out k1
  have h2 : sqB vs = true := by simpa using h2
  rw [h2] at HSQ HD
  by_cases h3 : vs.length = ts.length
  case' neg =>
    have HE := Lib.hid (HNO.out (by rw [HD.out, decide_eq_false h3]; rfl))
    have h3n : ((vs.length : Int) != (ts.length : Int)) = true := bne_iff_ne.2 (by omega)
    go_enter Try.func40, Try.ntmps40
    go_wp2_with fail
    refine HSI.out.mono ?_
    rintro e w1 ⟨rfl, k1⟩
    go_wp2_with fail
    refine (HSQ.out _ k1).mono ?_
    rintro e w2 ⟨rfl, rfl⟩
    go_wp2
    go_ret
    exact npost_no HE.out k1
  have h3n : ((vs.length : Int) != (ts.length : Int)) = false := by simp [h3]
  have H3 := Lib.hid h3
  rw [decide_eq_true h3] at HD
  have hle1 : vs.length ≤ ts.length := by omega
  have hle2 : ts.length ≤ vs.length := by omega
  clear h3
  by_cases h4 : inB many 0 6 = false
  · have HE := Lib.hid (HNO.out (by rw [HD.out, h4]; rfl))
    rw [h4] at HMA
    clear h4
    go_enter Try.func40, Try.ntmps40
    go_wp2_with fail
    refine HSI.out.mono ?_
    rintro e w1 ⟨rfl, k1⟩
    go_wp2_with fail
    refine (HSQ.out _ k1).mono ?_
    rintro e w2 ⟨rfl, rfl⟩
    go_wp2_with fail
    refine (HMA.out _).mono ?_
    rintro e w3 ⟨rfl, rfl⟩
    go_wp2
    go_ret
    exact npost_no HE.out k1
  have h4 : inB many 0 6 = true := by simpa using h4
  rw [h4] at HMA HD
  by_cases h5 : most < 0
  · have HE := Lib.hid (HNO.out (by rw [HD.out, decide_eq_false (by omega)]; rfl))
    go_enter Try.func40, Try.ntmps40
    go_wp2_with fail
    refine HSI.out.mono ?_
    rintro e w1 ⟨rfl, k1⟩
    go_wp2_with fail
    refine (HSQ.out _ k1).mono ?_
    rintro e w2 ⟨rfl, rfl⟩
    go_wp2_with fail
    refine (HMA.out _).mono ?_
    rintro e w3 ⟨rfl, rfl⟩
    go_wp2
    go_ret
    exact npost_no HE.out k1
  have hok : dOk ts vs many most = true := by rw [HD.out, decide_eq_true (by omega)]; rfl
  have HL := Lib.hid (dbL_yes hok)
  obtain ⟨-, -, -, ⟨m0, m6⟩, -⟩ := dOk_facts hok
  obtain ⟨mm, rfl⟩ : ∃ mm : Nat, many = (mm : Int) := ⟨many.toNat, by omega⟩
  rw [Int.toNat_natCast] at HL
  have HS := Lib.hid h1
  have HQ : Hid (∀ x ∈ vs, qB x = true) := Lib.hid (fun x hx => List.all_eq_true.1 (sq_facts h2).1 x hx)
  have HH := Lib.hid h
  have HV := Lib.hid hv
  have h4H := Lib.hid h4
  have hl6 := si_len h1
  clear h1 h2 h4 hok HD HNO h hv
  go_enter Try.func40, Try.ntmps40
  go_wp2_with fail
  refine HSI.out.mono ?_
  rintro e w1 ⟨rfl, k1⟩
  go_wp2_with fail
  refine (HSQ.out _ k1).mono ?_
  rintro e w2 ⟨rfl, rfl⟩
  go_wp2_with fail
  refine (HMA.out _).mono ?_
  rintro e w3 ⟨rfl, rfl⟩
  have HK1 := Lib.hid k1
  clear HSI HSQ HMA k1
  go_wp2_with fail
  go_loopw [9, 40] (fun u i wr => ∃ (k n : Nat) (x : Option Addr) (cx : Nat), k ≤ ts.length ∧ n ≤ k ∧ i = .int .i64 k ∧ u = .slice x n cx ∧ n ≤ cx ∧ Hid ((dbN ts vs mm most k).length = n) ∧ Hid (OwnI wr w1.heap.size (.slice x n cx) (dbN ts vs mm most k)) ∧ Keep w1 wr) (fun _ i _ => ts.length - (intOf i).toNat)
  case atStart => exact ⟨0, 0, none, 0, by omega, by omega, rfl, rfl, by omega, Lib.hid rfl, Lib.hid (World.ownsRow_nil _ _ _ _), Keep.refl _⟩
  case round =>
    obtain ⟨k, n, x, cx, hk, hn, rfl, rfl, hnc, HLn, HOw, hK⟩ := hrel
    have hKw := HK1.out.trans hK
    by_cases hlt : k < ts.length
    case' neg =>
      obtain rfl : k = ts.length := by omega
      have HF : Hid (NPost (dbL ts vs (mm : Int) most) w (.returned (.slice x n cx)) wr) := Lib.hid (by
        rw [HL.out]
        exact npost_own HOw.out HLn.out.symm hnc HK1.out.size hKw)
      go_wp2
      go_ret
      exact HF.out
    obtain ⟨bz, oz, rfl, _, ⟨d0, d1, d2⟩⟩ := (HH.out.keep hKw).at_ hlt
    have hpl := plc_self HS.out hlt
    have hok2 : nrOk ts (tS (ts.getD k t0)) (mm : Int) = true := by
      rw [nrOk, HS.out, hpl, decide_eq_true hlt, h4H.out]; rfl
    have HMN := Lib.hid (fun W (kk : Keep wr W) => mnear (some ⟨bz, oz, none⟩) cap ts b cb vs (tS (ts.getD k t0)) mm W (HH.out.keep (hKw.trans kk)) (HV.out.keep (hKw.trans kk)) H3.out hok2 HQ.out)
    rw [hpl] at HMN
    have hjb := jdV_bd (mm := mm) HS.out hlt H3.out HQ.out
    have HDB : Hid (dbB ts vs mm most k = (jdB (nvL ts vs k mm) && (vs.getD k 0 != -9999) && decide (most < dist (vs.getD k 0) (jdV (nvL ts vs k mm))))) := Lib.hid rfl
    have HDN : Hid (dbN ts vs mm most (k + 1) = dbN ts vs mm most k ++ (if dbB ts vs mm most k then [tS (ts.getD k t0)] else [])) := Lib.hid rfl
    rw [HDB.out] at HDN
    obtain ⟨vb, vo, rfl, _, cv0⟩ := (HV.out.keep hKw).at_ (show k < vs.length by omega)
    have hvb := qB_wide (HQ.out _ (getD_mem (show k < vs.length by omega)))
    have k0 : (0 : Int) ≤ (k : Int) := by omega
    have kz : (k : Int) < (vs.length : Int) := by omega
    clear hpl hok2 HDB
    generalize nvL ts vs k mm = N at *
    generalize vs.getD k 0 = v at *
    generalize tS (ts.getD k t0) = s at *
    generalize tX (ts.getD k t0) = sx at *
    generalize tY (ts.getD k t0) = sy at *
    generalize dbN ts vs mm most k = D at *
    have hDI := Lib.hid (fun W => dist_any v (jdV N) W hvb.1 (by omega) hjb.1 (by omega))
    obtain ⟨j, hj⟩ : ∃ j, jdB N = j := ⟨_, rfl⟩
    rw [hj] at HMN HDN
    generalize jdV N = md at *
    obtain ⟨t, ht⟩ : ∃ t, (v != -9999) = t := ⟨_, rfl⟩
    rw [ht] at HDN
    generalize dist v md = dd at *
    have kA : Keep wr (wr.alloc (.cells #[.int .i64 s, .int .i64 sx, .int .i64 sy] 62)) := (Keep.refl wr).alloc _
    have e0 := World.cell?_alloc_new wr #[.int .i64 s, .int .i64 sx, .int .i64 sy] 62 0
    have cvA := kA.cell cv0
    have HMA2 := Lib.hid (HMN.out _ kA)
    clear hj HMN hjb
    have HE0 := Lib.hid e0
    by_cases hd : j = true ∧ t = true ∧ most < dd
    case' neg =>
      have hd2 : j = false ∨ (j = true ∧ t = false) ∨ (j = true ∧ t = true ∧ ¬ most < dd) := by
        cases j <;> cases t <;> simp at * <;> omega
      have HD2 : Hid ((dbN ts vs mm most (k + 1)) = D) := Lib.hid (by
        rw [HDN.out]
        rcases hd2 with rfl | ⟨rfl, rfl⟩ | ⟨rfl, rfl, h9⟩
        · simp
        · simp
        · simp [h9])
      rw [← HD2.out] at HLn HOw
      clear HD2 HDN hd e0
      rcases hd2 with rfl | ⟨rfl, rfl⟩ | ⟨rfl, rfl, h9⟩
      · go_wp2_with fail
        refine HMA2.out.mono ?_
        rintro e w4 ⟨rfl, k4⟩
        have HO4 := Lib.hid (HOw.out.keep (kA.trans k4))
        go_wp2
        go_roundw
        case rel => exact ⟨k + 1, n, x, cx, by omega, by omega, by go_num, rfl, hnc, HLn, HO4, (hK.trans kA).trans k4⟩
        case measure => simp [intOf]; omega
      · go_wp2_with fail
        refine HMA2.out.mono ?_
        rintro e w4 ⟨rfl, k4⟩
        have HO4 := Lib.hid (HOw.out.keep (kA.trans k4))
        have cv4 := k4.cell cvA
        go_wp2
        go_roundw
        case rel => exact ⟨k + 1, n, x, cx, by omega, by omega, by go_num, rfl, hnc, HLn, HO4, (hK.trans kA).trans k4⟩
        case measure => simp [intOf]; omega
      · go_wp2_with fail
        refine HMA2.out.mono ?_
        rintro e w4 ⟨rfl, k4⟩
        have HO4 := Lib.hid (HOw.out.keep (kA.trans k4))
        have cv4 := k4.cell cvA
        go_wp2_with fail
        refine (hDI.out _).mono ?_
        rintro e w5 ⟨rfl, rfl⟩
        go_wp2
        go_roundw
        case rel => exact ⟨k + 1, n, x, cx, by omega, by omega, by go_num, rfl, hnc, HLn, HO4, (hK.trans kA).trans k4⟩
        case measure => simp [intOf]; omega
    obtain ⟨rfl, rfl, h9⟩ := hd
    have HD2 : Hid ((dbN ts vs mm most (k + 1)) = D ++ [s]) := Lib.hid (by rw [HDN.out]; simp [h9])
    clear HDN e0
    go_wp2_with fail
    refine HMA2.out.mono ?_
    rintro e w4 ⟨rfl, k4⟩
    have HO4 := Lib.hid (HOw.out.keep (kA.trans k4))
    have cv4 := k4.cell cvA
    have e4 := k4.cell HE0.out
    have hK4 := (hK.trans kA).trans k4
    go_wp2_with fail
    refine (hDI.out _).mono ?_
    rintro e w5 ⟨rfl, rfl⟩
    have hown : w4.ownsRow w1.heap.size 3 1 (.slice x n cx) n (D.map (Value.int .i64)) := by
      have h8 : w4.ownsRow w1.heap.size 3 1 (.slice x n cx) D.length (D.map (Value.int .i64)) := HO4.out
      rwa [HLn.out] at h8
    have hbs := hK4.size
    clear HO4 HOw hDI HMA2
    go_wp2_with (at_builtin; refine wpList_append_own _ rfl _ _ 43 rfl w1.heap.size 3 i0 (.int .i64 0) 1 8 Try.underlying43 hi hz0 hz1 hz2 rfl (by decide) _ _ _ rfl (hown.alloc _) ⟨w4.heap.size, 0, none⟩ 1 1 [.int .i64 s] rfl rfl ?c1a ?c2a ?c3a ?c4a ?c5a ?_)
    case c1a =>
      intro j u hj
      match j, hj with
      | 0, hj => simp at hj; subst hj; simp [Addr.add]
    case c2a => first | rfl | (intro u hu; simp at hu; subst hu; rfl)
    case c3a => unfold maxLen; omega
    case c4a => omega
    case c5a => first | omega | (simp; omega)
    intro v' w6 hown' hgrow hnil
    have hrow : ∀ g', (Value.slice x n cx).ownBlock = some g' → w1.heap.size ≤ g' := fun g' hg => (hown.lt g' hg).1
    obtain ⟨x', cx', rfl, hbx, hlx⟩ := hown'.form (by omega)
    have hcx := own_capI hown'
    have HO6 : Hid (OwnI w6 w1.heap.size (.slice (some ⟨x', 0, none⟩) (n + 1) cx') (dbN ts vs mm most (k + 1))) := Lib.hid (by
      unfold OwnI
      rw [HD2.out, List.length_append, HLn.out, List.map_append]
      exact hown')
    have HL6 : Hid ((dbN ts vs mm most (k + 1)).length = n + 1) := Lib.hid (by rw [HD2.out, List.length_append, HLn.out]; rfl)
    have HK6 := Lib.hid ((hK4.alloc (.cells #[.int .i64 s] 3)).grown2 hgrow hrow)
    clear hown' hgrow hnil hown hrow
    go_wp2
    go_roundw
    case rel => exact ⟨k + 1, n + 1, _, cx', by omega, by omega, by go_num, rfl, hcx, HL6, HO6, HK6.out⟩
    case measure => simp [intOf]; omega
end Go.Proofs.Ytpgdbhafdnfhcaa
