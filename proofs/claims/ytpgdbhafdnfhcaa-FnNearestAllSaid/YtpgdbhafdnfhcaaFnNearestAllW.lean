/- P53: no site that is left out is nearer. -/
import Derived.Test.YtpgdbhafdnfhcaaDrSj
import Derived.Test.YtpgdbhafdnfhcaaNw
import Derived.Test.YtpgdbhafdnfhcaaFr
import Derived.LoopTactic
import Derived.IntWalk
import Derived.Deep.RegionHeld3
import Derived.BigQuiet
namespace Go.Proofs.Ytpgdbhafdnfhcaa
open Go.RowKit
set_option linter.unusedVariables false

theorem nr_len2 {ts : List R3} {st many : Int} (h : nrOk ts st many = true) : ((nrL ts st many).length : Int) = min many ((ts.length : Int) - 1) := by
  obtain ⟨hs, hp, m0, m6⟩ := nrOk_facts h
  rw [nrL_yes h, List.length_map, List.length_take, nrP_len hp]
  omega
theorem nr_last {ts : List R3} {st many : Int} (h : nrOk ts st many = true) {i q m : Nat} (hi : i < ts.length) (hq : q < ts.length) (hm : m + 1 = (nrL ts st many).length) (he : (nrP ts (plc ts st)).getD m t0 = ts.getD q t0) (hip : i ≠ plc ts st) (hn : tS (ts.getD i t0) ∉ nrL ts st many) :
    ¬ far (ts.getD i t0) (ts.getD (plc ts st) t0) < far (ts.getD q t0) (ts.getD (plc ts st) t0) ∧ (far (ts.getD i t0) (ts.getD (plc ts st) t0) = far (ts.getD q t0) (ts.getD (plc ts st) t0) → ¬ tS (ts.getD i t0) < tS (ts.getD q t0)) := by
  obtain ⟨hs, hp, m0, m6⟩ := nrOk_facts h
  obtain ⟨j, hj, hje⟩ := List.getElem_of_mem ((nrP_mem hp).2 ⟨i, hi, hip, rfl⟩)
  have hl := hm
  rw [nrL_yes h, List.length_map, List.length_take] at hl
  have hmj : m < j := by
    rcases Nat.lt_or_ge m j with h9 | h9
    · exact h9
    · exfalso
      apply hn
      rw [nrL_yes h, ← hje]
      refine List.mem_map_of_mem ?_
      rw [List.mem_take_iff_getElem]
      exact ⟨j, by omega, rfl⟩
  have h2 := (List.pairwise_iff_getElem.1 (srt_pw (kf (ts.getD (plc ts st) t0)) (ts.take (plc ts st) ++ ts.drop (plc ts st + 1)))) m j (by have : (nrP ts (plc ts st)).length = (srt (kf (ts.getD (plc ts st) t0)) (ts.take (plc ts st) ++ ts.drop (plc ts st + 1))).length := rfl; omega) hj hmj
  have e1 : (nrP ts (plc ts st)).getD m t0 = (nrP ts (plc ts st))[m]'(by omega) := by simp [List.getD_eq_getElem?_getD, show m < (nrP ts (plc ts st)).length by omega]
  have h3 : kf (ts.getD (plc ts st) t0) (ts.getD q t0) ≤ kf (ts.getD (plc ts st) t0) (ts.getD i t0) := by
    rw [← he, e1, ← hje]; exact h2
  have b1 := tB_bd (si_tB hs hi)
  have b2 := tB_bd (si_tB hs hq)
  rw [far_sym _ (ts.getD (plc ts st) t0), far_sym _ (ts.getD (plc ts st) t0)]
  unfold kf at h3
  omega
set_option maxRecDepth 100000 in
set_option maxHeartbeats 6400000 in
theorem walk_FnNearestAll (a0 : Option Addr) (len0 cap0 : Nat) (z0 : List Int) (w : World) (w0 : IsRow .u8 w a0 len0 cap0 z0) :
    Calls Try.prog 13 #[.slice a0 len0 cap0] w fun e w' => e = .returned (.bool true) ∧ Below w.heap.size w w' := by
  have ha := code_of_row w0
  obtain ⟨hl0, hm0⟩ := ha.1
  unfold maxLen at hm0
  clear w0
  by_cases h : len0 ≤ 1048576
  case' neg =>
    have hd : decide (1048576 < (len0 : Int)) = true := by simp; omega
    go_enter Try.func13, Try.ntmps13
    go_wp2
    go_ret
    exact ⟨rfl, Below.refl _ _⟩
  have hd : decide (1048576 < (len0 : Int)) = false := by simp; omega
  go_enter Try.func13, Try.ntmps13
  go_wp2_with fail
  refine (drawNearestOf a0 len0 cap0 _ ha).mono ?_
  rintro e w1 ⟨g0, c0, ts, st, many, rfl, hl7, hcl, hS1, ⟨mn, mx⟩, k1⟩
  clear ha
  have hz := nrL_len ts st many
  go_wp2_with fail
  refine (nr_impl _ c0 ts st many _ hS1 (by omega)).mono ?_
  rintro e w2 ⟨p, q, rfl, hpq, hF2, k2⟩
  go_wp2_with fail
  refine (nr_spec _ c0 ts st many _ (hS1.keep k2) (by omega)).mono ?_
  rintro e w3 ⟨g3, q3, rfl, hq3, hW3, hg3, hl3, k3⟩
  have K3 : Keep w w3 := (k1.trans k2).trans k3
  have hO := hF2.ls.keep k3
  have hT := (hS1.keep k2).keep k3
  have HSE := Lib.hid (fun W (k : Keep w3 W) => sI_eq p (some ⟨g3, 0, none⟩) q q3 (nrL ts st many) W (hO.keep k) (hW3.ls.keep k) (by omega))
  clear hF2 hW3 hS1 k1 k2 k3
  have HSV := Lib.hid (fun W (k : Keep w3 W) => si_spec (some ⟨g0, 0, none⟩) c0 ts W (hT.keep k) (by omega))
  have HSO := Lib.hid (fun W (k : Keep w3 W) => siteOf_any (some ⟨g0, 0, none⟩) c0 ts st W (hT.keep k) (by omega))
  have HSI := Lib.hid (fun W (k : Keep w3 W) o => siteOf_any (some ⟨g0, 0, none⟩) c0 ts o W (hT.keep k) (by omega))
  have HO := Lib.hid hO
  have HTT := Lib.hid hT
  clear hO hT
  obtain ⟨sb, hsb⟩ : ∃ x, siB ts = x := ⟨_, rfl⟩
  rw [hsb] at HSV
  by_cases hok : nrOk ts st many = true
  case' neg =>
    have HOK := Lib.hid hok
    obtain ⟨pp, hpp⟩ : ∃ pp, plc ts st = pp := ⟨_, rfl⟩
    have HPP := Lib.hid hpp
    have HSBb := Lib.hid hsb
    rw [hpp] at HSO
    clear hok hpp hsb HSI HO HTT
    generalize nrL ts st many = L at *
    cases sb
    case' false =>
      go_wp2_with fail
      refine (HSE.out _ (Keep.refl _)).mono ?_
      rintro e w4 ⟨rfl, k4⟩
      have kk4 : Keep w3 w4 := k4
      go_wp2_with fail
      refine (HSV.out _ kk4).mono ?_
      rintro e w5 ⟨rfl, k5⟩
      have kk5 : Keep w3 w5 := kk4.trans k5
      go_wp2_with fail
      refine (HSE.out _ kk5).mono ?_
      rintro e w6 ⟨rfl, k6⟩
      have kk6 : Keep w3 w6 := kk5.trans k6
      go_wp2
      go_ret
      exact ⟨rfl, K3.trans kk6⟩
    by_cases hm0 : many < 0
    case' pos =>
      have hm0d : decide (many < 0) = true := decide_eq_true hm0
      go_wp2_with fail
      refine (HSE.out _ (Keep.refl _)).mono ?_
      rintro e w4 ⟨rfl, k4⟩
      have kk4 : Keep w3 w4 := k4
      go_wp2_with fail
      refine (HSV.out _ kk4).mono ?_
      rintro e w5 ⟨rfl, k5⟩
      have kk5 : Keep w3 w5 := kk4.trans k5
      go_wp2_with fail
      refine (HSE.out _ kk5).mono ?_
      rintro e w6 ⟨rfl, k6⟩
      have kk6 : Keep w3 w6 := kk5.trans k6
      go_wp2
      go_ret
      exact ⟨rfl, K3.trans kk6⟩
    have hm0d : decide (many < 0) = false := decide_eq_false hm0
    by_cases hm6 : 6 < many
    case' pos =>
      have hm6d : decide (6 < many) = true := decide_eq_true hm6
      go_wp2_with fail
      refine (HSE.out _ (Keep.refl _)).mono ?_
      rintro e w4 ⟨rfl, k4⟩
      have kk4 : Keep w3 w4 := k4
      go_wp2_with fail
      refine (HSV.out _ kk4).mono ?_
      rintro e w5 ⟨rfl, k5⟩
      have kk5 : Keep w3 w5 := kk4.trans k5
      go_wp2_with fail
      refine (HSE.out _ kk5).mono ?_
      rintro e w6 ⟨rfl, k6⟩
      have kk6 : Keep w3 w6 := kk5.trans k6
      go_wp2
      go_ret
      exact ⟨rfl, K3.trans kk6⟩
    have hm6d : decide (6 < many) = false := decide_eq_false hm6
    by_cases hl0 : (ts.length : Int) = 0
    case' pos =>
      have hl0d : ((ts.length : Int) == 0) = true := beq_iff_eq.2 hl0
      go_wp2_with fail
      refine (HSE.out _ (Keep.refl _)).mono ?_
      rintro e w4 ⟨rfl, k4⟩
      have kk4 : Keep w3 w4 := k4
      go_wp2_with fail
      refine (HSV.out _ kk4).mono ?_
      rintro e w5 ⟨rfl, k5⟩
      have kk5 : Keep w3 w5 := kk4.trans k5
      go_wp2_with fail
      refine (HSE.out _ kk5).mono ?_
      rintro e w6 ⟨rfl, k6⟩
      have kk6 : Keep w3 w6 := kk5.trans k6
      go_wp2
      go_ret
      exact ⟨rfl, K3.trans kk6⟩
    have hl0d : ((ts.length : Int) == 0) = false := beq_eq_false_iff_ne.2 hl0
    by_cases hs1 : st < 1
    case' pos =>
      have hs1d : decide (st < 1) = true := decide_eq_true hs1
      go_wp2_with fail
      refine (HSE.out _ (Keep.refl _)).mono ?_
      rintro e w4 ⟨rfl, k4⟩
      have kk4 : Keep w3 w4 := k4
      go_wp2_with fail
      refine (HSV.out _ kk4).mono ?_
      rintro e w5 ⟨rfl, k5⟩
      have kk5 : Keep w3 w5 := kk4.trans k5
      go_wp2_with fail
      refine (HSE.out _ kk5).mono ?_
      rintro e w6 ⟨rfl, k6⟩
      have kk6 : Keep w3 w6 := kk5.trans k6
      go_wp2
      go_ret
      exact ⟨rfl, K3.trans kk6⟩
    have hs1d : decide (st < 1) = false := decide_eq_false hs1
    have HNE : Hid (tS (ts.getD pp t0) ≠ st) := Lib.hid (fun e => by
      have hlt : pp < ts.length := by
        rcases Nat.lt_or_ge pp ts.length with h | h
        · exact h
        · have e0 : ts.getD pp t0 = t0 := by simp [List.getD_eq_getElem?_getD, h]
          rw [e0] at e
          have e1 : tS t0 = 0 := rfl
          omega
      apply HOK.out
      rw [nrOk, HSBb.out, HPP.out, decide_eq_true hlt]
      simp [inB]; omega)
    unfold ag at HSO
    generalize tS (ts.getD pp t0) = cs at *
    generalize tX (ts.getD pp t0) = cx at *
    generalize tY (ts.getD pp t0) = cy at *
    have hned : (cs != st) = true := by simp [HNE.out]
    have hned2 : (cs == st) = false := beq_eq_false_iff_ne.2 HNE.out
    have hfd := fldSite
    go_wp2_with fail
    refine (HSE.out _ (Keep.refl _)).mono ?_
    rintro e w4 ⟨rfl, k4⟩
    have kk4 : Keep w3 w4 := k4
    go_wp2_with fail
    refine (HSV.out _ kk4).mono ?_
    rintro e w5 ⟨rfl, k5⟩
    have kk5 : Keep w3 w5 := kk4.trans k5
    go_wp2_with fail
    refine (HSO.out _ kk5).mono ?_
    rintro e w6 ⟨rfl, k6⟩
    have kk6 : Keep w3 w6 := kk5.trans k6
    go_wp2_with fail
    refine (HSE.out _ kk6).mono ?_
    rintro e w7 ⟨rfl, k7⟩
    have kk7 : Keep w3 w7 := kk6.trans k7
    go_wp2
    go_ret
    exact ⟨rfl, K3.trans kk7⟩
  obtain ⟨hs, hp, hm0, hm6⟩ := nrOk_facts hok
  rw [hs] at hsb
  subst hsb
  have hla := nr_len2 hok
  have HOK := Lib.hid hok
  have HSB := Lib.hid hs
  have HPL := Lib.hid hp
  have hpc := plc_at hp
  have HPC := Lib.hid hpc
  have hst := tB_bd (si_tB hs hp)
  have hl6 := si_len hs
  have HNA := Lib.hid (fun i hi => nr_at (i := i) hok hi)
  have HLA := Lib.hid (fun i q m hi hq hm h1 h2 => nr_last (i := i) (q := q) (m := m) hok hi hq hm h1 h2)
  clear hok hs
  obtain ⟨pp, hpp⟩ : ∃ pp, plc ts st = pp := ⟨_, rfl⟩
  rw [hpp] at HSO HNA HLA HPL HPC hpc hp hst
  obtain ⟨c, hc⟩ : ∃ c, ts.getD pp t0 = c := ⟨_, rfl⟩
  rw [hc] at HSO hpc hst HLA
  have HTC := Lib.hid (hc ▸ si_tB HSB.out hp : tB c = true)
  rw [hpc] at hst
  unfold ag at HSO
  clear hc hpp
  generalize nrL ts st many = L at *
  obtain ⟨cx, hcx⟩ : ∃ x, tX c = x := ⟨_, rfl⟩
  obtain ⟨cy, hcy⟩ : ∃ x, tY c = x := ⟨_, rfl⟩
  have HCC : Hid (ag c = .agg #[.int .i64 st, .int .i64 cx, .int .i64 cy]) := Lib.hid (by unfold ag; rw [hpc, hcx, hcy])
  rw [hpc, hcx, hcy] at HSO
  clear hpc hcx hcy
  have hm0d : decide (many < 0) = false := decide_eq_false (by omega)
  have hm6d : decide (6 < many) = false := decide_eq_false (by omega)
  have hl0d : ((ts.length : Int) == 0) = false := beq_eq_false_iff_ne.2 (by omega)
  have hs1d : decide (st < 1) = false := decide_eq_false (by omega)
  have hned : (st != st) = false := by simp
  have hfd := fldSite
  have hmin : (if (ts.length : Int) - 1 < many then (ts.length : Int) - 1 else many) = (L.length : Int) := by split <;> omega
  have HSZ : Hid (L.length ≤ q) := Lib.hid (by omega)
  have HLL : Hid (L.length ≤ 6) := Lib.hid hz
  clear hst hla
  go_wp2_with fail
  refine (HSE.out _ (Keep.refl _)).mono ?_
  rintro e w4 ⟨rfl, k4⟩
  have kk4 : Keep w3 w4 := k4
  go_wp2_with fail
  refine (HSV.out _ kk4).mono ?_
  rintro e w5 ⟨rfl, k5⟩
  have kk5 : Keep w3 w5 := kk4.trans k5
  go_wp2_with fail
  refine (HSO.out _ kk5).mono ?_
  rintro e w6 ⟨rfl, k6⟩
  have kk6 : Keep w3 w6 := kk5.trans k6
  go_wp2_with fail
  refine (HSO.out _ kk6).mono ?_
  rintro e w7 ⟨rfl, k7⟩
  have kk7 : Keep w3 w7 := kk6.trans k7
  clear k4 k5 k6 k7
  have H0 := Lib.hid (World.cell?_alloc_new w7 #[.int .i64 st, .int .i64 cx, .int .i64 cy] 62 0)
  have H1 := Lib.hid (World.cell?_alloc_new w7 #[.int .i64 st, .int .i64 cx, .int .i64 cy] 62 1)
  have H2 := Lib.hid (World.cell?_alloc_new w7 #[.int .i64 st, .int .i64 cx, .int .i64 cy] 62 2)
  have K5 : Hid (Keep w3 (w7.alloc (.cells #[.int .i64 st, .int .i64 cx, .int .i64 cy] 62))) := Lib.hid (kk7.alloc _)
  clear kk4 kk5 kk6 kk7 HSO HSV HSE
  go_wp2_with fail
  go_loopw [9] (fun i wr => ∃ k : Nat, k ≤ ts.length ∧ i = .int .i64 k ∧ Keep (w7.alloc (.cells #[.int .i64 st, .int .i64 cx, .int .i64 cy] 62)) wr) (fun i _ => ts.length - (intOf i).toNat)
  case atStart => exact ⟨0, by omega, rfl, Keep.refl _⟩
  case round =>
    obtain ⟨k, hk, rfl, hK⟩ := hrel
    by_cases hlt : k < ts.length
    case' neg =>
      go_wp2
      go_ret
      exact ⟨rfl, (K3.trans K5.out).trans hK⟩
    by_cases hL0 : 0 < L.length
    case' neg =>
      go_wp2
      go_ret
      exact ⟨rfl, (K3.trans K5.out).trans hK⟩
    have hKW := K5.out.trans hK
    obtain ⟨m, hm⟩ : ∃ m, m + 1 = L.length := ⟨L.length - 1, by omega⟩
    obtain ⟨q0, hq0, hqp, hnr, hLq, hpq0, hil, hkm⟩ := HNA.out m (by omega)
    have hlast := fun h1 h2 => HLA.out k q0 m hlt hq0 hm hnr h1 h2
    have HTL := Lib.hid (si_tB HSB.out hq0)
    have HTR := Lib.hid (si_tB HSB.out hlt)
    have hpk : tS (ts.getD k t0) ≠ st → k ≠ pp := fun h e => h (by rw [e]; exact HPC.out)
    have HSL := Lib.hid (fun W (hw : Keep wr W) => HSI.out W (hKW.trans hw) (L.getD m 0))
    rw [hpq0] at HSL
    obtain ⟨b, off, hpe, _, hcell⟩ := (HO.out.keep hKW).all (by omega)
    have cl := hcell m (by omega)
    have HLI := Lib.hid (fun W (hw : Keep wr W) => hasI_any p q L (tS (ts.getD k t0)) W ((HO.out.keep hKW).keep hw) (by omega))
    obtain ⟨b', off', hbe, _, ⟨c0, c1, c2⟩⟩ := (HTT.out.keep hKW).at_ hlt
    injection hbe with hbe
    injection hbe with e1 e2
    subst e1
    subst e2
    rw [Nat.zero_add] at c0 c1 c2
    obtain ⟨r, hr⟩ : ∃ r, ts.getD k t0 = r := ⟨_, rfl⟩
    obtain ⟨l, hl⟩ : ∃ l, ts.getD q0 t0 = l := ⟨_, rfl⟩
    rw [hr] at HTR HLI c0 c1 c2 hlast hpk
    rw [hl] at HSL HTL hlast hLq
    have hin : ∀ h : tS r ≠ st, tS r ∉ L → ¬ far r c < far l c ∧ (far r c = far l c → ¬ tS r < tS l) := fun h h2 => by
      have h9 := hlast (hpk h) h2
      constructor
      · have := h9.1; omega
      · intro e; have := h9.2 e; omega
    have HFr := Lib.hid (fun W => wfar r c HTR.out HTC.out W)
    have HFl := Lib.hid (fun W => wfar l c HTL.out HTC.out W)
    rw [HCC.out] at HFr HFl
    unfold ag at HFr HFl HSL
    obtain ⟨o, ho⟩ : ∃ o, L.getD m 0 = o := ⟨_, rfl⟩
    rw [ho] at HSL cl
    have HI := Lib.hid (fun W (hw : Keep wr W) => (HLI.out W hw).mono fun e w' (hh : e = .returned (.bool (decide (tS r ∈ L))) ∧ W = w') => (⟨hh.1, hh.2 ▸ Keep.refl W⟩ : e = .returned (.bool (decide (tS r ∈ L))) ∧ Keep W w'))
    generalize far r c = fr at *
    generalize far l c = fl at *
    generalize tS r = rs at *
    generalize tX r = rx at *
    generalize tY r = ry at *
    generalize tS l = ls at *
    generalize tX l = lx at *
    generalize tY l = ly at *
    have hsub : (L.length : Int) - 1 = (m : Int) := by omega
    have hsw : IntKind.i64.wrap ((L.length : Int) - 1) = (m : Int) := by rw [hsub]; exact IntWalk.i64_in _ (by have := HLL.out; omega)
    have hsw2 : IntKind.i64.wrap (m : Int) = (m : Int) := IntWalk.i64_in _ (by have := HLL.out; omega)
    have m0 : (0 : Int) ≤ (m : Int) := by omega
    have mz : (m : Int) < (L.length : Int) := by omega
    have mq : (m : Int) ≤ (q : Int) := by have := HSZ.out; omega
    have kz : (k : Int) < (ts.length : Int) := by omega
    have k00 : (0 : Int) ≤ (k : Int) := by omega
    subst hpe
    have HM := Lib.hid hm
    have HIN := Lib.hid hin
    clear HLA HNA hlast hnr hLq hpq0 hil hkm ho hl hr HLI hcell HSI hpk hqp hq0 hm hin
    go_wp2_with fail
    refine (HSL.out _ (Keep.refl _)).mono ?_
    rintro e wS ⟨rfl, kS⟩
    obtain ⟨W0, hW0⟩ : ∃ W0, W0 = wS.alloc (.cells #[.int .i64 ls, .int .i64 lx, .int .i64 ly] 62) := ⟨_, rfl⟩
    have KW0 : Keep wr W0 := by rw [hW0]; exact kS.alloc _
    have KKW := Lib.hid (hK.trans KW0)
    obtain ⟨bh, hbh⟩ : ∃ bh, w7.heap.size = bh := ⟨_, rfl⟩
    have HBH := Lib.hid hbh
    obtain ⟨bl, hbl⟩ : ∃ bl, wS.heap.size = bl := ⟨_, rfl⟩
    have HBL := Lib.hid hbl
    have p0 := KKW.out.cell H0.out
    have p1 := KKW.out.cell H1.out
    have p2 := KKW.out.cell H2.out
    have q0 : W0.cell? ⟨wS.heap.size, 0, none⟩ = some (.int .i64 ls) := by rw [hW0]; exact World.cell?_alloc_new wS _ _ 0
    have q1 : W0.cell? ⟨wS.heap.size, 1, none⟩ = some (.int .i64 lx) := by rw [hW0]; exact World.cell?_alloc_new wS _ _ 1
    have q2 : W0.cell? ⟨wS.heap.size, 2, none⟩ = some (.int .i64 ly) := by rw [hW0]; exact World.cell?_alloc_new wS _ _ 2
    rw [hbh] at p0 p1 p2
    rw [hbl] at q0 q1 q2
    have HSa : ∀ W, Keep W0 W → (Keep W0 W ∧ W.cell? ⟨g0, k * 3, none⟩ = some (.int .i64 rs) ∧ W.cell? ⟨g0, k * 3 + 1, none⟩ = some (.int .i64 rx) ∧ W.cell? ⟨g0, k * 3 + 2, none⟩ = some (.int .i64 ry) ∧ W.cell? ⟨bh, 0, none⟩ = some (.int .i64 st) ∧ W.cell? ⟨bh, 1, none⟩ = some (.int .i64 cx) ∧ W.cell? ⟨bh, 2, none⟩ = some (.int .i64 cy) ∧ W.cell? ⟨bl, 0, none⟩ = some (.int .i64 ls) ∧ W.cell? ⟨bl, 1, none⟩ = some (.int .i64 lx) ∧ W.cell? ⟨bl, 2, none⟩ = some (.int .i64 ly)) := fun W kW => ⟨kW, kW.cell (KW0.cell c0), kW.cell (KW0.cell c1), kW.cell (KW0.cell c2), kW.cell p0, kW.cell p1, kW.cell p2, kW.cell q0, kW.cell q1, kW.cell q2⟩
    have HIW := Lib.hid (fun W (hw : Keep W0 W) => HI.out W (KW0.trans hw))
    clear c0 c1 c2 p0 p1 p2 q0 q1 q2 cl HSL hbh hbl HI kS hKW
    go_wp2_with fail
    rw [← hW0, HBH.out, HBL.out]
    clear hW0
    by_cases hst2 : rs = st
    · subst hst2
      refine wp_region_held_drew (S := (fun w' => Keep W0 w' ∧ w'.cell? ⟨g0, k * 3, none⟩ = some (.int .i64 rs) ∧ w'.cell? ⟨g0, k * 3 + 1, none⟩ = some (.int .i64 rx) ∧ w'.cell? ⟨g0, k * 3 + 2, none⟩ = some (.int .i64 ry) ∧ w'.cell? ⟨bh, 0, none⟩ = some (.int .i64 rs) ∧ w'.cell? ⟨bh, 1, none⟩ = some (.int .i64 cx) ∧ w'.cell? ⟨bh, 2, none⟩ = some (.int .i64 cy) ∧ w'.cell? ⟨bl, 0, none⟩ = some (.int .i64 ls) ∧ w'.cell? ⟨bl, 1, none⟩ = some (.int .i64 lx) ∧ w'.cell? ⟨bl, 2, none⟩ = some (.int .i64 ly))) (by kernel_rfl) (HSa _ ((Keep.refl W0).drewN 1)) (fun hHeld => ?_)
      refine wpAnyH_take (i := 0) (oi := ({ dst := some 95, op := Op.move (Operand.tmp 3), type := 56, pos := "laws.go:1000", after := #[], guard := none })) (v := ?v101) rfl (by kernel_rfl) (by kernel_rfl) (by kernel_rfl) (fun _ _ _ h => h) (Or.inl ⟨by rfl, ?hy101⟩) hHeld ?rest101
      case hy101 => (intro w' hSw; (try dsimp only at hSw); go_split_ands; go_simp; try with_reducible rfl)
      try simp only [Act.put, List.setIfInBounds_toArray, List.set_cons_zero, List.set_cons_succ]
      refine wpAnyH_take (i := 1) (oi := ({ dst := some 96, op := Op.move (Operand.tmp 9), type := 3, pos := "laws.go:1000", after := #[], guard := none })) (v := ?v102) rfl (by kernel_rfl) (by kernel_rfl) (by kernel_rfl) (fun _ _ _ h => h) (Or.inl ⟨by rfl, ?hy102⟩) hHeld ?rest102
      case hy102 => (intro w' hSw; (try dsimp only at hSw); go_split_ands; go_simp; try with_reducible rfl)
      try simp only [Act.put, List.setIfInBounds_toArray, List.set_cons_zero, List.set_cons_succ]
      refine wpAnyH_take (i := 2) (oi := ({ dst := some 97, op := Op.indexAddr 56 (Operand.tmp 95) (Operand.tmp 96), type := 0, pos := "laws.go:1000", after := #[{ on := 0, ground := Ground.data }, { on := 1, ground := Ground.data }], guard := none })) (v := ?v103) rfl (by kernel_rfl) (by kernel_rfl) (by kernel_rfl) (fun _ _ _ h => h) (Or.inl ⟨by rfl, ?hy103⟩) hHeld ?rest103
      case hy103 => (intro w' hSw; (try dsimp only at hSw); go_split_ands; go_simp; try with_reducible rfl)
      try simp only [Act.put, List.setIfInBounds_toArray, List.set_cons_zero, List.set_cons_succ]
      refine wpAnyH_take (i := 3) (oi := ({ dst := some 98, op := Op.fieldAddr 62 (Operand.tmp 97) 0, type := 0, pos := "laws.go:1000", after := #[{ on := 2, ground := Ground.data }], guard := none })) (v := ?v104) rfl (by kernel_rfl) (by kernel_rfl) (by kernel_rfl) (fun _ _ _ h => h) (Or.inl ⟨by rfl, ?hy104⟩) hHeld ?rest104
      case hy104 => (intro w' hSw; (try dsimp only at hSw); go_split_ands; go_simp; try with_reducible rfl)
      try simp only [Act.put, List.setIfInBounds_toArray, List.set_cons_zero, List.set_cons_succ]
      refine wpAnyH_take (i := 4) (oi := ({ dst := some 99, op := Op.load 3 (Operand.tmp 98), type := 3, pos := "laws.go:1000", after := #[{ on := 3, ground := Ground.data }], guard := none })) (v := ?v105) rfl (by kernel_rfl) (by kernel_rfl) (by kernel_rfl) (fun _ _ _ h => h) (Or.inl ⟨by rfl, ?hy105⟩) hHeld ?rest105
      case hy105 => (intro w' hSw; (try dsimp only at hSw); go_split_ands; go_simp; try with_reducible rfl)
      try simp only [Act.put, List.setIfInBounds_toArray, List.set_cons_zero, List.set_cons_succ]
      refine wpAnyH_take (i := 5) (oi := ({ dst := some 100, op := Op.move (Operand.tmp 4), type := 3, pos := "laws.go:1000", after := #[], guard := none })) (v := ?v106) rfl (by kernel_rfl) (by kernel_rfl) (by kernel_rfl) (fun _ _ _ h => h) (Or.inl ⟨by rfl, ?hy106⟩) hHeld ?rest106
      case hy106 => (intro w' hSw; (try dsimp only at hSw); go_split_ands; go_simp; try with_reducible rfl)
      try simp only [Act.put, List.setIfInBounds_toArray, List.set_cons_zero, List.set_cons_succ]
      refine wpAnyH_take (i := 6) (oi := ({ dst := some 101, op := Op.binOp BinOp.neq 3 (Operand.tmp 99) (Operand.tmp 100) 3, type := 4, pos := "laws.go:1000", after := #[{ on := 4, ground := Ground.data }, { on := 5, ground := Ground.data }], guard := none })) (v := ?v107) rfl (by kernel_rfl) (by kernel_rfl) (by kernel_rfl) (fun _ _ _ h => h) (Or.inl ⟨by rfl, ?hy107⟩) hHeld ?rest107
      case hy107 => (intro w' hSw; (try dsimp only at hSw); go_split_ands; go_simp; try with_reducible rfl)
      try simp only [Act.put, List.setIfInBounds_toArray, List.set_cons_zero, List.set_cons_succ]
      refine wpAnyH_take (i := 7) (oi := ({ dst := some 102, op := Op.move (Operand.tmp 101), type := 4, pos := "laws.go:1000", after := #[{ on := 6, ground := Ground.data }], guard := none })) (v := ?v108) rfl (by kernel_rfl) (by kernel_rfl) (by kernel_rfl) (fun _ _ _ h => h) (Or.inl ⟨by rfl, ?hy108⟩) hHeld ?rest108
      case hy108 => (intro w' hSw; (try dsimp only at hSw); go_split_ands; go_simp; try with_reducible rfl)
      try simp only [Act.put, List.setIfInBounds_toArray, List.set_cons_zero, List.set_cons_succ]
      refine wpAnyH_take (i := 8) (oi := ({ dst := some 103, op := Op.move (Operand.tmp 6), type := 43, pos := "laws.go:1000", after := #[{ on := 7, ground := Ground.guard }], guard := some (7, true) })) (v := undef) rfl (by kernel_rfl) (by kernel_rfl) (by kernel_rfl) (fun _ _ _ h => h) (Or.inr ⟨by first | kernel_rfl | rfl, rfl⟩) hHeld ?rest109
      try simp only [Act.put, List.setIfInBounds_toArray, List.set_cons_zero, List.set_cons_succ]
      refine wpAnyH_take (i := 9) (oi := ({ dst := some 104, op := Op.move (Operand.tmp 3), type := 56, pos := "laws.go:1000", after := #[{ on := 7, ground := Ground.guard }], guard := some (7, true) })) (v := undef) rfl (by kernel_rfl) (by kernel_rfl) (by kernel_rfl) (fun _ _ _ h => h) (Or.inr ⟨by first | kernel_rfl | rfl, rfl⟩) hHeld ?rest110
      try simp only [Act.put, List.setIfInBounds_toArray, List.set_cons_zero, List.set_cons_succ]
      refine wpAnyH_take (i := 10) (oi := ({ dst := some 105, op := Op.move (Operand.tmp 9), type := 3, pos := "laws.go:1000", after := #[{ on := 7, ground := Ground.guard }], guard := some (7, true) })) (v := undef) rfl (by kernel_rfl) (by kernel_rfl) (by kernel_rfl) (fun _ _ _ h => h) (Or.inr ⟨by first | kernel_rfl | rfl, rfl⟩) hHeld ?rest111
      try simp only [Act.put, List.setIfInBounds_toArray, List.set_cons_zero, List.set_cons_succ]
      refine wpAnyH_take (i := 11) (oi := ({ dst := some 106, op := Op.indexAddr 56 (Operand.tmp 104) (Operand.tmp 105), type := 0, pos := "laws.go:1000", after := #[{ on := 9, ground := Ground.data }, { on := 10, ground := Ground.data }, { on := 7, ground := Ground.guard }], guard := some (7, true) })) (v := undef) rfl (by kernel_rfl) (by kernel_rfl) (by kernel_rfl) (fun _ _ _ h => h) (Or.inr ⟨by first | kernel_rfl | rfl, rfl⟩) hHeld ?rest112
      try simp only [Act.put, List.setIfInBounds_toArray, List.set_cons_zero, List.set_cons_succ]
      refine wpAnyH_take (i := 12) (oi := ({ dst := some 107, op := Op.fieldAddr 62 (Operand.tmp 106) 0, type := 0, pos := "laws.go:1000", after := #[{ on := 11, ground := Ground.data }, { on := 7, ground := Ground.guard }], guard := some (7, true) })) (v := undef) rfl (by kernel_rfl) (by kernel_rfl) (by kernel_rfl) (fun _ _ _ h => h) (Or.inr ⟨by first | kernel_rfl | rfl, rfl⟩) hHeld ?rest113
      try simp only [Act.put, List.setIfInBounds_toArray, List.set_cons_zero, List.set_cons_succ]
      refine wpAnyH_take (i := 13) (oi := ({ dst := some 108, op := Op.load 3 (Operand.tmp 107), type := 3, pos := "laws.go:1000", after := #[{ on := 12, ground := Ground.data }, { on := 7, ground := Ground.guard }], guard := some (7, true) })) (v := undef) rfl (by kernel_rfl) (by kernel_rfl) (by kernel_rfl) (fun _ _ _ h => h) (Or.inr ⟨by first | kernel_rfl | rfl, rfl⟩) hHeld ?rest114
      try simp only [Act.put, List.setIfInBounds_toArray, List.set_cons_zero, List.set_cons_succ]
      refine wpAnyH_take (i := 14) (oi := ({ dst := some 109, op := Op.call { callee := Callee.value (Operand.func 43), args := #[Operand.tmp 103, Operand.tmp 108], argTypes := #[43, 3] }, type := 4, pos := "laws.go:1000", after := #[{ on := 8, ground := Ground.data }, { on := 13, ground := Ground.data }, { on := 7, ground := Ground.chain }, { on := 7, ground := Ground.guard }], guard := some (7, true) })) (v := undef) rfl (by kernel_rfl) (by kernel_rfl) (by kernel_rfl) (fun _ _ _ h => h) (Or.inr ⟨by first | kernel_rfl | rfl, rfl⟩) hHeld ?rest115
      try simp only [Act.put, List.setIfInBounds_toArray, List.set_cons_zero, List.set_cons_succ]
      refine wpAnyH_take (i := 15) (oi := ({ dst := some 110, op := Op.unOp UnOp.not 4 (Operand.tmp 109), type := 4, pos := "laws.go:1000", after := #[{ on := 14, ground := Ground.data }, { on := 7, ground := Ground.guard }], guard := some (7, true) })) (v := undef) rfl (by kernel_rfl) (by kernel_rfl) (by kernel_rfl) (fun _ _ _ h => h) (Or.inr ⟨by first | kernel_rfl | rfl, rfl⟩) hHeld ?rest116
      try simp only [Act.put, List.setIfInBounds_toArray, List.set_cons_zero, List.set_cons_succ]
      refine wpAnyH_take (i := 16) (oi := ({ dst := some 111, op := Op.pick (Operand.tmp 102) (Operand.tmp 110) (Operand.const (Value.bool false)), type := 4, pos := "laws.go:1000", after := #[{ on := 7, ground := Ground.data }, { on := 15, ground := Ground.data }], guard := none })) (v := ?v117) rfl (by kernel_rfl) (by kernel_rfl) (by kernel_rfl) (fun _ _ _ h => h) (Or.inl ⟨by rfl, ?hy117⟩) hHeld ?rest117
      case hy117 => (intro w' hSw; (try dsimp only at hSw); go_split_ands; go_simp; try with_reducible rfl)
      try simp only [Act.put, List.setIfInBounds_toArray, List.set_cons_zero, List.set_cons_succ]
      refine wpAnyH_take (i := 17) (oi := ({ dst := some 112, op := Op.move (Operand.tmp 111), type := 4, pos := "laws.go:1000", after := #[{ on := 16, ground := Ground.data }, { on := 14, ground := Ground.chain }], guard := none })) (v := ?v118) rfl (by kernel_rfl) (by kernel_rfl) (by kernel_rfl) (fun _ _ _ h => h) (Or.inl ⟨by rfl, ?hy118⟩) hHeld ?rest118
      case hy118 => (intro w' hSw; (try dsimp only at hSw); go_split_ands; go_simp; try with_reducible rfl)
      try simp only [Act.put, List.setIfInBounds_toArray, List.set_cons_zero, List.set_cons_succ]
      refine wpAnyH_take (i := 18) (oi := ({ dst := some 113, op := Op.move (Operand.tmp 3), type := 56, pos := "laws.go:1000", after := #[{ on := 17, ground := Ground.guard }], guard := some (17, true) })) (v := undef) rfl (by kernel_rfl) (by kernel_rfl) (by kernel_rfl) (fun _ _ _ h => h) (Or.inr ⟨by first | kernel_rfl | rfl, rfl⟩) hHeld ?rest119
      try simp only [Act.put, List.setIfInBounds_toArray, List.set_cons_zero, List.set_cons_succ]
      refine wpAnyH_take (i := 19) (oi := ({ dst := some 114, op := Op.move (Operand.tmp 9), type := 3, pos := "laws.go:1000", after := #[{ on := 17, ground := Ground.guard }], guard := some (17, true) })) (v := undef) rfl (by kernel_rfl) (by kernel_rfl) (by kernel_rfl) (fun _ _ _ h => h) (Or.inr ⟨by first | kernel_rfl | rfl, rfl⟩) hHeld ?rest120
      try simp only [Act.put, List.setIfInBounds_toArray, List.set_cons_zero, List.set_cons_succ]
      refine wpAnyH_take (i := 20) (oi := ({ dst := some 115, op := Op.indexAddr 56 (Operand.tmp 113) (Operand.tmp 114), type := 0, pos := "laws.go:1000", after := #[{ on := 18, ground := Ground.data }, { on := 19, ground := Ground.data }, { on := 17, ground := Ground.guard }], guard := some (17, true) })) (v := undef) rfl (by kernel_rfl) (by kernel_rfl) (by kernel_rfl) (fun _ _ _ h => h) (Or.inr ⟨by first | kernel_rfl | rfl, rfl⟩) hHeld ?rest121
      try simp only [Act.put, List.setIfInBounds_toArray, List.set_cons_zero, List.set_cons_succ]
      refine wpAnyH_take (i := 21) (oi := ({ dst := some 116, op := Op.load 62 (Operand.tmp 115), type := 62, pos := "laws.go:1000", after := #[{ on := 20, ground := Ground.data }, { on := 17, ground := Ground.guard }], guard := some (17, true) })) (v := undef) rfl (by kernel_rfl) (by kernel_rfl) (by kernel_rfl) (fun _ _ _ h => h) (Or.inr ⟨by first | kernel_rfl | rfl, rfl⟩) hHeld ?rest122
      try simp only [Act.put, List.setIfInBounds_toArray, List.set_cons_zero, List.set_cons_succ]
      refine wpAnyH_take (i := 22) (oi := ({ dst := some 117, op := Op.load 62 (Operand.tmp 8), type := 62, pos := "laws.go:1000", after := #[{ on := 17, ground := Ground.guard }], guard := some (17, true) })) (v := undef) rfl (by kernel_rfl) (by kernel_rfl) (by kernel_rfl) (fun _ _ _ h => h) (Or.inr ⟨by first | kernel_rfl | rfl, rfl⟩) hHeld ?rest123
      try simp only [Act.put, List.setIfInBounds_toArray, List.set_cons_zero, List.set_cons_succ]
      refine wpAnyH_take (i := 23) (oi := ({ dst := some 118, op := Op.call { callee := Callee.value (Operand.func 48), args := #[Operand.tmp 116, Operand.tmp 117], argTypes := #[62, 62] }, type := 3, pos := "laws.go:1000", after := #[{ on := 21, ground := Ground.data }, { on := 22, ground := Ground.data }, { on := 17, ground := Ground.chain }, { on := 17, ground := Ground.guard }], guard := some (17, true) })) (v := undef) rfl (by kernel_rfl) (by kernel_rfl) (by kernel_rfl) (fun _ _ _ h => h) (Or.inr ⟨by first | kernel_rfl | rfl, rfl⟩) hHeld ?rest124
      try simp only [Act.put, List.setIfInBounds_toArray, List.set_cons_zero, List.set_cons_succ]
      refine wpAnyH_take (i := 24) (oi := ({ dst := some 119, op := Op.load 62 (Operand.tmp 10), type := 62, pos := "laws.go:1000", after := #[{ on := 17, ground := Ground.guard }], guard := some (17, true) })) (v := undef) rfl (by kernel_rfl) (by kernel_rfl) (by kernel_rfl) (fun _ _ _ h => h) (Or.inr ⟨by first | kernel_rfl | rfl, rfl⟩) hHeld ?rest125
      try simp only [Act.put, List.setIfInBounds_toArray, List.set_cons_zero, List.set_cons_succ]
      refine wpAnyH_take (i := 25) (oi := ({ dst := some 120, op := Op.load 62 (Operand.tmp 8), type := 62, pos := "laws.go:1000", after := #[{ on := 17, ground := Ground.guard }], guard := some (17, true) })) (v := undef) rfl (by kernel_rfl) (by kernel_rfl) (by kernel_rfl) (fun _ _ _ h => h) (Or.inr ⟨by first | kernel_rfl | rfl, rfl⟩) hHeld ?rest126
      try simp only [Act.put, List.setIfInBounds_toArray, List.set_cons_zero, List.set_cons_succ]
      refine wpAnyH_take (i := 26) (oi := ({ dst := some 121, op := Op.call { callee := Callee.value (Operand.func 48), args := #[Operand.tmp 119, Operand.tmp 120], argTypes := #[62, 62] }, type := 3, pos := "laws.go:1000", after := #[{ on := 24, ground := Ground.data }, { on := 25, ground := Ground.data }, { on := 23, ground := Ground.chain }, { on := 17, ground := Ground.guard }], guard := some (17, true) })) (v := undef) rfl (by kernel_rfl) (by kernel_rfl) (by kernel_rfl) (fun _ _ _ h => h) (Or.inr ⟨by first | kernel_rfl | rfl, rfl⟩) hHeld ?rest127
      try simp only [Act.put, List.setIfInBounds_toArray, List.set_cons_zero, List.set_cons_succ]
      refine wpAnyH_take (i := 27) (oi := ({ dst := some 122, op := Op.binOp BinOp.lss 3 (Operand.tmp 118) (Operand.tmp 121) 3, type := 4, pos := "laws.go:1000", after := #[{ on := 23, ground := Ground.data }, { on := 26, ground := Ground.data }, { on := 17, ground := Ground.guard }], guard := some (17, true) })) (v := undef) rfl (by kernel_rfl) (by kernel_rfl) (by kernel_rfl) (fun _ _ _ h => h) (Or.inr ⟨by first | kernel_rfl | rfl, rfl⟩) hHeld ?rest128
      try simp only [Act.put, List.setIfInBounds_toArray, List.set_cons_zero, List.set_cons_succ]
      refine wpAnyH_take (i := 28) (oi := ({ dst := some 123, op := Op.move (Operand.tmp 122), type := 4, pos := "laws.go:1000", after := #[{ on := 27, ground := Ground.data }, { on := 26, ground := Ground.chain }, { on := 17, ground := Ground.guard }], guard := some (17, true) })) (v := undef) rfl (by kernel_rfl) (by kernel_rfl) (by kernel_rfl) (fun _ _ _ h => h) (Or.inr ⟨by first | kernel_rfl | rfl, rfl⟩) hHeld ?rest129
      try simp only [Act.put, List.setIfInBounds_toArray, List.set_cons_zero, List.set_cons_succ]
      refine wpAnyH_take (i := 29) (oi := ({ dst := some 124, op := Op.move (Operand.tmp 3), type := 56, pos := "laws.go:1000", after := #[{ on := 28, ground := Ground.guard }], guard := some (28, false) })) (v := undef) rfl (by kernel_rfl) (by kernel_rfl) (by kernel_rfl) (fun _ _ _ h => h) (Or.inr ⟨by first | kernel_rfl | rfl, rfl⟩) hHeld ?rest130
      try simp only [Act.put, List.setIfInBounds_toArray, List.set_cons_zero, List.set_cons_succ]
      refine wpAnyH_take (i := 30) (oi := ({ dst := some 125, op := Op.move (Operand.tmp 9), type := 3, pos := "laws.go:1000", after := #[{ on := 28, ground := Ground.guard }], guard := some (28, false) })) (v := undef) rfl (by kernel_rfl) (by kernel_rfl) (by kernel_rfl) (fun _ _ _ h => h) (Or.inr ⟨by first | kernel_rfl | rfl, rfl⟩) hHeld ?rest131
      try simp only [Act.put, List.setIfInBounds_toArray, List.set_cons_zero, List.set_cons_succ]
      refine wpAnyH_take (i := 31) (oi := ({ dst := some 126, op := Op.indexAddr 56 (Operand.tmp 124) (Operand.tmp 125), type := 0, pos := "laws.go:1000", after := #[{ on := 29, ground := Ground.data }, { on := 30, ground := Ground.data }, { on := 28, ground := Ground.guard }], guard := some (28, false) })) (v := undef) rfl (by kernel_rfl) (by kernel_rfl) (by kernel_rfl) (fun _ _ _ h => h) (Or.inr ⟨by first | kernel_rfl | rfl, rfl⟩) hHeld ?rest132
      try simp only [Act.put, List.setIfInBounds_toArray, List.set_cons_zero, List.set_cons_succ]
      refine wpAnyH_take (i := 32) (oi := ({ dst := some 127, op := Op.load 62 (Operand.tmp 126), type := 62, pos := "laws.go:1000", after := #[{ on := 31, ground := Ground.data }, { on := 28, ground := Ground.guard }], guard := some (28, false) })) (v := undef) rfl (by kernel_rfl) (by kernel_rfl) (by kernel_rfl) (fun _ _ _ h => h) (Or.inr ⟨by first | kernel_rfl | rfl, rfl⟩) hHeld ?rest133
      try simp only [Act.put, List.setIfInBounds_toArray, List.set_cons_zero, List.set_cons_succ]
      refine wpAnyH_take (i := 33) (oi := ({ dst := some 128, op := Op.load 62 (Operand.tmp 8), type := 62, pos := "laws.go:1000", after := #[{ on := 28, ground := Ground.guard }], guard := some (28, false) })) (v := undef) rfl (by kernel_rfl) (by kernel_rfl) (by kernel_rfl) (fun _ _ _ h => h) (Or.inr ⟨by first | kernel_rfl | rfl, rfl⟩) hHeld ?rest134
      try simp only [Act.put, List.setIfInBounds_toArray, List.set_cons_zero, List.set_cons_succ]
      refine wpAnyH_take (i := 34) (oi := ({ dst := some 129, op := Op.call { callee := Callee.value (Operand.func 48), args := #[Operand.tmp 127, Operand.tmp 128], argTypes := #[62, 62] }, type := 3, pos := "laws.go:1000", after := #[{ on := 32, ground := Ground.data }, { on := 33, ground := Ground.data }, { on := 28, ground := Ground.chain }, { on := 28, ground := Ground.guard }], guard := some (28, false) })) (v := undef) rfl (by kernel_rfl) (by kernel_rfl) (by kernel_rfl) (fun _ _ _ h => h) (Or.inr ⟨by first | kernel_rfl | rfl, rfl⟩) hHeld ?rest135
      try simp only [Act.put, List.setIfInBounds_toArray, List.set_cons_zero, List.set_cons_succ]
      refine wpAnyH_take (i := 35) (oi := ({ dst := some 130, op := Op.load 62 (Operand.tmp 10), type := 62, pos := "laws.go:1000", after := #[{ on := 28, ground := Ground.guard }], guard := some (28, false) })) (v := undef) rfl (by kernel_rfl) (by kernel_rfl) (by kernel_rfl) (fun _ _ _ h => h) (Or.inr ⟨by first | kernel_rfl | rfl, rfl⟩) hHeld ?rest136
      try simp only [Act.put, List.setIfInBounds_toArray, List.set_cons_zero, List.set_cons_succ]
      refine wpAnyH_take (i := 36) (oi := ({ dst := some 131, op := Op.load 62 (Operand.tmp 8), type := 62, pos := "laws.go:1000", after := #[{ on := 28, ground := Ground.guard }], guard := some (28, false) })) (v := undef) rfl (by kernel_rfl) (by kernel_rfl) (by kernel_rfl) (fun _ _ _ h => h) (Or.inr ⟨by first | kernel_rfl | rfl, rfl⟩) hHeld ?rest137
      try simp only [Act.put, List.setIfInBounds_toArray, List.set_cons_zero, List.set_cons_succ]
      refine wpAnyH_take (i := 37) (oi := ({ dst := some 132, op := Op.call { callee := Callee.value (Operand.func 48), args := #[Operand.tmp 130, Operand.tmp 131], argTypes := #[62, 62] }, type := 3, pos := "laws.go:1000", after := #[{ on := 35, ground := Ground.data }, { on := 36, ground := Ground.data }, { on := 34, ground := Ground.chain }, { on := 28, ground := Ground.guard }], guard := some (28, false) })) (v := undef) rfl (by kernel_rfl) (by kernel_rfl) (by kernel_rfl) (fun _ _ _ h => h) (Or.inr ⟨by first | kernel_rfl | rfl, rfl⟩) hHeld ?rest138
      try simp only [Act.put, List.setIfInBounds_toArray, List.set_cons_zero, List.set_cons_succ]
      refine wpAnyH_take (i := 38) (oi := ({ dst := some 133, op := Op.binOp BinOp.eql 3 (Operand.tmp 129) (Operand.tmp 132) 3, type := 4, pos := "laws.go:1000", after := #[{ on := 34, ground := Ground.data }, { on := 37, ground := Ground.data }, { on := 28, ground := Ground.guard }], guard := some (28, false) })) (v := undef) rfl (by kernel_rfl) (by kernel_rfl) (by kernel_rfl) (fun _ _ _ h => h) (Or.inr ⟨by first | kernel_rfl | rfl, rfl⟩) hHeld ?rest139
      try simp only [Act.put, List.setIfInBounds_toArray, List.set_cons_zero, List.set_cons_succ]
      refine wpAnyH_take (i := 39) (oi := ({ dst := some 134, op := Op.move (Operand.tmp 133), type := 4, pos := "laws.go:1000", after := #[{ on := 38, ground := Ground.data }, { on := 37, ground := Ground.chain }, { on := 28, ground := Ground.guard }], guard := some (28, false) })) (v := undef) rfl (by kernel_rfl) (by kernel_rfl) (by kernel_rfl) (fun _ _ _ h => h) (Or.inr ⟨by first | kernel_rfl | rfl, rfl⟩) hHeld ?rest140
      try simp only [Act.put, List.setIfInBounds_toArray, List.set_cons_zero, List.set_cons_succ]
      refine wpAnyH_take (i := 40) (oi := ({ dst := some 135, op := Op.move (Operand.tmp 3), type := 56, pos := "laws.go:1000", after := #[{ on := 39, ground := Ground.guard }], guard := some (39, true) })) (v := undef) rfl (by kernel_rfl) (by kernel_rfl) (by kernel_rfl) (fun _ _ _ h => h) (Or.inr ⟨by first | kernel_rfl | rfl, rfl⟩) hHeld ?rest141
      try simp only [Act.put, List.setIfInBounds_toArray, List.set_cons_zero, List.set_cons_succ]
      refine wpAnyH_take (i := 41) (oi := ({ dst := some 136, op := Op.move (Operand.tmp 9), type := 3, pos := "laws.go:1000", after := #[{ on := 39, ground := Ground.guard }], guard := some (39, true) })) (v := undef) rfl (by kernel_rfl) (by kernel_rfl) (by kernel_rfl) (fun _ _ _ h => h) (Or.inr ⟨by first | kernel_rfl | rfl, rfl⟩) hHeld ?rest142
      try simp only [Act.put, List.setIfInBounds_toArray, List.set_cons_zero, List.set_cons_succ]
      refine wpAnyH_take (i := 42) (oi := ({ dst := some 137, op := Op.indexAddr 56 (Operand.tmp 135) (Operand.tmp 136), type := 0, pos := "laws.go:1000", after := #[{ on := 40, ground := Ground.data }, { on := 41, ground := Ground.data }, { on := 39, ground := Ground.guard }], guard := some (39, true) })) (v := undef) rfl (by kernel_rfl) (by kernel_rfl) (by kernel_rfl) (fun _ _ _ h => h) (Or.inr ⟨by first | kernel_rfl | rfl, rfl⟩) hHeld ?rest143
      try simp only [Act.put, List.setIfInBounds_toArray, List.set_cons_zero, List.set_cons_succ]
      refine wpAnyH_take (i := 43) (oi := ({ dst := some 138, op := Op.fieldAddr 62 (Operand.tmp 137) 0, type := 0, pos := "laws.go:1000", after := #[{ on := 42, ground := Ground.data }, { on := 39, ground := Ground.guard }], guard := some (39, true) })) (v := undef) rfl (by kernel_rfl) (by kernel_rfl) (by kernel_rfl) (fun _ _ _ h => h) (Or.inr ⟨by first | kernel_rfl | rfl, rfl⟩) hHeld ?rest144
      try simp only [Act.put, List.setIfInBounds_toArray, List.set_cons_zero, List.set_cons_succ]
      refine wpAnyH_take (i := 44) (oi := ({ dst := some 139, op := Op.load 3 (Operand.tmp 138), type := 3, pos := "laws.go:1000", after := #[{ on := 43, ground := Ground.data }, { on := 39, ground := Ground.guard }], guard := some (39, true) })) (v := undef) rfl (by kernel_rfl) (by kernel_rfl) (by kernel_rfl) (fun _ _ _ h => h) (Or.inr ⟨by first | kernel_rfl | rfl, rfl⟩) hHeld ?rest145
      try simp only [Act.put, List.setIfInBounds_toArray, List.set_cons_zero, List.set_cons_succ]
      refine wpAnyH_take (i := 45) (oi := ({ dst := some 140, op := Op.fieldAddr 62 (Operand.tmp 10) 0, type := 0, pos := "laws.go:1000", after := #[{ on := 39, ground := Ground.guard }], guard := some (39, true) })) (v := undef) rfl (by kernel_rfl) (by kernel_rfl) (by kernel_rfl) (fun _ _ _ h => h) (Or.inr ⟨by first | kernel_rfl | rfl, rfl⟩) hHeld ?rest146
      try simp only [Act.put, List.setIfInBounds_toArray, List.set_cons_zero, List.set_cons_succ]
      refine wpAnyH_take (i := 46) (oi := ({ dst := some 141, op := Op.load 3 (Operand.tmp 140), type := 3, pos := "laws.go:1000", after := #[{ on := 45, ground := Ground.data }, { on := 39, ground := Ground.guard }], guard := some (39, true) })) (v := undef) rfl (by kernel_rfl) (by kernel_rfl) (by kernel_rfl) (fun _ _ _ h => h) (Or.inr ⟨by first | kernel_rfl | rfl, rfl⟩) hHeld ?rest147
      try simp only [Act.put, List.setIfInBounds_toArray, List.set_cons_zero, List.set_cons_succ]
      refine wpAnyH_take (i := 47) (oi := ({ dst := some 142, op := Op.binOp BinOp.lss 3 (Operand.tmp 139) (Operand.tmp 141) 3, type := 4, pos := "laws.go:1000", after := #[{ on := 44, ground := Ground.data }, { on := 46, ground := Ground.data }, { on := 39, ground := Ground.guard }], guard := some (39, true) })) (v := undef) rfl (by kernel_rfl) (by kernel_rfl) (by kernel_rfl) (fun _ _ _ h => h) (Or.inr ⟨by first | kernel_rfl | rfl, rfl⟩) hHeld ?rest148
      try simp only [Act.put, List.setIfInBounds_toArray, List.set_cons_zero, List.set_cons_succ]
      refine wpAnyH_take (i := 48) (oi := ({ dst := some 143, op := Op.pick (Operand.tmp 134) (Operand.tmp 142) (Operand.const (Value.bool false)), type := 4, pos := "laws.go:1000", after := #[{ on := 39, ground := Ground.data }, { on := 47, ground := Ground.data }, { on := 28, ground := Ground.guard }], guard := some (28, false) })) (v := undef) rfl (by kernel_rfl) (by kernel_rfl) (by kernel_rfl) (fun _ _ _ h => h) (Or.inr ⟨by first | kernel_rfl | rfl, rfl⟩) hHeld ?rest149
      try simp only [Act.put, List.setIfInBounds_toArray, List.set_cons_zero, List.set_cons_succ]
      refine wpAnyH_take (i := 49) (oi := ({ dst := some 144, op := Op.pick (Operand.tmp 123) (Operand.const (Value.bool true)) (Operand.tmp 143), type := 4, pos := "laws.go:1000", after := #[{ on := 28, ground := Ground.data }, { on := 48, ground := Ground.data }, { on := 17, ground := Ground.guard }], guard := some (17, true) })) (v := undef) rfl (by kernel_rfl) (by kernel_rfl) (by kernel_rfl) (fun _ _ _ h => h) (Or.inr ⟨by first | kernel_rfl | rfl, rfl⟩) hHeld ?rest150
      try simp only [Act.put, List.setIfInBounds_toArray, List.set_cons_zero, List.set_cons_succ]
      refine wpAnyH_take (i := 50) (oi := ({ dst := some 145, op := Op.pick (Operand.tmp 112) (Operand.tmp 144) (Operand.const (Value.bool false)), type := 4, pos := "laws.go:1000", after := #[{ on := 17, ground := Ground.data }, { on := 49, ground := Ground.data }], guard := none })) (v := ?v151) rfl (by kernel_rfl) (by kernel_rfl) (by kernel_rfl) (fun _ _ _ h => h) (Or.inl ⟨by rfl, ?hy151⟩) hHeld ?rest151
      case hy151 => (intro w' hSw; (try dsimp only at hSw); go_split_ands; go_simp; try with_reducible rfl)
      try simp only [Act.put, List.setIfInBounds_toArray, List.set_cons_zero, List.set_cons_succ]
      refine wpAnyH_done (by kernel_rfl) ?_ _
      go_wp2
      rw [← HBH.out]
      go_roundw
      case rel => exact ⟨k + 1, by omega, by go_num, KKW.out.trans ((Keep.refl W0).drewN 1)⟩
      case measure => simp [intOf]; omega
    have hsd : (rs != st) = true := by simp [hst2]
    have hsd2 : (rs == st) = false := beq_eq_false_iff_ne.2 hst2
    by_cases hmem : rs ∈ L
    · rw [decide_eq_true hmem] at HIW
      clear HIN hst2 hmem
      refine wp_region_held_drew (S := (fun w' => Keep W0 w' ∧ w'.cell? ⟨g0, k * 3, none⟩ = some (.int .i64 rs) ∧ w'.cell? ⟨g0, k * 3 + 1, none⟩ = some (.int .i64 rx) ∧ w'.cell? ⟨g0, k * 3 + 2, none⟩ = some (.int .i64 ry) ∧ w'.cell? ⟨bh, 0, none⟩ = some (.int .i64 st) ∧ w'.cell? ⟨bh, 1, none⟩ = some (.int .i64 cx) ∧ w'.cell? ⟨bh, 2, none⟩ = some (.int .i64 cy) ∧ w'.cell? ⟨bl, 0, none⟩ = some (.int .i64 ls) ∧ w'.cell? ⟨bl, 1, none⟩ = some (.int .i64 lx) ∧ w'.cell? ⟨bl, 2, none⟩ = some (.int .i64 ly))) (by kernel_rfl) (HSa _ ((Keep.refl W0).drewN 1)) (fun hHeld => ?_)
      refine wpAnyH_take (i := 0) (oi := ({ dst := some 95, op := Op.move (Operand.tmp 3), type := 56, pos := "laws.go:1000", after := #[], guard := none })) (v := ?v152) rfl (by kernel_rfl) (by kernel_rfl) (by kernel_rfl) (fun _ _ _ h => h) (Or.inl ⟨by rfl, ?hy152⟩) hHeld ?rest152
      case hy152 => (intro w' hSw; (try dsimp only at hSw); go_split_ands; go_simp; try with_reducible rfl)
      try simp only [Act.put, List.setIfInBounds_toArray, List.set_cons_zero, List.set_cons_succ]
      refine wpAnyH_take (i := 1) (oi := ({ dst := some 96, op := Op.move (Operand.tmp 9), type := 3, pos := "laws.go:1000", after := #[], guard := none })) (v := ?v153) rfl (by kernel_rfl) (by kernel_rfl) (by kernel_rfl) (fun _ _ _ h => h) (Or.inl ⟨by rfl, ?hy153⟩) hHeld ?rest153
      case hy153 => (intro w' hSw; (try dsimp only at hSw); go_split_ands; go_simp; try with_reducible rfl)
      try simp only [Act.put, List.setIfInBounds_toArray, List.set_cons_zero, List.set_cons_succ]
      refine wpAnyH_take (i := 2) (oi := ({ dst := some 97, op := Op.indexAddr 56 (Operand.tmp 95) (Operand.tmp 96), type := 0, pos := "laws.go:1000", after := #[{ on := 0, ground := Ground.data }, { on := 1, ground := Ground.data }], guard := none })) (v := ?v154) rfl (by kernel_rfl) (by kernel_rfl) (by kernel_rfl) (fun _ _ _ h => h) (Or.inl ⟨by rfl, ?hy154⟩) hHeld ?rest154
      case hy154 => (intro w' hSw; (try dsimp only at hSw); go_split_ands; go_simp; try with_reducible rfl)
      try simp only [Act.put, List.setIfInBounds_toArray, List.set_cons_zero, List.set_cons_succ]
      refine wpAnyH_take (i := 3) (oi := ({ dst := some 98, op := Op.fieldAddr 62 (Operand.tmp 97) 0, type := 0, pos := "laws.go:1000", after := #[{ on := 2, ground := Ground.data }], guard := none })) (v := ?v155) rfl (by kernel_rfl) (by kernel_rfl) (by kernel_rfl) (fun _ _ _ h => h) (Or.inl ⟨by rfl, ?hy155⟩) hHeld ?rest155
      case hy155 => (intro w' hSw; (try dsimp only at hSw); go_split_ands; go_simp; try with_reducible rfl)
      try simp only [Act.put, List.setIfInBounds_toArray, List.set_cons_zero, List.set_cons_succ]
      refine wpAnyH_take (i := 4) (oi := ({ dst := some 99, op := Op.load 3 (Operand.tmp 98), type := 3, pos := "laws.go:1000", after := #[{ on := 3, ground := Ground.data }], guard := none })) (v := ?v156) rfl (by kernel_rfl) (by kernel_rfl) (by kernel_rfl) (fun _ _ _ h => h) (Or.inl ⟨by rfl, ?hy156⟩) hHeld ?rest156
      case hy156 => (intro w' hSw; (try dsimp only at hSw); go_split_ands; go_simp; try with_reducible rfl)
      try simp only [Act.put, List.setIfInBounds_toArray, List.set_cons_zero, List.set_cons_succ]
      refine wpAnyH_take (i := 5) (oi := ({ dst := some 100, op := Op.move (Operand.tmp 4), type := 3, pos := "laws.go:1000", after := #[], guard := none })) (v := ?v157) rfl (by kernel_rfl) (by kernel_rfl) (by kernel_rfl) (fun _ _ _ h => h) (Or.inl ⟨by rfl, ?hy157⟩) hHeld ?rest157
      case hy157 => (intro w' hSw; (try dsimp only at hSw); go_split_ands; go_simp; try with_reducible rfl)
      try simp only [Act.put, List.setIfInBounds_toArray, List.set_cons_zero, List.set_cons_succ]
      refine wpAnyH_take (i := 6) (oi := ({ dst := some 101, op := Op.binOp BinOp.neq 3 (Operand.tmp 99) (Operand.tmp 100) 3, type := 4, pos := "laws.go:1000", after := #[{ on := 4, ground := Ground.data }, { on := 5, ground := Ground.data }], guard := none })) (v := ?v158) rfl (by kernel_rfl) (by kernel_rfl) (by kernel_rfl) (fun _ _ _ h => h) (Or.inl ⟨by rfl, ?hy158⟩) hHeld ?rest158
      case hy158 => (intro w' hSw; (try dsimp only at hSw); go_split_ands; go_simp; try with_reducible rfl)
      try simp only [Act.put, List.setIfInBounds_toArray, List.set_cons_zero, List.set_cons_succ]
      refine wpAnyH_take (i := 7) (oi := ({ dst := some 102, op := Op.move (Operand.tmp 101), type := 4, pos := "laws.go:1000", after := #[{ on := 6, ground := Ground.data }], guard := none })) (v := ?v159) rfl (by kernel_rfl) (by kernel_rfl) (by kernel_rfl) (fun _ _ _ h => h) (Or.inl ⟨by rfl, ?hy159⟩) hHeld ?rest159
      case hy159 => (intro w' hSw; (try dsimp only at hSw); go_split_ands; go_simp; try with_reducible rfl)
      try simp only [Act.put, List.setIfInBounds_toArray, List.set_cons_zero, List.set_cons_succ]
      refine wpAnyH_take (i := 8) (oi := ({ dst := some 103, op := Op.move (Operand.tmp 6), type := 43, pos := "laws.go:1000", after := #[{ on := 7, ground := Ground.guard }], guard := some (7, true) })) (v := ?v160) rfl (by kernel_rfl) (by kernel_rfl) (by kernel_rfl) (fun _ _ _ h => h) (Or.inl ⟨by rfl, ?hy160⟩) hHeld ?rest160
      case hy160 => (intro w' hSw; (try dsimp only at hSw); go_split_ands; go_simp; try with_reducible rfl)
      try simp only [Act.put, List.setIfInBounds_toArray, List.set_cons_zero, List.set_cons_succ]
      refine wpAnyH_take (i := 9) (oi := ({ dst := some 104, op := Op.move (Operand.tmp 3), type := 56, pos := "laws.go:1000", after := #[{ on := 7, ground := Ground.guard }], guard := some (7, true) })) (v := ?v161) rfl (by kernel_rfl) (by kernel_rfl) (by kernel_rfl) (fun _ _ _ h => h) (Or.inl ⟨by rfl, ?hy161⟩) hHeld ?rest161
      case hy161 => (intro w' hSw; (try dsimp only at hSw); go_split_ands; go_simp; try with_reducible rfl)
      try simp only [Act.put, List.setIfInBounds_toArray, List.set_cons_zero, List.set_cons_succ]
      refine wpAnyH_take (i := 10) (oi := ({ dst := some 105, op := Op.move (Operand.tmp 9), type := 3, pos := "laws.go:1000", after := #[{ on := 7, ground := Ground.guard }], guard := some (7, true) })) (v := ?v162) rfl (by kernel_rfl) (by kernel_rfl) (by kernel_rfl) (fun _ _ _ h => h) (Or.inl ⟨by rfl, ?hy162⟩) hHeld ?rest162
      case hy162 => (intro w' hSw; (try dsimp only at hSw); go_split_ands; go_simp; try with_reducible rfl)
      try simp only [Act.put, List.setIfInBounds_toArray, List.set_cons_zero, List.set_cons_succ]
      refine wpAnyH_take (i := 11) (oi := ({ dst := some 106, op := Op.indexAddr 56 (Operand.tmp 104) (Operand.tmp 105), type := 0, pos := "laws.go:1000", after := #[{ on := 9, ground := Ground.data }, { on := 10, ground := Ground.data }, { on := 7, ground := Ground.guard }], guard := some (7, true) })) (v := ?v163) rfl (by kernel_rfl) (by kernel_rfl) (by kernel_rfl) (fun _ _ _ h => h) (Or.inl ⟨by rfl, ?hy163⟩) hHeld ?rest163
      case hy163 => (intro w' hSw; (try dsimp only at hSw); go_split_ands; go_simp; try with_reducible rfl)
      try simp only [Act.put, List.setIfInBounds_toArray, List.set_cons_zero, List.set_cons_succ]
      refine wpAnyH_take (i := 12) (oi := ({ dst := some 107, op := Op.fieldAddr 62 (Operand.tmp 106) 0, type := 0, pos := "laws.go:1000", after := #[{ on := 11, ground := Ground.data }, { on := 7, ground := Ground.guard }], guard := some (7, true) })) (v := ?v164) rfl (by kernel_rfl) (by kernel_rfl) (by kernel_rfl) (fun _ _ _ h => h) (Or.inl ⟨by rfl, ?hy164⟩) hHeld ?rest164
      case hy164 => (intro w' hSw; (try dsimp only at hSw); go_split_ands; go_simp; try with_reducible rfl)
      try simp only [Act.put, List.setIfInBounds_toArray, List.set_cons_zero, List.set_cons_succ]
      refine wpAnyH_take (i := 13) (oi := ({ dst := some 108, op := Op.load 3 (Operand.tmp 107), type := 3, pos := "laws.go:1000", after := #[{ on := 12, ground := Ground.data }, { on := 7, ground := Ground.guard }], guard := some (7, true) })) (v := ?v165) rfl (by kernel_rfl) (by kernel_rfl) (by kernel_rfl) (fun _ _ _ h => h) (Or.inl ⟨by rfl, ?hy165⟩) hHeld ?rest165
      case hy165 => (intro w' hSw; (try dsimp only at hSw); go_split_ands; go_simp; try with_reducible rfl)
      try simp only [Act.put, List.setIfInBounds_toArray, List.set_cons_zero, List.set_cons_succ]
      refine wpAnyH_ready (rs := [14]) (by kernel_rfl) (by simp) ?_
      refine AllReadyH.cons (o := ({ dst := some 109, op := Op.call { callee := Callee.value (Operand.func 43), args := #[Operand.tmp 103, Operand.tmp 108], argTypes := #[43, 3] }, type := 4, pos := "laws.go:1000", after := #[{ on := 8, ground := Ground.data }, { on := 13, ground := Ground.data }, { on := 7, ground := Ground.chain }, { on := 7, ground := Ground.guard }], guard := some (7, true) })) rfl (fun K hK => ?_) ?_
      ·
        go_simp
        go_at_call 43; refine (HIW.out _ ((Keep.refl W0).drewN 1)).mono ?_; rintro e wA ⟨rfl, kA'⟩
        try go_wp2_with fail
        have kA : Keep W0 wA := Keep.trans ((Keep.refl W0).drewN 1) kA'
        refine hK.out _ _ (HSa _ kA) (fun hHeld => ?_)
        clear hK K
        try simp only [Act.put, List.setIfInBounds_toArray, List.set_cons_zero, List.set_cons_succ]
        refine wpAnyH_take (i := 15) (oi := ({ dst := some 110, op := Op.unOp UnOp.not 4 (Operand.tmp 109), type := 4, pos := "laws.go:1000", after := #[{ on := 14, ground := Ground.data }, { on := 7, ground := Ground.guard }], guard := some (7, true) })) (v := ?v166) rfl (by kernel_rfl) (by kernel_rfl) (by kernel_rfl) (fun _ _ _ h => h) (Or.inl ⟨by rfl, ?hy166⟩) hHeld ?rest166
        case hy166 => (intro w' hSw; (try dsimp only at hSw); go_split_ands; go_simp; try with_reducible rfl)
        try simp only [Act.put, List.setIfInBounds_toArray, List.set_cons_zero, List.set_cons_succ]
        refine wpAnyH_take (i := 16) (oi := ({ dst := some 111, op := Op.pick (Operand.tmp 102) (Operand.tmp 110) (Operand.const (Value.bool false)), type := 4, pos := "laws.go:1000", after := #[{ on := 7, ground := Ground.data }, { on := 15, ground := Ground.data }], guard := none })) (v := ?v167) rfl (by kernel_rfl) (by kernel_rfl) (by kernel_rfl) (fun _ _ _ h => h) (Or.inl ⟨by rfl, ?hy167⟩) hHeld ?rest167
        case hy167 => (intro w' hSw; (try dsimp only at hSw); go_split_ands; go_simp; try with_reducible rfl)
        try simp only [Act.put, List.setIfInBounds_toArray, List.set_cons_zero, List.set_cons_succ]
        refine wpAnyH_take (i := 17) (oi := ({ dst := some 112, op := Op.move (Operand.tmp 111), type := 4, pos := "laws.go:1000", after := #[{ on := 16, ground := Ground.data }, { on := 14, ground := Ground.chain }], guard := none })) (v := ?v168) rfl (by kernel_rfl) (by kernel_rfl) (by kernel_rfl) (fun _ _ _ h => h) (Or.inl ⟨by rfl, ?hy168⟩) hHeld ?rest168
        case hy168 => (intro w' hSw; (try dsimp only at hSw); go_split_ands; go_simp; try with_reducible rfl)
        try simp only [Act.put, List.setIfInBounds_toArray, List.set_cons_zero, List.set_cons_succ]
        refine wpAnyH_take (i := 18) (oi := ({ dst := some 113, op := Op.move (Operand.tmp 3), type := 56, pos := "laws.go:1000", after := #[{ on := 17, ground := Ground.guard }], guard := some (17, true) })) (v := undef) rfl (by kernel_rfl) (by kernel_rfl) (by kernel_rfl) (fun _ _ _ h => h) (Or.inr ⟨by first | kernel_rfl | rfl, rfl⟩) hHeld ?rest169
        try simp only [Act.put, List.setIfInBounds_toArray, List.set_cons_zero, List.set_cons_succ]
        refine wpAnyH_take (i := 19) (oi := ({ dst := some 114, op := Op.move (Operand.tmp 9), type := 3, pos := "laws.go:1000", after := #[{ on := 17, ground := Ground.guard }], guard := some (17, true) })) (v := undef) rfl (by kernel_rfl) (by kernel_rfl) (by kernel_rfl) (fun _ _ _ h => h) (Or.inr ⟨by first | kernel_rfl | rfl, rfl⟩) hHeld ?rest170
        try simp only [Act.put, List.setIfInBounds_toArray, List.set_cons_zero, List.set_cons_succ]
        refine wpAnyH_take (i := 20) (oi := ({ dst := some 115, op := Op.indexAddr 56 (Operand.tmp 113) (Operand.tmp 114), type := 0, pos := "laws.go:1000", after := #[{ on := 18, ground := Ground.data }, { on := 19, ground := Ground.data }, { on := 17, ground := Ground.guard }], guard := some (17, true) })) (v := undef) rfl (by kernel_rfl) (by kernel_rfl) (by kernel_rfl) (fun _ _ _ h => h) (Or.inr ⟨by first | kernel_rfl | rfl, rfl⟩) hHeld ?rest171
        try simp only [Act.put, List.setIfInBounds_toArray, List.set_cons_zero, List.set_cons_succ]
        refine wpAnyH_take (i := 21) (oi := ({ dst := some 116, op := Op.load 62 (Operand.tmp 115), type := 62, pos := "laws.go:1000", after := #[{ on := 20, ground := Ground.data }, { on := 17, ground := Ground.guard }], guard := some (17, true) })) (v := undef) rfl (by kernel_rfl) (by kernel_rfl) (by kernel_rfl) (fun _ _ _ h => h) (Or.inr ⟨by first | kernel_rfl | rfl, rfl⟩) hHeld ?rest172
        try simp only [Act.put, List.setIfInBounds_toArray, List.set_cons_zero, List.set_cons_succ]
        refine wpAnyH_take (i := 22) (oi := ({ dst := some 117, op := Op.load 62 (Operand.tmp 8), type := 62, pos := "laws.go:1000", after := #[{ on := 17, ground := Ground.guard }], guard := some (17, true) })) (v := undef) rfl (by kernel_rfl) (by kernel_rfl) (by kernel_rfl) (fun _ _ _ h => h) (Or.inr ⟨by first | kernel_rfl | rfl, rfl⟩) hHeld ?rest173
        try simp only [Act.put, List.setIfInBounds_toArray, List.set_cons_zero, List.set_cons_succ]
        refine wpAnyH_take (i := 23) (oi := ({ dst := some 118, op := Op.call { callee := Callee.value (Operand.func 48), args := #[Operand.tmp 116, Operand.tmp 117], argTypes := #[62, 62] }, type := 3, pos := "laws.go:1000", after := #[{ on := 21, ground := Ground.data }, { on := 22, ground := Ground.data }, { on := 17, ground := Ground.chain }, { on := 17, ground := Ground.guard }], guard := some (17, true) })) (v := undef) rfl (by kernel_rfl) (by kernel_rfl) (by kernel_rfl) (fun _ _ _ h => h) (Or.inr ⟨by first | kernel_rfl | rfl, rfl⟩) hHeld ?rest174
        try simp only [Act.put, List.setIfInBounds_toArray, List.set_cons_zero, List.set_cons_succ]
        refine wpAnyH_take (i := 24) (oi := ({ dst := some 119, op := Op.load 62 (Operand.tmp 10), type := 62, pos := "laws.go:1000", after := #[{ on := 17, ground := Ground.guard }], guard := some (17, true) })) (v := undef) rfl (by kernel_rfl) (by kernel_rfl) (by kernel_rfl) (fun _ _ _ h => h) (Or.inr ⟨by first | kernel_rfl | rfl, rfl⟩) hHeld ?rest175
        try simp only [Act.put, List.setIfInBounds_toArray, List.set_cons_zero, List.set_cons_succ]
        refine wpAnyH_take (i := 25) (oi := ({ dst := some 120, op := Op.load 62 (Operand.tmp 8), type := 62, pos := "laws.go:1000", after := #[{ on := 17, ground := Ground.guard }], guard := some (17, true) })) (v := undef) rfl (by kernel_rfl) (by kernel_rfl) (by kernel_rfl) (fun _ _ _ h => h) (Or.inr ⟨by first | kernel_rfl | rfl, rfl⟩) hHeld ?rest176
        try simp only [Act.put, List.setIfInBounds_toArray, List.set_cons_zero, List.set_cons_succ]
        refine wpAnyH_take (i := 26) (oi := ({ dst := some 121, op := Op.call { callee := Callee.value (Operand.func 48), args := #[Operand.tmp 119, Operand.tmp 120], argTypes := #[62, 62] }, type := 3, pos := "laws.go:1000", after := #[{ on := 24, ground := Ground.data }, { on := 25, ground := Ground.data }, { on := 23, ground := Ground.chain }, { on := 17, ground := Ground.guard }], guard := some (17, true) })) (v := undef) rfl (by kernel_rfl) (by kernel_rfl) (by kernel_rfl) (fun _ _ _ h => h) (Or.inr ⟨by first | kernel_rfl | rfl, rfl⟩) hHeld ?rest177
        try simp only [Act.put, List.setIfInBounds_toArray, List.set_cons_zero, List.set_cons_succ]
        refine wpAnyH_take (i := 27) (oi := ({ dst := some 122, op := Op.binOp BinOp.lss 3 (Operand.tmp 118) (Operand.tmp 121) 3, type := 4, pos := "laws.go:1000", after := #[{ on := 23, ground := Ground.data }, { on := 26, ground := Ground.data }, { on := 17, ground := Ground.guard }], guard := some (17, true) })) (v := undef) rfl (by kernel_rfl) (by kernel_rfl) (by kernel_rfl) (fun _ _ _ h => h) (Or.inr ⟨by first | kernel_rfl | rfl, rfl⟩) hHeld ?rest178
        try simp only [Act.put, List.setIfInBounds_toArray, List.set_cons_zero, List.set_cons_succ]
        refine wpAnyH_take (i := 28) (oi := ({ dst := some 123, op := Op.move (Operand.tmp 122), type := 4, pos := "laws.go:1000", after := #[{ on := 27, ground := Ground.data }, { on := 26, ground := Ground.chain }, { on := 17, ground := Ground.guard }], guard := some (17, true) })) (v := undef) rfl (by kernel_rfl) (by kernel_rfl) (by kernel_rfl) (fun _ _ _ h => h) (Or.inr ⟨by first | kernel_rfl | rfl, rfl⟩) hHeld ?rest179
        try simp only [Act.put, List.setIfInBounds_toArray, List.set_cons_zero, List.set_cons_succ]
        refine wpAnyH_take (i := 29) (oi := ({ dst := some 124, op := Op.move (Operand.tmp 3), type := 56, pos := "laws.go:1000", after := #[{ on := 28, ground := Ground.guard }], guard := some (28, false) })) (v := undef) rfl (by kernel_rfl) (by kernel_rfl) (by kernel_rfl) (fun _ _ _ h => h) (Or.inr ⟨by first | kernel_rfl | rfl, rfl⟩) hHeld ?rest180
        try simp only [Act.put, List.setIfInBounds_toArray, List.set_cons_zero, List.set_cons_succ]
        refine wpAnyH_take (i := 30) (oi := ({ dst := some 125, op := Op.move (Operand.tmp 9), type := 3, pos := "laws.go:1000", after := #[{ on := 28, ground := Ground.guard }], guard := some (28, false) })) (v := undef) rfl (by kernel_rfl) (by kernel_rfl) (by kernel_rfl) (fun _ _ _ h => h) (Or.inr ⟨by first | kernel_rfl | rfl, rfl⟩) hHeld ?rest181
        try simp only [Act.put, List.setIfInBounds_toArray, List.set_cons_zero, List.set_cons_succ]
        refine wpAnyH_take (i := 31) (oi := ({ dst := some 126, op := Op.indexAddr 56 (Operand.tmp 124) (Operand.tmp 125), type := 0, pos := "laws.go:1000", after := #[{ on := 29, ground := Ground.data }, { on := 30, ground := Ground.data }, { on := 28, ground := Ground.guard }], guard := some (28, false) })) (v := undef) rfl (by kernel_rfl) (by kernel_rfl) (by kernel_rfl) (fun _ _ _ h => h) (Or.inr ⟨by first | kernel_rfl | rfl, rfl⟩) hHeld ?rest182
        try simp only [Act.put, List.setIfInBounds_toArray, List.set_cons_zero, List.set_cons_succ]
        refine wpAnyH_take (i := 32) (oi := ({ dst := some 127, op := Op.load 62 (Operand.tmp 126), type := 62, pos := "laws.go:1000", after := #[{ on := 31, ground := Ground.data }, { on := 28, ground := Ground.guard }], guard := some (28, false) })) (v := undef) rfl (by kernel_rfl) (by kernel_rfl) (by kernel_rfl) (fun _ _ _ h => h) (Or.inr ⟨by first | kernel_rfl | rfl, rfl⟩) hHeld ?rest183
        try simp only [Act.put, List.setIfInBounds_toArray, List.set_cons_zero, List.set_cons_succ]
        refine wpAnyH_take (i := 33) (oi := ({ dst := some 128, op := Op.load 62 (Operand.tmp 8), type := 62, pos := "laws.go:1000", after := #[{ on := 28, ground := Ground.guard }], guard := some (28, false) })) (v := undef) rfl (by kernel_rfl) (by kernel_rfl) (by kernel_rfl) (fun _ _ _ h => h) (Or.inr ⟨by first | kernel_rfl | rfl, rfl⟩) hHeld ?rest184
        try simp only [Act.put, List.setIfInBounds_toArray, List.set_cons_zero, List.set_cons_succ]
        refine wpAnyH_take (i := 34) (oi := ({ dst := some 129, op := Op.call { callee := Callee.value (Operand.func 48), args := #[Operand.tmp 127, Operand.tmp 128], argTypes := #[62, 62] }, type := 3, pos := "laws.go:1000", after := #[{ on := 32, ground := Ground.data }, { on := 33, ground := Ground.data }, { on := 28, ground := Ground.chain }, { on := 28, ground := Ground.guard }], guard := some (28, false) })) (v := undef) rfl (by kernel_rfl) (by kernel_rfl) (by kernel_rfl) (fun _ _ _ h => h) (Or.inr ⟨by first | kernel_rfl | rfl, rfl⟩) hHeld ?rest185
        try simp only [Act.put, List.setIfInBounds_toArray, List.set_cons_zero, List.set_cons_succ]
        refine wpAnyH_take (i := 35) (oi := ({ dst := some 130, op := Op.load 62 (Operand.tmp 10), type := 62, pos := "laws.go:1000", after := #[{ on := 28, ground := Ground.guard }], guard := some (28, false) })) (v := undef) rfl (by kernel_rfl) (by kernel_rfl) (by kernel_rfl) (fun _ _ _ h => h) (Or.inr ⟨by first | kernel_rfl | rfl, rfl⟩) hHeld ?rest186
        try simp only [Act.put, List.setIfInBounds_toArray, List.set_cons_zero, List.set_cons_succ]
        refine wpAnyH_take (i := 36) (oi := ({ dst := some 131, op := Op.load 62 (Operand.tmp 8), type := 62, pos := "laws.go:1000", after := #[{ on := 28, ground := Ground.guard }], guard := some (28, false) })) (v := undef) rfl (by kernel_rfl) (by kernel_rfl) (by kernel_rfl) (fun _ _ _ h => h) (Or.inr ⟨by first | kernel_rfl | rfl, rfl⟩) hHeld ?rest187
        try simp only [Act.put, List.setIfInBounds_toArray, List.set_cons_zero, List.set_cons_succ]
        refine wpAnyH_take (i := 37) (oi := ({ dst := some 132, op := Op.call { callee := Callee.value (Operand.func 48), args := #[Operand.tmp 130, Operand.tmp 131], argTypes := #[62, 62] }, type := 3, pos := "laws.go:1000", after := #[{ on := 35, ground := Ground.data }, { on := 36, ground := Ground.data }, { on := 34, ground := Ground.chain }, { on := 28, ground := Ground.guard }], guard := some (28, false) })) (v := undef) rfl (by kernel_rfl) (by kernel_rfl) (by kernel_rfl) (fun _ _ _ h => h) (Or.inr ⟨by first | kernel_rfl | rfl, rfl⟩) hHeld ?rest188
        try simp only [Act.put, List.setIfInBounds_toArray, List.set_cons_zero, List.set_cons_succ]
        refine wpAnyH_take (i := 38) (oi := ({ dst := some 133, op := Op.binOp BinOp.eql 3 (Operand.tmp 129) (Operand.tmp 132) 3, type := 4, pos := "laws.go:1000", after := #[{ on := 34, ground := Ground.data }, { on := 37, ground := Ground.data }, { on := 28, ground := Ground.guard }], guard := some (28, false) })) (v := undef) rfl (by kernel_rfl) (by kernel_rfl) (by kernel_rfl) (fun _ _ _ h => h) (Or.inr ⟨by first | kernel_rfl | rfl, rfl⟩) hHeld ?rest189
        try simp only [Act.put, List.setIfInBounds_toArray, List.set_cons_zero, List.set_cons_succ]
        refine wpAnyH_take (i := 39) (oi := ({ dst := some 134, op := Op.move (Operand.tmp 133), type := 4, pos := "laws.go:1000", after := #[{ on := 38, ground := Ground.data }, { on := 37, ground := Ground.chain }, { on := 28, ground := Ground.guard }], guard := some (28, false) })) (v := undef) rfl (by kernel_rfl) (by kernel_rfl) (by kernel_rfl) (fun _ _ _ h => h) (Or.inr ⟨by first | kernel_rfl | rfl, rfl⟩) hHeld ?rest190
        try simp only [Act.put, List.setIfInBounds_toArray, List.set_cons_zero, List.set_cons_succ]
        refine wpAnyH_take (i := 40) (oi := ({ dst := some 135, op := Op.move (Operand.tmp 3), type := 56, pos := "laws.go:1000", after := #[{ on := 39, ground := Ground.guard }], guard := some (39, true) })) (v := undef) rfl (by kernel_rfl) (by kernel_rfl) (by kernel_rfl) (fun _ _ _ h => h) (Or.inr ⟨by first | kernel_rfl | rfl, rfl⟩) hHeld ?rest191
        try simp only [Act.put, List.setIfInBounds_toArray, List.set_cons_zero, List.set_cons_succ]
        refine wpAnyH_take (i := 41) (oi := ({ dst := some 136, op := Op.move (Operand.tmp 9), type := 3, pos := "laws.go:1000", after := #[{ on := 39, ground := Ground.guard }], guard := some (39, true) })) (v := undef) rfl (by kernel_rfl) (by kernel_rfl) (by kernel_rfl) (fun _ _ _ h => h) (Or.inr ⟨by first | kernel_rfl | rfl, rfl⟩) hHeld ?rest192
        try simp only [Act.put, List.setIfInBounds_toArray, List.set_cons_zero, List.set_cons_succ]
        refine wpAnyH_take (i := 42) (oi := ({ dst := some 137, op := Op.indexAddr 56 (Operand.tmp 135) (Operand.tmp 136), type := 0, pos := "laws.go:1000", after := #[{ on := 40, ground := Ground.data }, { on := 41, ground := Ground.data }, { on := 39, ground := Ground.guard }], guard := some (39, true) })) (v := undef) rfl (by kernel_rfl) (by kernel_rfl) (by kernel_rfl) (fun _ _ _ h => h) (Or.inr ⟨by first | kernel_rfl | rfl, rfl⟩) hHeld ?rest193
        try simp only [Act.put, List.setIfInBounds_toArray, List.set_cons_zero, List.set_cons_succ]
        refine wpAnyH_take (i := 43) (oi := ({ dst := some 138, op := Op.fieldAddr 62 (Operand.tmp 137) 0, type := 0, pos := "laws.go:1000", after := #[{ on := 42, ground := Ground.data }, { on := 39, ground := Ground.guard }], guard := some (39, true) })) (v := undef) rfl (by kernel_rfl) (by kernel_rfl) (by kernel_rfl) (fun _ _ _ h => h) (Or.inr ⟨by first | kernel_rfl | rfl, rfl⟩) hHeld ?rest194
        try simp only [Act.put, List.setIfInBounds_toArray, List.set_cons_zero, List.set_cons_succ]
        refine wpAnyH_take (i := 44) (oi := ({ dst := some 139, op := Op.load 3 (Operand.tmp 138), type := 3, pos := "laws.go:1000", after := #[{ on := 43, ground := Ground.data }, { on := 39, ground := Ground.guard }], guard := some (39, true) })) (v := undef) rfl (by kernel_rfl) (by kernel_rfl) (by kernel_rfl) (fun _ _ _ h => h) (Or.inr ⟨by first | kernel_rfl | rfl, rfl⟩) hHeld ?rest195
        try simp only [Act.put, List.setIfInBounds_toArray, List.set_cons_zero, List.set_cons_succ]
        refine wpAnyH_take (i := 45) (oi := ({ dst := some 140, op := Op.fieldAddr 62 (Operand.tmp 10) 0, type := 0, pos := "laws.go:1000", after := #[{ on := 39, ground := Ground.guard }], guard := some (39, true) })) (v := undef) rfl (by kernel_rfl) (by kernel_rfl) (by kernel_rfl) (fun _ _ _ h => h) (Or.inr ⟨by first | kernel_rfl | rfl, rfl⟩) hHeld ?rest196
        try simp only [Act.put, List.setIfInBounds_toArray, List.set_cons_zero, List.set_cons_succ]
        refine wpAnyH_take (i := 46) (oi := ({ dst := some 141, op := Op.load 3 (Operand.tmp 140), type := 3, pos := "laws.go:1000", after := #[{ on := 45, ground := Ground.data }, { on := 39, ground := Ground.guard }], guard := some (39, true) })) (v := undef) rfl (by kernel_rfl) (by kernel_rfl) (by kernel_rfl) (fun _ _ _ h => h) (Or.inr ⟨by first | kernel_rfl | rfl, rfl⟩) hHeld ?rest197
        try simp only [Act.put, List.setIfInBounds_toArray, List.set_cons_zero, List.set_cons_succ]
        refine wpAnyH_take (i := 47) (oi := ({ dst := some 142, op := Op.binOp BinOp.lss 3 (Operand.tmp 139) (Operand.tmp 141) 3, type := 4, pos := "laws.go:1000", after := #[{ on := 44, ground := Ground.data }, { on := 46, ground := Ground.data }, { on := 39, ground := Ground.guard }], guard := some (39, true) })) (v := undef) rfl (by kernel_rfl) (by kernel_rfl) (by kernel_rfl) (fun _ _ _ h => h) (Or.inr ⟨by first | kernel_rfl | rfl, rfl⟩) hHeld ?rest198
        try simp only [Act.put, List.setIfInBounds_toArray, List.set_cons_zero, List.set_cons_succ]
        refine wpAnyH_take (i := 48) (oi := ({ dst := some 143, op := Op.pick (Operand.tmp 134) (Operand.tmp 142) (Operand.const (Value.bool false)), type := 4, pos := "laws.go:1000", after := #[{ on := 39, ground := Ground.data }, { on := 47, ground := Ground.data }, { on := 28, ground := Ground.guard }], guard := some (28, false) })) (v := undef) rfl (by kernel_rfl) (by kernel_rfl) (by kernel_rfl) (fun _ _ _ h => h) (Or.inr ⟨by first | kernel_rfl | rfl, rfl⟩) hHeld ?rest199
        try simp only [Act.put, List.setIfInBounds_toArray, List.set_cons_zero, List.set_cons_succ]
        refine wpAnyH_take (i := 49) (oi := ({ dst := some 144, op := Op.pick (Operand.tmp 123) (Operand.const (Value.bool true)) (Operand.tmp 143), type := 4, pos := "laws.go:1000", after := #[{ on := 28, ground := Ground.data }, { on := 48, ground := Ground.data }, { on := 17, ground := Ground.guard }], guard := some (17, true) })) (v := undef) rfl (by kernel_rfl) (by kernel_rfl) (by kernel_rfl) (fun _ _ _ h => h) (Or.inr ⟨by first | kernel_rfl | rfl, rfl⟩) hHeld ?rest200
        try simp only [Act.put, List.setIfInBounds_toArray, List.set_cons_zero, List.set_cons_succ]
        refine wpAnyH_take (i := 50) (oi := ({ dst := some 145, op := Op.pick (Operand.tmp 112) (Operand.tmp 144) (Operand.const (Value.bool false)), type := 4, pos := "laws.go:1000", after := #[{ on := 17, ground := Ground.data }, { on := 49, ground := Ground.data }], guard := none })) (v := ?v201) rfl (by kernel_rfl) (by kernel_rfl) (by kernel_rfl) (fun _ _ _ h => h) (Or.inl ⟨by rfl, ?hy201⟩) hHeld ?rest201
        case hy201 => (intro w' hSw; (try dsimp only at hSw); go_split_ands; go_simp; try with_reducible rfl)
        try simp only [Act.put, List.setIfInBounds_toArray, List.set_cons_zero, List.set_cons_succ]
        refine wpAnyH_done (by kernel_rfl) ?_ _
        go_wp2
        rw [← HBH.out]
        go_roundw
        case rel => exact ⟨k + 1, by omega, by go_num, KKW.out.trans kA⟩
        case measure => simp [intOf]; omega
      exact AllReadyH.nil
    rw [decide_eq_false hmem] at HIW
    obtain ⟨n1, n2⟩ := HIN.out hst2 hmem
    have n1d : decide (fr < fl) = false := decide_eq_false (by omega)
    clear HIN hst2 hmem
    by_cases heq : fr = fl
    · have n3 := n2 heq
      have n3d : decide (rs < ls) = false := decide_eq_false (by omega)
      subst heq
      have n4 : (fr == fr) = true := by simp
      clear n2
      refine wp_region_held_drew (S := (fun w' => Keep W0 w' ∧ w'.cell? ⟨g0, k * 3, none⟩ = some (.int .i64 rs) ∧ w'.cell? ⟨g0, k * 3 + 1, none⟩ = some (.int .i64 rx) ∧ w'.cell? ⟨g0, k * 3 + 2, none⟩ = some (.int .i64 ry) ∧ w'.cell? ⟨bh, 0, none⟩ = some (.int .i64 st) ∧ w'.cell? ⟨bh, 1, none⟩ = some (.int .i64 cx) ∧ w'.cell? ⟨bh, 2, none⟩ = some (.int .i64 cy) ∧ w'.cell? ⟨bl, 0, none⟩ = some (.int .i64 ls) ∧ w'.cell? ⟨bl, 1, none⟩ = some (.int .i64 lx) ∧ w'.cell? ⟨bl, 2, none⟩ = some (.int .i64 ly))) (by kernel_rfl) (HSa _ ((Keep.refl W0).drewN 1)) (fun hHeld => ?_)
      refine wpAnyH_take (i := 0) (oi := ({ dst := some 95, op := Op.move (Operand.tmp 3), type := 56, pos := "laws.go:1000", after := #[], guard := none })) (v := ?v202) rfl (by kernel_rfl) (by kernel_rfl) (by kernel_rfl) (fun _ _ _ h => h) (Or.inl ⟨by rfl, ?hy202⟩) hHeld ?rest202
      case hy202 => (intro w' hSw; (try dsimp only at hSw); go_split_ands; go_simp; try with_reducible rfl)
      try simp only [Act.put, List.setIfInBounds_toArray, List.set_cons_zero, List.set_cons_succ]
      refine wpAnyH_take (i := 1) (oi := ({ dst := some 96, op := Op.move (Operand.tmp 9), type := 3, pos := "laws.go:1000", after := #[], guard := none })) (v := ?v203) rfl (by kernel_rfl) (by kernel_rfl) (by kernel_rfl) (fun _ _ _ h => h) (Or.inl ⟨by rfl, ?hy203⟩) hHeld ?rest203
      case hy203 => (intro w' hSw; (try dsimp only at hSw); go_split_ands; go_simp; try with_reducible rfl)
      try simp only [Act.put, List.setIfInBounds_toArray, List.set_cons_zero, List.set_cons_succ]
      refine wpAnyH_take (i := 2) (oi := ({ dst := some 97, op := Op.indexAddr 56 (Operand.tmp 95) (Operand.tmp 96), type := 0, pos := "laws.go:1000", after := #[{ on := 0, ground := Ground.data }, { on := 1, ground := Ground.data }], guard := none })) (v := ?v204) rfl (by kernel_rfl) (by kernel_rfl) (by kernel_rfl) (fun _ _ _ h => h) (Or.inl ⟨by rfl, ?hy204⟩) hHeld ?rest204
      case hy204 => (intro w' hSw; (try dsimp only at hSw); go_split_ands; go_simp; try with_reducible rfl)
      try simp only [Act.put, List.setIfInBounds_toArray, List.set_cons_zero, List.set_cons_succ]
      refine wpAnyH_take (i := 3) (oi := ({ dst := some 98, op := Op.fieldAddr 62 (Operand.tmp 97) 0, type := 0, pos := "laws.go:1000", after := #[{ on := 2, ground := Ground.data }], guard := none })) (v := ?v205) rfl (by kernel_rfl) (by kernel_rfl) (by kernel_rfl) (fun _ _ _ h => h) (Or.inl ⟨by rfl, ?hy205⟩) hHeld ?rest205
      case hy205 => (intro w' hSw; (try dsimp only at hSw); go_split_ands; go_simp; try with_reducible rfl)
      try simp only [Act.put, List.setIfInBounds_toArray, List.set_cons_zero, List.set_cons_succ]
      refine wpAnyH_take (i := 4) (oi := ({ dst := some 99, op := Op.load 3 (Operand.tmp 98), type := 3, pos := "laws.go:1000", after := #[{ on := 3, ground := Ground.data }], guard := none })) (v := ?v206) rfl (by kernel_rfl) (by kernel_rfl) (by kernel_rfl) (fun _ _ _ h => h) (Or.inl ⟨by rfl, ?hy206⟩) hHeld ?rest206
      case hy206 => (intro w' hSw; (try dsimp only at hSw); go_split_ands; go_simp; try with_reducible rfl)
      try simp only [Act.put, List.setIfInBounds_toArray, List.set_cons_zero, List.set_cons_succ]
      refine wpAnyH_take (i := 5) (oi := ({ dst := some 100, op := Op.move (Operand.tmp 4), type := 3, pos := "laws.go:1000", after := #[], guard := none })) (v := ?v207) rfl (by kernel_rfl) (by kernel_rfl) (by kernel_rfl) (fun _ _ _ h => h) (Or.inl ⟨by rfl, ?hy207⟩) hHeld ?rest207
      case hy207 => (intro w' hSw; (try dsimp only at hSw); go_split_ands; go_simp; try with_reducible rfl)
      try simp only [Act.put, List.setIfInBounds_toArray, List.set_cons_zero, List.set_cons_succ]
      refine wpAnyH_take (i := 6) (oi := ({ dst := some 101, op := Op.binOp BinOp.neq 3 (Operand.tmp 99) (Operand.tmp 100) 3, type := 4, pos := "laws.go:1000", after := #[{ on := 4, ground := Ground.data }, { on := 5, ground := Ground.data }], guard := none })) (v := ?v208) rfl (by kernel_rfl) (by kernel_rfl) (by kernel_rfl) (fun _ _ _ h => h) (Or.inl ⟨by rfl, ?hy208⟩) hHeld ?rest208
      case hy208 => (intro w' hSw; (try dsimp only at hSw); go_split_ands; go_simp; try with_reducible rfl)
      try simp only [Act.put, List.setIfInBounds_toArray, List.set_cons_zero, List.set_cons_succ]
      refine wpAnyH_take (i := 7) (oi := ({ dst := some 102, op := Op.move (Operand.tmp 101), type := 4, pos := "laws.go:1000", after := #[{ on := 6, ground := Ground.data }], guard := none })) (v := ?v209) rfl (by kernel_rfl) (by kernel_rfl) (by kernel_rfl) (fun _ _ _ h => h) (Or.inl ⟨by rfl, ?hy209⟩) hHeld ?rest209
      case hy209 => (intro w' hSw; (try dsimp only at hSw); go_split_ands; go_simp; try with_reducible rfl)
      try simp only [Act.put, List.setIfInBounds_toArray, List.set_cons_zero, List.set_cons_succ]
      refine wpAnyH_take (i := 8) (oi := ({ dst := some 103, op := Op.move (Operand.tmp 6), type := 43, pos := "laws.go:1000", after := #[{ on := 7, ground := Ground.guard }], guard := some (7, true) })) (v := ?v210) rfl (by kernel_rfl) (by kernel_rfl) (by kernel_rfl) (fun _ _ _ h => h) (Or.inl ⟨by rfl, ?hy210⟩) hHeld ?rest210
      case hy210 => (intro w' hSw; (try dsimp only at hSw); go_split_ands; go_simp; try with_reducible rfl)
      try simp only [Act.put, List.setIfInBounds_toArray, List.set_cons_zero, List.set_cons_succ]
      refine wpAnyH_take (i := 9) (oi := ({ dst := some 104, op := Op.move (Operand.tmp 3), type := 56, pos := "laws.go:1000", after := #[{ on := 7, ground := Ground.guard }], guard := some (7, true) })) (v := ?v211) rfl (by kernel_rfl) (by kernel_rfl) (by kernel_rfl) (fun _ _ _ h => h) (Or.inl ⟨by rfl, ?hy211⟩) hHeld ?rest211
      case hy211 => (intro w' hSw; (try dsimp only at hSw); go_split_ands; go_simp; try with_reducible rfl)
      try simp only [Act.put, List.setIfInBounds_toArray, List.set_cons_zero, List.set_cons_succ]
      refine wpAnyH_take (i := 10) (oi := ({ dst := some 105, op := Op.move (Operand.tmp 9), type := 3, pos := "laws.go:1000", after := #[{ on := 7, ground := Ground.guard }], guard := some (7, true) })) (v := ?v212) rfl (by kernel_rfl) (by kernel_rfl) (by kernel_rfl) (fun _ _ _ h => h) (Or.inl ⟨by rfl, ?hy212⟩) hHeld ?rest212
      case hy212 => (intro w' hSw; (try dsimp only at hSw); go_split_ands; go_simp; try with_reducible rfl)
      try simp only [Act.put, List.setIfInBounds_toArray, List.set_cons_zero, List.set_cons_succ]
      refine wpAnyH_take (i := 11) (oi := ({ dst := some 106, op := Op.indexAddr 56 (Operand.tmp 104) (Operand.tmp 105), type := 0, pos := "laws.go:1000", after := #[{ on := 9, ground := Ground.data }, { on := 10, ground := Ground.data }, { on := 7, ground := Ground.guard }], guard := some (7, true) })) (v := ?v213) rfl (by kernel_rfl) (by kernel_rfl) (by kernel_rfl) (fun _ _ _ h => h) (Or.inl ⟨by rfl, ?hy213⟩) hHeld ?rest213
      case hy213 => (intro w' hSw; (try dsimp only at hSw); go_split_ands; go_simp; try with_reducible rfl)
      try simp only [Act.put, List.setIfInBounds_toArray, List.set_cons_zero, List.set_cons_succ]
      refine wpAnyH_take (i := 12) (oi := ({ dst := some 107, op := Op.fieldAddr 62 (Operand.tmp 106) 0, type := 0, pos := "laws.go:1000", after := #[{ on := 11, ground := Ground.data }, { on := 7, ground := Ground.guard }], guard := some (7, true) })) (v := ?v214) rfl (by kernel_rfl) (by kernel_rfl) (by kernel_rfl) (fun _ _ _ h => h) (Or.inl ⟨by rfl, ?hy214⟩) hHeld ?rest214
      case hy214 => (intro w' hSw; (try dsimp only at hSw); go_split_ands; go_simp; try with_reducible rfl)
      try simp only [Act.put, List.setIfInBounds_toArray, List.set_cons_zero, List.set_cons_succ]
      refine wpAnyH_take (i := 13) (oi := ({ dst := some 108, op := Op.load 3 (Operand.tmp 107), type := 3, pos := "laws.go:1000", after := #[{ on := 12, ground := Ground.data }, { on := 7, ground := Ground.guard }], guard := some (7, true) })) (v := ?v215) rfl (by kernel_rfl) (by kernel_rfl) (by kernel_rfl) (fun _ _ _ h => h) (Or.inl ⟨by rfl, ?hy215⟩) hHeld ?rest215
      case hy215 => (intro w' hSw; (try dsimp only at hSw); go_split_ands; go_simp; try with_reducible rfl)
      try simp only [Act.put, List.setIfInBounds_toArray, List.set_cons_zero, List.set_cons_succ]
      refine wpAnyH_ready (rs := [14]) (by kernel_rfl) (by simp) ?_
      refine AllReadyH.cons (o := ({ dst := some 109, op := Op.call { callee := Callee.value (Operand.func 43), args := #[Operand.tmp 103, Operand.tmp 108], argTypes := #[43, 3] }, type := 4, pos := "laws.go:1000", after := #[{ on := 8, ground := Ground.data }, { on := 13, ground := Ground.data }, { on := 7, ground := Ground.chain }, { on := 7, ground := Ground.guard }], guard := some (7, true) })) rfl (fun K hK => ?_) ?_
      ·
        go_simp
        go_at_call 43; refine (HIW.out _ ((Keep.refl W0).drewN 1)).mono ?_; rintro e wA ⟨rfl, kA'⟩
        try go_wp2_with fail
        have kA : Keep W0 wA := Keep.trans ((Keep.refl W0).drewN 1) kA'
        refine hK.out _ _ (HSa _ kA) (fun hHeld => ?_)
        clear hK K
        try simp only [Act.put, List.setIfInBounds_toArray, List.set_cons_zero, List.set_cons_succ]
        refine wpAnyH_take (i := 15) (oi := ({ dst := some 110, op := Op.unOp UnOp.not 4 (Operand.tmp 109), type := 4, pos := "laws.go:1000", after := #[{ on := 14, ground := Ground.data }, { on := 7, ground := Ground.guard }], guard := some (7, true) })) (v := ?v216) rfl (by kernel_rfl) (by kernel_rfl) (by kernel_rfl) (fun _ _ _ h => h) (Or.inl ⟨by rfl, ?hy216⟩) hHeld ?rest216
        case hy216 => (intro w' hSw; (try dsimp only at hSw); go_split_ands; go_simp; try with_reducible rfl)
        try simp only [Act.put, List.setIfInBounds_toArray, List.set_cons_zero, List.set_cons_succ]
        refine wpAnyH_take (i := 16) (oi := ({ dst := some 111, op := Op.pick (Operand.tmp 102) (Operand.tmp 110) (Operand.const (Value.bool false)), type := 4, pos := "laws.go:1000", after := #[{ on := 7, ground := Ground.data }, { on := 15, ground := Ground.data }], guard := none })) (v := ?v217) rfl (by kernel_rfl) (by kernel_rfl) (by kernel_rfl) (fun _ _ _ h => h) (Or.inl ⟨by rfl, ?hy217⟩) hHeld ?rest217
        case hy217 => (intro w' hSw; (try dsimp only at hSw); go_split_ands; go_simp; try with_reducible rfl)
        try simp only [Act.put, List.setIfInBounds_toArray, List.set_cons_zero, List.set_cons_succ]
        refine wpAnyH_take (i := 17) (oi := ({ dst := some 112, op := Op.move (Operand.tmp 111), type := 4, pos := "laws.go:1000", after := #[{ on := 16, ground := Ground.data }, { on := 14, ground := Ground.chain }], guard := none })) (v := ?v218) rfl (by kernel_rfl) (by kernel_rfl) (by kernel_rfl) (fun _ _ _ h => h) (Or.inl ⟨by rfl, ?hy218⟩) hHeld ?rest218
        case hy218 => (intro w' hSw; (try dsimp only at hSw); go_split_ands; go_simp; try with_reducible rfl)
        try simp only [Act.put, List.setIfInBounds_toArray, List.set_cons_zero, List.set_cons_succ]
        refine wpAnyH_take (i := 18) (oi := ({ dst := some 113, op := Op.move (Operand.tmp 3), type := 56, pos := "laws.go:1000", after := #[{ on := 17, ground := Ground.guard }], guard := some (17, true) })) (v := ?v219) rfl (by kernel_rfl) (by kernel_rfl) (by kernel_rfl) (fun _ _ _ h => h) (Or.inl ⟨by rfl, ?hy219⟩) hHeld ?rest219
        case hy219 => (intro w' hSw; (try dsimp only at hSw); go_split_ands; go_simp; try with_reducible rfl)
        try simp only [Act.put, List.setIfInBounds_toArray, List.set_cons_zero, List.set_cons_succ]
        refine wpAnyH_take (i := 19) (oi := ({ dst := some 114, op := Op.move (Operand.tmp 9), type := 3, pos := "laws.go:1000", after := #[{ on := 17, ground := Ground.guard }], guard := some (17, true) })) (v := ?v220) rfl (by kernel_rfl) (by kernel_rfl) (by kernel_rfl) (fun _ _ _ h => h) (Or.inl ⟨by rfl, ?hy220⟩) hHeld ?rest220
        case hy220 => (intro w' hSw; (try dsimp only at hSw); go_split_ands; go_simp; try with_reducible rfl)
        try simp only [Act.put, List.setIfInBounds_toArray, List.set_cons_zero, List.set_cons_succ]
        refine wpAnyH_take (i := 20) (oi := ({ dst := some 115, op := Op.indexAddr 56 (Operand.tmp 113) (Operand.tmp 114), type := 0, pos := "laws.go:1000", after := #[{ on := 18, ground := Ground.data }, { on := 19, ground := Ground.data }, { on := 17, ground := Ground.guard }], guard := some (17, true) })) (v := ?v221) rfl (by kernel_rfl) (by kernel_rfl) (by kernel_rfl) (fun _ _ _ h => h) (Or.inl ⟨by rfl, ?hy221⟩) hHeld ?rest221
        case hy221 => (intro w' hSw; (try dsimp only at hSw); go_split_ands; go_simp; try with_reducible rfl)
        try simp only [Act.put, List.setIfInBounds_toArray, List.set_cons_zero, List.set_cons_succ]
        refine wpAnyH_take (i := 21) (oi := ({ dst := some 116, op := Op.load 62 (Operand.tmp 115), type := 62, pos := "laws.go:1000", after := #[{ on := 20, ground := Ground.data }, { on := 17, ground := Ground.guard }], guard := some (17, true) })) (v := ?v222) rfl (by kernel_rfl) (by kernel_rfl) (by kernel_rfl) (fun _ _ _ h => h) (Or.inl ⟨by rfl, ?hy222⟩) hHeld ?rest222
        case hy222 => (intro w' hSw; (try dsimp only at hSw); go_split_ands; go_simp; try with_reducible rfl)
        try simp only [Act.put, List.setIfInBounds_toArray, List.set_cons_zero, List.set_cons_succ]
        refine wpAnyH_take (i := 22) (oi := ({ dst := some 117, op := Op.load 62 (Operand.tmp 8), type := 62, pos := "laws.go:1000", after := #[{ on := 17, ground := Ground.guard }], guard := some (17, true) })) (v := ?v223) rfl (by kernel_rfl) (by kernel_rfl) (by kernel_rfl) (fun _ _ _ h => h) (Or.inl ⟨by rfl, ?hy223⟩) hHeld ?rest223
        case hy223 => (intro w' hSw; (try dsimp only at hSw); go_split_ands; go_simp; try with_reducible rfl)
        try simp only [Act.put, List.setIfInBounds_toArray, List.set_cons_zero, List.set_cons_succ]
        refine wpAnyH_take (i := 24) (oi := ({ dst := some 119, op := Op.load 62 (Operand.tmp 10), type := 62, pos := "laws.go:1000", after := #[{ on := 17, ground := Ground.guard }], guard := some (17, true) })) (v := ?v224) rfl (by kernel_rfl) (by kernel_rfl) (by kernel_rfl) (fun _ _ _ h => h) (Or.inl ⟨by rfl, ?hy224⟩) hHeld ?rest224
        case hy224 => (intro w' hSw; (try dsimp only at hSw); go_split_ands; go_simp; try with_reducible rfl)
        try simp only [Act.put, List.setIfInBounds_toArray, List.set_cons_zero, List.set_cons_succ]
        refine wpAnyH_take (i := 25) (oi := ({ dst := some 120, op := Op.load 62 (Operand.tmp 8), type := 62, pos := "laws.go:1000", after := #[{ on := 17, ground := Ground.guard }], guard := some (17, true) })) (v := ?v225) rfl (by kernel_rfl) (by kernel_rfl) (by kernel_rfl) (fun _ _ _ h => h) (Or.inl ⟨by rfl, ?hy225⟩) hHeld ?rest225
        case hy225 => (intro w' hSw; (try dsimp only at hSw); go_split_ands; go_simp; try with_reducible rfl)
        try simp only [Act.put, List.setIfInBounds_toArray, List.set_cons_zero, List.set_cons_succ]
        refine wpAnyH_ready (rs := [23]) (by kernel_rfl) (by simp) ?_
        refine AllReadyH.cons (o := ({ dst := some 118, op := Op.call { callee := Callee.value (Operand.func 48), args := #[Operand.tmp 116, Operand.tmp 117], argTypes := #[62, 62] }, type := 3, pos := "laws.go:1000", after := #[{ on := 21, ground := Ground.data }, { on := 22, ground := Ground.data }, { on := 17, ground := Ground.chain }, { on := 17, ground := Ground.guard }], guard := some (17, true) })) rfl (fun K hK => ?_) ?_
        ·
          go_simp
          go_at_call 48; refine (HFr.out _).mono ?_; rintro e wB ⟨rfl, kB'⟩
          try go_wp2_with fail
          have kB : Keep W0 wB := Keep.trans kA kB'
          refine hK.out _ _ (HSa _ kB) (fun hHeld => ?_)
          clear hK K
          try simp only [Act.put, List.setIfInBounds_toArray, List.set_cons_zero, List.set_cons_succ]
          refine wpAnyH_ready (rs := [26]) (by kernel_rfl) (by simp) ?_
          refine AllReadyH.cons (o := ({ dst := some 121, op := Op.call { callee := Callee.value (Operand.func 48), args := #[Operand.tmp 119, Operand.tmp 120], argTypes := #[62, 62] }, type := 3, pos := "laws.go:1000", after := #[{ on := 24, ground := Ground.data }, { on := 25, ground := Ground.data }, { on := 23, ground := Ground.chain }, { on := 17, ground := Ground.guard }], guard := some (17, true) })) rfl (fun K hK => ?_) ?_
          ·
            go_simp
            go_at_call 48; refine (HFl.out _).mono ?_; rintro e wC ⟨rfl, kC'⟩
            try go_wp2_with fail
            have kC : Keep W0 wC := Keep.trans kB kC'
            refine hK.out _ _ (HSa _ kC) (fun hHeld => ?_)
            clear hK K
            try simp only [Act.put, List.setIfInBounds_toArray, List.set_cons_zero, List.set_cons_succ]
            refine wpAnyH_take (i := 27) (oi := ({ dst := some 122, op := Op.binOp BinOp.lss 3 (Operand.tmp 118) (Operand.tmp 121) 3, type := 4, pos := "laws.go:1000", after := #[{ on := 23, ground := Ground.data }, { on := 26, ground := Ground.data }, { on := 17, ground := Ground.guard }], guard := some (17, true) })) (v := ?v226) rfl (by kernel_rfl) (by kernel_rfl) (by kernel_rfl) (fun _ _ _ h => h) (Or.inl ⟨by rfl, ?hy226⟩) hHeld ?rest226
            case hy226 => (intro w' hSw; (try dsimp only at hSw); go_split_ands; go_simp; try with_reducible rfl)
            try simp only [Act.put, List.setIfInBounds_toArray, List.set_cons_zero, List.set_cons_succ]
            refine wpAnyH_take (i := 28) (oi := ({ dst := some 123, op := Op.move (Operand.tmp 122), type := 4, pos := "laws.go:1000", after := #[{ on := 27, ground := Ground.data }, { on := 26, ground := Ground.chain }, { on := 17, ground := Ground.guard }], guard := some (17, true) })) (v := ?v227) rfl (by kernel_rfl) (by kernel_rfl) (by kernel_rfl) (fun _ _ _ h => h) (Or.inl ⟨by rfl, ?hy227⟩) hHeld ?rest227
            case hy227 => (intro w' hSw; (try dsimp only at hSw); go_split_ands; go_simp; try with_reducible rfl)
            try simp only [Act.put, List.setIfInBounds_toArray, List.set_cons_zero, List.set_cons_succ]
            refine wpAnyH_take (i := 29) (oi := ({ dst := some 124, op := Op.move (Operand.tmp 3), type := 56, pos := "laws.go:1000", after := #[{ on := 28, ground := Ground.guard }], guard := some (28, false) })) (v := ?v228) rfl (by kernel_rfl) (by kernel_rfl) (by kernel_rfl) (fun _ _ _ h => h) (Or.inl ⟨by rfl, ?hy228⟩) hHeld ?rest228
            case hy228 => (intro w' hSw; (try dsimp only at hSw); go_split_ands; go_simp; try with_reducible rfl)
            try simp only [Act.put, List.setIfInBounds_toArray, List.set_cons_zero, List.set_cons_succ]
            refine wpAnyH_take (i := 30) (oi := ({ dst := some 125, op := Op.move (Operand.tmp 9), type := 3, pos := "laws.go:1000", after := #[{ on := 28, ground := Ground.guard }], guard := some (28, false) })) (v := ?v229) rfl (by kernel_rfl) (by kernel_rfl) (by kernel_rfl) (fun _ _ _ h => h) (Or.inl ⟨by rfl, ?hy229⟩) hHeld ?rest229
            case hy229 => (intro w' hSw; (try dsimp only at hSw); go_split_ands; go_simp; try with_reducible rfl)
            try simp only [Act.put, List.setIfInBounds_toArray, List.set_cons_zero, List.set_cons_succ]
            refine wpAnyH_take (i := 31) (oi := ({ dst := some 126, op := Op.indexAddr 56 (Operand.tmp 124) (Operand.tmp 125), type := 0, pos := "laws.go:1000", after := #[{ on := 29, ground := Ground.data }, { on := 30, ground := Ground.data }, { on := 28, ground := Ground.guard }], guard := some (28, false) })) (v := ?v230) rfl (by kernel_rfl) (by kernel_rfl) (by kernel_rfl) (fun _ _ _ h => h) (Or.inl ⟨by rfl, ?hy230⟩) hHeld ?rest230
            case hy230 => (intro w' hSw; (try dsimp only at hSw); go_split_ands; go_simp; try with_reducible rfl)
            try simp only [Act.put, List.setIfInBounds_toArray, List.set_cons_zero, List.set_cons_succ]
            refine wpAnyH_take (i := 32) (oi := ({ dst := some 127, op := Op.load 62 (Operand.tmp 126), type := 62, pos := "laws.go:1000", after := #[{ on := 31, ground := Ground.data }, { on := 28, ground := Ground.guard }], guard := some (28, false) })) (v := ?v231) rfl (by kernel_rfl) (by kernel_rfl) (by kernel_rfl) (fun _ _ _ h => h) (Or.inl ⟨by rfl, ?hy231⟩) hHeld ?rest231
            case hy231 => (intro w' hSw; (try dsimp only at hSw); go_split_ands; go_simp; try with_reducible rfl)
            try simp only [Act.put, List.setIfInBounds_toArray, List.set_cons_zero, List.set_cons_succ]
            refine wpAnyH_take (i := 33) (oi := ({ dst := some 128, op := Op.load 62 (Operand.tmp 8), type := 62, pos := "laws.go:1000", after := #[{ on := 28, ground := Ground.guard }], guard := some (28, false) })) (v := ?v232) rfl (by kernel_rfl) (by kernel_rfl) (by kernel_rfl) (fun _ _ _ h => h) (Or.inl ⟨by rfl, ?hy232⟩) hHeld ?rest232
            case hy232 => (intro w' hSw; (try dsimp only at hSw); go_split_ands; go_simp; try with_reducible rfl)
            try simp only [Act.put, List.setIfInBounds_toArray, List.set_cons_zero, List.set_cons_succ]
            refine wpAnyH_take (i := 35) (oi := ({ dst := some 130, op := Op.load 62 (Operand.tmp 10), type := 62, pos := "laws.go:1000", after := #[{ on := 28, ground := Ground.guard }], guard := some (28, false) })) (v := ?v233) rfl (by kernel_rfl) (by kernel_rfl) (by kernel_rfl) (fun _ _ _ h => h) (Or.inl ⟨by rfl, ?hy233⟩) hHeld ?rest233
            case hy233 => (intro w' hSw; (try dsimp only at hSw); go_split_ands; go_simp; try with_reducible rfl)
            try simp only [Act.put, List.setIfInBounds_toArray, List.set_cons_zero, List.set_cons_succ]
            refine wpAnyH_take (i := 36) (oi := ({ dst := some 131, op := Op.load 62 (Operand.tmp 8), type := 62, pos := "laws.go:1000", after := #[{ on := 28, ground := Ground.guard }], guard := some (28, false) })) (v := ?v234) rfl (by kernel_rfl) (by kernel_rfl) (by kernel_rfl) (fun _ _ _ h => h) (Or.inl ⟨by rfl, ?hy234⟩) hHeld ?rest234
            case hy234 => (intro w' hSw; (try dsimp only at hSw); go_split_ands; go_simp; try with_reducible rfl)
            try simp only [Act.put, List.setIfInBounds_toArray, List.set_cons_zero, List.set_cons_succ]
            refine wpAnyH_ready (rs := [34]) (by kernel_rfl) (by simp) ?_
            refine AllReadyH.cons (o := ({ dst := some 129, op := Op.call { callee := Callee.value (Operand.func 48), args := #[Operand.tmp 127, Operand.tmp 128], argTypes := #[62, 62] }, type := 3, pos := "laws.go:1000", after := #[{ on := 32, ground := Ground.data }, { on := 33, ground := Ground.data }, { on := 28, ground := Ground.chain }, { on := 28, ground := Ground.guard }], guard := some (28, false) })) rfl (fun K hK => ?_) ?_
            ·
              go_simp
              go_at_call 48; refine (HFr.out _).mono ?_; rintro e wD ⟨rfl, kD'⟩
              try go_wp2_with fail
              have kD : Keep W0 wD := Keep.trans kC kD'
              refine hK.out _ _ (HSa _ kD) (fun hHeld => ?_)
              clear hK K
              try simp only [Act.put, List.setIfInBounds_toArray, List.set_cons_zero, List.set_cons_succ]
              refine wpAnyH_ready (rs := [37]) (by kernel_rfl) (by simp) ?_
              refine AllReadyH.cons (o := ({ dst := some 132, op := Op.call { callee := Callee.value (Operand.func 48), args := #[Operand.tmp 130, Operand.tmp 131], argTypes := #[62, 62] }, type := 3, pos := "laws.go:1000", after := #[{ on := 35, ground := Ground.data }, { on := 36, ground := Ground.data }, { on := 34, ground := Ground.chain }, { on := 28, ground := Ground.guard }], guard := some (28, false) })) rfl (fun K hK => ?_) ?_
              ·
                go_simp
                go_at_call 48; refine (HFl.out _).mono ?_; rintro e wE ⟨rfl, kE'⟩
                try go_wp2_with fail
                have kE : Keep W0 wE := Keep.trans kD kE'
                refine hK.out _ _ (HSa _ kE) (fun hHeld => ?_)
                clear hK K
                try simp only [Act.put, List.setIfInBounds_toArray, List.set_cons_zero, List.set_cons_succ]
                refine wpAnyH_take (i := 38) (oi := ({ dst := some 133, op := Op.binOp BinOp.eql 3 (Operand.tmp 129) (Operand.tmp 132) 3, type := 4, pos := "laws.go:1000", after := #[{ on := 34, ground := Ground.data }, { on := 37, ground := Ground.data }, { on := 28, ground := Ground.guard }], guard := some (28, false) })) (v := ?v235) rfl (by kernel_rfl) (by kernel_rfl) (by kernel_rfl) (fun _ _ _ h => h) (Or.inl ⟨by rfl, ?hy235⟩) hHeld ?rest235
                case hy235 => (intro w' hSw; (try dsimp only at hSw); go_split_ands; go_simp; try with_reducible rfl)
                try simp only [Act.put, List.setIfInBounds_toArray, List.set_cons_zero, List.set_cons_succ]
                refine wpAnyH_take (i := 39) (oi := ({ dst := some 134, op := Op.move (Operand.tmp 133), type := 4, pos := "laws.go:1000", after := #[{ on := 38, ground := Ground.data }, { on := 37, ground := Ground.chain }, { on := 28, ground := Ground.guard }], guard := some (28, false) })) (v := ?v236) rfl (by kernel_rfl) (by kernel_rfl) (by kernel_rfl) (fun _ _ _ h => h) (Or.inl ⟨by rfl, ?hy236⟩) hHeld ?rest236
                case hy236 => (intro w' hSw; (try dsimp only at hSw); go_split_ands; go_simp; try with_reducible rfl)
                try simp only [Act.put, List.setIfInBounds_toArray, List.set_cons_zero, List.set_cons_succ]
                refine wpAnyH_take (i := 40) (oi := ({ dst := some 135, op := Op.move (Operand.tmp 3), type := 56, pos := "laws.go:1000", after := #[{ on := 39, ground := Ground.guard }], guard := some (39, true) })) (v := ?v237) rfl (by kernel_rfl) (by kernel_rfl) (by kernel_rfl) (fun _ _ _ h => h) (Or.inl ⟨by rfl, ?hy237⟩) hHeld ?rest237
                case hy237 => (intro w' hSw; (try dsimp only at hSw); go_split_ands; go_simp; try with_reducible rfl)
                try simp only [Act.put, List.setIfInBounds_toArray, List.set_cons_zero, List.set_cons_succ]
                refine wpAnyH_take (i := 41) (oi := ({ dst := some 136, op := Op.move (Operand.tmp 9), type := 3, pos := "laws.go:1000", after := #[{ on := 39, ground := Ground.guard }], guard := some (39, true) })) (v := ?v238) rfl (by kernel_rfl) (by kernel_rfl) (by kernel_rfl) (fun _ _ _ h => h) (Or.inl ⟨by rfl, ?hy238⟩) hHeld ?rest238
                case hy238 => (intro w' hSw; (try dsimp only at hSw); go_split_ands; go_simp; try with_reducible rfl)
                try simp only [Act.put, List.setIfInBounds_toArray, List.set_cons_zero, List.set_cons_succ]
                refine wpAnyH_take (i := 42) (oi := ({ dst := some 137, op := Op.indexAddr 56 (Operand.tmp 135) (Operand.tmp 136), type := 0, pos := "laws.go:1000", after := #[{ on := 40, ground := Ground.data }, { on := 41, ground := Ground.data }, { on := 39, ground := Ground.guard }], guard := some (39, true) })) (v := ?v239) rfl (by kernel_rfl) (by kernel_rfl) (by kernel_rfl) (fun _ _ _ h => h) (Or.inl ⟨by rfl, ?hy239⟩) hHeld ?rest239
                case hy239 => (intro w' hSw; (try dsimp only at hSw); go_split_ands; go_simp; try with_reducible rfl)
                try simp only [Act.put, List.setIfInBounds_toArray, List.set_cons_zero, List.set_cons_succ]
                refine wpAnyH_take (i := 43) (oi := ({ dst := some 138, op := Op.fieldAddr 62 (Operand.tmp 137) 0, type := 0, pos := "laws.go:1000", after := #[{ on := 42, ground := Ground.data }, { on := 39, ground := Ground.guard }], guard := some (39, true) })) (v := ?v240) rfl (by kernel_rfl) (by kernel_rfl) (by kernel_rfl) (fun _ _ _ h => h) (Or.inl ⟨by rfl, ?hy240⟩) hHeld ?rest240
                case hy240 => (intro w' hSw; (try dsimp only at hSw); go_split_ands; go_simp; try with_reducible rfl)
                try simp only [Act.put, List.setIfInBounds_toArray, List.set_cons_zero, List.set_cons_succ]
                refine wpAnyH_take (i := 44) (oi := ({ dst := some 139, op := Op.load 3 (Operand.tmp 138), type := 3, pos := "laws.go:1000", after := #[{ on := 43, ground := Ground.data }, { on := 39, ground := Ground.guard }], guard := some (39, true) })) (v := ?v241) rfl (by kernel_rfl) (by kernel_rfl) (by kernel_rfl) (fun _ _ _ h => h) (Or.inl ⟨by rfl, ?hy241⟩) hHeld ?rest241
                case hy241 => (intro w' hSw; (try dsimp only at hSw); go_split_ands; go_simp; try with_reducible rfl)
                try simp only [Act.put, List.setIfInBounds_toArray, List.set_cons_zero, List.set_cons_succ]
                refine wpAnyH_take (i := 45) (oi := ({ dst := some 140, op := Op.fieldAddr 62 (Operand.tmp 10) 0, type := 0, pos := "laws.go:1000", after := #[{ on := 39, ground := Ground.guard }], guard := some (39, true) })) (v := ?v242) rfl (by kernel_rfl) (by kernel_rfl) (by kernel_rfl) (fun _ _ _ h => h) (Or.inl ⟨by rfl, ?hy242⟩) hHeld ?rest242
                case hy242 => (intro w' hSw; (try dsimp only at hSw); go_split_ands; go_simp; try with_reducible rfl)
                try simp only [Act.put, List.setIfInBounds_toArray, List.set_cons_zero, List.set_cons_succ]
                refine wpAnyH_take (i := 46) (oi := ({ dst := some 141, op := Op.load 3 (Operand.tmp 140), type := 3, pos := "laws.go:1000", after := #[{ on := 45, ground := Ground.data }, { on := 39, ground := Ground.guard }], guard := some (39, true) })) (v := ?v243) rfl (by kernel_rfl) (by kernel_rfl) (by kernel_rfl) (fun _ _ _ h => h) (Or.inl ⟨by rfl, ?hy243⟩) hHeld ?rest243
                case hy243 => (intro w' hSw; (try dsimp only at hSw); go_split_ands; go_simp; try with_reducible rfl)
                try simp only [Act.put, List.setIfInBounds_toArray, List.set_cons_zero, List.set_cons_succ]
                refine wpAnyH_take (i := 47) (oi := ({ dst := some 142, op := Op.binOp BinOp.lss 3 (Operand.tmp 139) (Operand.tmp 141) 3, type := 4, pos := "laws.go:1000", after := #[{ on := 44, ground := Ground.data }, { on := 46, ground := Ground.data }, { on := 39, ground := Ground.guard }], guard := some (39, true) })) (v := ?v244) rfl (by kernel_rfl) (by kernel_rfl) (by kernel_rfl) (fun _ _ _ h => h) (Or.inl ⟨by rfl, ?hy244⟩) hHeld ?rest244
                case hy244 => (intro w' hSw; (try dsimp only at hSw); go_split_ands; go_simp; try with_reducible rfl)
                try simp only [Act.put, List.setIfInBounds_toArray, List.set_cons_zero, List.set_cons_succ]
                refine wpAnyH_take (i := 48) (oi := ({ dst := some 143, op := Op.pick (Operand.tmp 134) (Operand.tmp 142) (Operand.const (Value.bool false)), type := 4, pos := "laws.go:1000", after := #[{ on := 39, ground := Ground.data }, { on := 47, ground := Ground.data }, { on := 28, ground := Ground.guard }], guard := some (28, false) })) (v := ?v245) rfl (by kernel_rfl) (by kernel_rfl) (by kernel_rfl) (fun _ _ _ h => h) (Or.inl ⟨by rfl, ?hy245⟩) hHeld ?rest245
                case hy245 => (intro w' hSw; (try dsimp only at hSw); go_split_ands; go_simp; try with_reducible rfl)
                try simp only [Act.put, List.setIfInBounds_toArray, List.set_cons_zero, List.set_cons_succ]
                refine wpAnyH_take (i := 49) (oi := ({ dst := some 144, op := Op.pick (Operand.tmp 123) (Operand.const (Value.bool true)) (Operand.tmp 143), type := 4, pos := "laws.go:1000", after := #[{ on := 28, ground := Ground.data }, { on := 48, ground := Ground.data }, { on := 17, ground := Ground.guard }], guard := some (17, true) })) (v := ?v246) rfl (by kernel_rfl) (by kernel_rfl) (by kernel_rfl) (fun _ _ _ h => h) (Or.inl ⟨by rfl, ?hy246⟩) hHeld ?rest246
                case hy246 => (intro w' hSw; (try dsimp only at hSw); go_split_ands; go_simp; try with_reducible rfl)
                try simp only [Act.put, List.setIfInBounds_toArray, List.set_cons_zero, List.set_cons_succ]
                refine wpAnyH_take (i := 50) (oi := ({ dst := some 145, op := Op.pick (Operand.tmp 112) (Operand.tmp 144) (Operand.const (Value.bool false)), type := 4, pos := "laws.go:1000", after := #[{ on := 17, ground := Ground.data }, { on := 49, ground := Ground.data }], guard := none })) (v := ?v247) rfl (by kernel_rfl) (by kernel_rfl) (by kernel_rfl) (fun _ _ _ h => h) (Or.inl ⟨by rfl, ?hy247⟩) hHeld ?rest247
                case hy247 => (intro w' hSw; (try dsimp only at hSw); go_split_ands; go_simp; try with_reducible rfl)
                try simp only [Act.put, List.setIfInBounds_toArray, List.set_cons_zero, List.set_cons_succ]
                refine wpAnyH_done (by kernel_rfl) ?_ _
                go_wp2
                rw [← HBH.out]
                go_roundw
                case rel => exact ⟨k + 1, by omega, by go_num, KKW.out.trans kE⟩
                case measure => simp [intOf]; omega
              exact AllReadyH.nil
            exact AllReadyH.nil
          exact AllReadyH.nil
        exact AllReadyH.nil
      exact AllReadyH.nil
    · have n4 : (fr == fl) = false := beq_eq_false_iff_ne.2 heq
      clear n2
      refine wp_region_held_drew (S := (fun w' => Keep W0 w' ∧ w'.cell? ⟨g0, k * 3, none⟩ = some (.int .i64 rs) ∧ w'.cell? ⟨g0, k * 3 + 1, none⟩ = some (.int .i64 rx) ∧ w'.cell? ⟨g0, k * 3 + 2, none⟩ = some (.int .i64 ry) ∧ w'.cell? ⟨bh, 0, none⟩ = some (.int .i64 st) ∧ w'.cell? ⟨bh, 1, none⟩ = some (.int .i64 cx) ∧ w'.cell? ⟨bh, 2, none⟩ = some (.int .i64 cy) ∧ w'.cell? ⟨bl, 0, none⟩ = some (.int .i64 ls) ∧ w'.cell? ⟨bl, 1, none⟩ = some (.int .i64 lx) ∧ w'.cell? ⟨bl, 2, none⟩ = some (.int .i64 ly))) (by kernel_rfl) (HSa _ ((Keep.refl W0).drewN 1)) (fun hHeld => ?_)
      refine wpAnyH_take (i := 0) (oi := ({ dst := some 95, op := Op.move (Operand.tmp 3), type := 56, pos := "laws.go:1000", after := #[], guard := none })) (v := ?v248) rfl (by kernel_rfl) (by kernel_rfl) (by kernel_rfl) (fun _ _ _ h => h) (Or.inl ⟨by rfl, ?hy248⟩) hHeld ?rest248
      case hy248 => (intro w' hSw; (try dsimp only at hSw); go_split_ands; go_simp; try with_reducible rfl)
      try simp only [Act.put, List.setIfInBounds_toArray, List.set_cons_zero, List.set_cons_succ]
      refine wpAnyH_take (i := 1) (oi := ({ dst := some 96, op := Op.move (Operand.tmp 9), type := 3, pos := "laws.go:1000", after := #[], guard := none })) (v := ?v249) rfl (by kernel_rfl) (by kernel_rfl) (by kernel_rfl) (fun _ _ _ h => h) (Or.inl ⟨by rfl, ?hy249⟩) hHeld ?rest249
      case hy249 => (intro w' hSw; (try dsimp only at hSw); go_split_ands; go_simp; try with_reducible rfl)
      try simp only [Act.put, List.setIfInBounds_toArray, List.set_cons_zero, List.set_cons_succ]
      refine wpAnyH_take (i := 2) (oi := ({ dst := some 97, op := Op.indexAddr 56 (Operand.tmp 95) (Operand.tmp 96), type := 0, pos := "laws.go:1000", after := #[{ on := 0, ground := Ground.data }, { on := 1, ground := Ground.data }], guard := none })) (v := ?v250) rfl (by kernel_rfl) (by kernel_rfl) (by kernel_rfl) (fun _ _ _ h => h) (Or.inl ⟨by rfl, ?hy250⟩) hHeld ?rest250
      case hy250 => (intro w' hSw; (try dsimp only at hSw); go_split_ands; go_simp; try with_reducible rfl)
      try simp only [Act.put, List.setIfInBounds_toArray, List.set_cons_zero, List.set_cons_succ]
      refine wpAnyH_take (i := 3) (oi := ({ dst := some 98, op := Op.fieldAddr 62 (Operand.tmp 97) 0, type := 0, pos := "laws.go:1000", after := #[{ on := 2, ground := Ground.data }], guard := none })) (v := ?v251) rfl (by kernel_rfl) (by kernel_rfl) (by kernel_rfl) (fun _ _ _ h => h) (Or.inl ⟨by rfl, ?hy251⟩) hHeld ?rest251
      case hy251 => (intro w' hSw; (try dsimp only at hSw); go_split_ands; go_simp; try with_reducible rfl)
      try simp only [Act.put, List.setIfInBounds_toArray, List.set_cons_zero, List.set_cons_succ]
      refine wpAnyH_take (i := 4) (oi := ({ dst := some 99, op := Op.load 3 (Operand.tmp 98), type := 3, pos := "laws.go:1000", after := #[{ on := 3, ground := Ground.data }], guard := none })) (v := ?v252) rfl (by kernel_rfl) (by kernel_rfl) (by kernel_rfl) (fun _ _ _ h => h) (Or.inl ⟨by rfl, ?hy252⟩) hHeld ?rest252
      case hy252 => (intro w' hSw; (try dsimp only at hSw); go_split_ands; go_simp; try with_reducible rfl)
      try simp only [Act.put, List.setIfInBounds_toArray, List.set_cons_zero, List.set_cons_succ]
      refine wpAnyH_take (i := 5) (oi := ({ dst := some 100, op := Op.move (Operand.tmp 4), type := 3, pos := "laws.go:1000", after := #[], guard := none })) (v := ?v253) rfl (by kernel_rfl) (by kernel_rfl) (by kernel_rfl) (fun _ _ _ h => h) (Or.inl ⟨by rfl, ?hy253⟩) hHeld ?rest253
      case hy253 => (intro w' hSw; (try dsimp only at hSw); go_split_ands; go_simp; try with_reducible rfl)
      try simp only [Act.put, List.setIfInBounds_toArray, List.set_cons_zero, List.set_cons_succ]
      refine wpAnyH_take (i := 6) (oi := ({ dst := some 101, op := Op.binOp BinOp.neq 3 (Operand.tmp 99) (Operand.tmp 100) 3, type := 4, pos := "laws.go:1000", after := #[{ on := 4, ground := Ground.data }, { on := 5, ground := Ground.data }], guard := none })) (v := ?v254) rfl (by kernel_rfl) (by kernel_rfl) (by kernel_rfl) (fun _ _ _ h => h) (Or.inl ⟨by rfl, ?hy254⟩) hHeld ?rest254
      case hy254 => (intro w' hSw; (try dsimp only at hSw); go_split_ands; go_simp; try with_reducible rfl)
      try simp only [Act.put, List.setIfInBounds_toArray, List.set_cons_zero, List.set_cons_succ]
      refine wpAnyH_take (i := 7) (oi := ({ dst := some 102, op := Op.move (Operand.tmp 101), type := 4, pos := "laws.go:1000", after := #[{ on := 6, ground := Ground.data }], guard := none })) (v := ?v255) rfl (by kernel_rfl) (by kernel_rfl) (by kernel_rfl) (fun _ _ _ h => h) (Or.inl ⟨by rfl, ?hy255⟩) hHeld ?rest255
      case hy255 => (intro w' hSw; (try dsimp only at hSw); go_split_ands; go_simp; try with_reducible rfl)
      try simp only [Act.put, List.setIfInBounds_toArray, List.set_cons_zero, List.set_cons_succ]
      refine wpAnyH_take (i := 8) (oi := ({ dst := some 103, op := Op.move (Operand.tmp 6), type := 43, pos := "laws.go:1000", after := #[{ on := 7, ground := Ground.guard }], guard := some (7, true) })) (v := ?v256) rfl (by kernel_rfl) (by kernel_rfl) (by kernel_rfl) (fun _ _ _ h => h) (Or.inl ⟨by rfl, ?hy256⟩) hHeld ?rest256
      case hy256 => (intro w' hSw; (try dsimp only at hSw); go_split_ands; go_simp; try with_reducible rfl)
      try simp only [Act.put, List.setIfInBounds_toArray, List.set_cons_zero, List.set_cons_succ]
      refine wpAnyH_take (i := 9) (oi := ({ dst := some 104, op := Op.move (Operand.tmp 3), type := 56, pos := "laws.go:1000", after := #[{ on := 7, ground := Ground.guard }], guard := some (7, true) })) (v := ?v257) rfl (by kernel_rfl) (by kernel_rfl) (by kernel_rfl) (fun _ _ _ h => h) (Or.inl ⟨by rfl, ?hy257⟩) hHeld ?rest257
      case hy257 => (intro w' hSw; (try dsimp only at hSw); go_split_ands; go_simp; try with_reducible rfl)
      try simp only [Act.put, List.setIfInBounds_toArray, List.set_cons_zero, List.set_cons_succ]
      refine wpAnyH_take (i := 10) (oi := ({ dst := some 105, op := Op.move (Operand.tmp 9), type := 3, pos := "laws.go:1000", after := #[{ on := 7, ground := Ground.guard }], guard := some (7, true) })) (v := ?v258) rfl (by kernel_rfl) (by kernel_rfl) (by kernel_rfl) (fun _ _ _ h => h) (Or.inl ⟨by rfl, ?hy258⟩) hHeld ?rest258
      case hy258 => (intro w' hSw; (try dsimp only at hSw); go_split_ands; go_simp; try with_reducible rfl)
      try simp only [Act.put, List.setIfInBounds_toArray, List.set_cons_zero, List.set_cons_succ]
      refine wpAnyH_take (i := 11) (oi := ({ dst := some 106, op := Op.indexAddr 56 (Operand.tmp 104) (Operand.tmp 105), type := 0, pos := "laws.go:1000", after := #[{ on := 9, ground := Ground.data }, { on := 10, ground := Ground.data }, { on := 7, ground := Ground.guard }], guard := some (7, true) })) (v := ?v259) rfl (by kernel_rfl) (by kernel_rfl) (by kernel_rfl) (fun _ _ _ h => h) (Or.inl ⟨by rfl, ?hy259⟩) hHeld ?rest259
      case hy259 => (intro w' hSw; (try dsimp only at hSw); go_split_ands; go_simp; try with_reducible rfl)
      try simp only [Act.put, List.setIfInBounds_toArray, List.set_cons_zero, List.set_cons_succ]
      refine wpAnyH_take (i := 12) (oi := ({ dst := some 107, op := Op.fieldAddr 62 (Operand.tmp 106) 0, type := 0, pos := "laws.go:1000", after := #[{ on := 11, ground := Ground.data }, { on := 7, ground := Ground.guard }], guard := some (7, true) })) (v := ?v260) rfl (by kernel_rfl) (by kernel_rfl) (by kernel_rfl) (fun _ _ _ h => h) (Or.inl ⟨by rfl, ?hy260⟩) hHeld ?rest260
      case hy260 => (intro w' hSw; (try dsimp only at hSw); go_split_ands; go_simp; try with_reducible rfl)
      try simp only [Act.put, List.setIfInBounds_toArray, List.set_cons_zero, List.set_cons_succ]
      refine wpAnyH_take (i := 13) (oi := ({ dst := some 108, op := Op.load 3 (Operand.tmp 107), type := 3, pos := "laws.go:1000", after := #[{ on := 12, ground := Ground.data }, { on := 7, ground := Ground.guard }], guard := some (7, true) })) (v := ?v261) rfl (by kernel_rfl) (by kernel_rfl) (by kernel_rfl) (fun _ _ _ h => h) (Or.inl ⟨by rfl, ?hy261⟩) hHeld ?rest261
      case hy261 => (intro w' hSw; (try dsimp only at hSw); go_split_ands; go_simp; try with_reducible rfl)
      try simp only [Act.put, List.setIfInBounds_toArray, List.set_cons_zero, List.set_cons_succ]
      refine wpAnyH_ready (rs := [14]) (by kernel_rfl) (by simp) ?_
      refine AllReadyH.cons (o := ({ dst := some 109, op := Op.call { callee := Callee.value (Operand.func 43), args := #[Operand.tmp 103, Operand.tmp 108], argTypes := #[43, 3] }, type := 4, pos := "laws.go:1000", after := #[{ on := 8, ground := Ground.data }, { on := 13, ground := Ground.data }, { on := 7, ground := Ground.chain }, { on := 7, ground := Ground.guard }], guard := some (7, true) })) rfl (fun K hK => ?_) ?_
      ·
        go_simp
        go_at_call 43; refine (HIW.out _ ((Keep.refl W0).drewN 1)).mono ?_; rintro e wA ⟨rfl, kA'⟩
        try go_wp2_with fail
        have kA : Keep W0 wA := Keep.trans ((Keep.refl W0).drewN 1) kA'
        refine hK.out _ _ (HSa _ kA) (fun hHeld => ?_)
        clear hK K
        try simp only [Act.put, List.setIfInBounds_toArray, List.set_cons_zero, List.set_cons_succ]
        refine wpAnyH_take (i := 15) (oi := ({ dst := some 110, op := Op.unOp UnOp.not 4 (Operand.tmp 109), type := 4, pos := "laws.go:1000", after := #[{ on := 14, ground := Ground.data }, { on := 7, ground := Ground.guard }], guard := some (7, true) })) (v := ?v262) rfl (by kernel_rfl) (by kernel_rfl) (by kernel_rfl) (fun _ _ _ h => h) (Or.inl ⟨by rfl, ?hy262⟩) hHeld ?rest262
        case hy262 => (intro w' hSw; (try dsimp only at hSw); go_split_ands; go_simp; try with_reducible rfl)
        try simp only [Act.put, List.setIfInBounds_toArray, List.set_cons_zero, List.set_cons_succ]
        refine wpAnyH_take (i := 16) (oi := ({ dst := some 111, op := Op.pick (Operand.tmp 102) (Operand.tmp 110) (Operand.const (Value.bool false)), type := 4, pos := "laws.go:1000", after := #[{ on := 7, ground := Ground.data }, { on := 15, ground := Ground.data }], guard := none })) (v := ?v263) rfl (by kernel_rfl) (by kernel_rfl) (by kernel_rfl) (fun _ _ _ h => h) (Or.inl ⟨by rfl, ?hy263⟩) hHeld ?rest263
        case hy263 => (intro w' hSw; (try dsimp only at hSw); go_split_ands; go_simp; try with_reducible rfl)
        try simp only [Act.put, List.setIfInBounds_toArray, List.set_cons_zero, List.set_cons_succ]
        refine wpAnyH_take (i := 17) (oi := ({ dst := some 112, op := Op.move (Operand.tmp 111), type := 4, pos := "laws.go:1000", after := #[{ on := 16, ground := Ground.data }, { on := 14, ground := Ground.chain }], guard := none })) (v := ?v264) rfl (by kernel_rfl) (by kernel_rfl) (by kernel_rfl) (fun _ _ _ h => h) (Or.inl ⟨by rfl, ?hy264⟩) hHeld ?rest264
        case hy264 => (intro w' hSw; (try dsimp only at hSw); go_split_ands; go_simp; try with_reducible rfl)
        try simp only [Act.put, List.setIfInBounds_toArray, List.set_cons_zero, List.set_cons_succ]
        refine wpAnyH_take (i := 18) (oi := ({ dst := some 113, op := Op.move (Operand.tmp 3), type := 56, pos := "laws.go:1000", after := #[{ on := 17, ground := Ground.guard }], guard := some (17, true) })) (v := ?v265) rfl (by kernel_rfl) (by kernel_rfl) (by kernel_rfl) (fun _ _ _ h => h) (Or.inl ⟨by rfl, ?hy265⟩) hHeld ?rest265
        case hy265 => (intro w' hSw; (try dsimp only at hSw); go_split_ands; go_simp; try with_reducible rfl)
        try simp only [Act.put, List.setIfInBounds_toArray, List.set_cons_zero, List.set_cons_succ]
        refine wpAnyH_take (i := 19) (oi := ({ dst := some 114, op := Op.move (Operand.tmp 9), type := 3, pos := "laws.go:1000", after := #[{ on := 17, ground := Ground.guard }], guard := some (17, true) })) (v := ?v266) rfl (by kernel_rfl) (by kernel_rfl) (by kernel_rfl) (fun _ _ _ h => h) (Or.inl ⟨by rfl, ?hy266⟩) hHeld ?rest266
        case hy266 => (intro w' hSw; (try dsimp only at hSw); go_split_ands; go_simp; try with_reducible rfl)
        try simp only [Act.put, List.setIfInBounds_toArray, List.set_cons_zero, List.set_cons_succ]
        refine wpAnyH_take (i := 20) (oi := ({ dst := some 115, op := Op.indexAddr 56 (Operand.tmp 113) (Operand.tmp 114), type := 0, pos := "laws.go:1000", after := #[{ on := 18, ground := Ground.data }, { on := 19, ground := Ground.data }, { on := 17, ground := Ground.guard }], guard := some (17, true) })) (v := ?v267) rfl (by kernel_rfl) (by kernel_rfl) (by kernel_rfl) (fun _ _ _ h => h) (Or.inl ⟨by rfl, ?hy267⟩) hHeld ?rest267
        case hy267 => (intro w' hSw; (try dsimp only at hSw); go_split_ands; go_simp; try with_reducible rfl)
        try simp only [Act.put, List.setIfInBounds_toArray, List.set_cons_zero, List.set_cons_succ]
        refine wpAnyH_take (i := 21) (oi := ({ dst := some 116, op := Op.load 62 (Operand.tmp 115), type := 62, pos := "laws.go:1000", after := #[{ on := 20, ground := Ground.data }, { on := 17, ground := Ground.guard }], guard := some (17, true) })) (v := ?v268) rfl (by kernel_rfl) (by kernel_rfl) (by kernel_rfl) (fun _ _ _ h => h) (Or.inl ⟨by rfl, ?hy268⟩) hHeld ?rest268
        case hy268 => (intro w' hSw; (try dsimp only at hSw); go_split_ands; go_simp; try with_reducible rfl)
        try simp only [Act.put, List.setIfInBounds_toArray, List.set_cons_zero, List.set_cons_succ]
        refine wpAnyH_take (i := 22) (oi := ({ dst := some 117, op := Op.load 62 (Operand.tmp 8), type := 62, pos := "laws.go:1000", after := #[{ on := 17, ground := Ground.guard }], guard := some (17, true) })) (v := ?v269) rfl (by kernel_rfl) (by kernel_rfl) (by kernel_rfl) (fun _ _ _ h => h) (Or.inl ⟨by rfl, ?hy269⟩) hHeld ?rest269
        case hy269 => (intro w' hSw; (try dsimp only at hSw); go_split_ands; go_simp; try with_reducible rfl)
        try simp only [Act.put, List.setIfInBounds_toArray, List.set_cons_zero, List.set_cons_succ]
        refine wpAnyH_take (i := 24) (oi := ({ dst := some 119, op := Op.load 62 (Operand.tmp 10), type := 62, pos := "laws.go:1000", after := #[{ on := 17, ground := Ground.guard }], guard := some (17, true) })) (v := ?v270) rfl (by kernel_rfl) (by kernel_rfl) (by kernel_rfl) (fun _ _ _ h => h) (Or.inl ⟨by rfl, ?hy270⟩) hHeld ?rest270
        case hy270 => (intro w' hSw; (try dsimp only at hSw); go_split_ands; go_simp; try with_reducible rfl)
        try simp only [Act.put, List.setIfInBounds_toArray, List.set_cons_zero, List.set_cons_succ]
        refine wpAnyH_take (i := 25) (oi := ({ dst := some 120, op := Op.load 62 (Operand.tmp 8), type := 62, pos := "laws.go:1000", after := #[{ on := 17, ground := Ground.guard }], guard := some (17, true) })) (v := ?v271) rfl (by kernel_rfl) (by kernel_rfl) (by kernel_rfl) (fun _ _ _ h => h) (Or.inl ⟨by rfl, ?hy271⟩) hHeld ?rest271
        case hy271 => (intro w' hSw; (try dsimp only at hSw); go_split_ands; go_simp; try with_reducible rfl)
        try simp only [Act.put, List.setIfInBounds_toArray, List.set_cons_zero, List.set_cons_succ]
        refine wpAnyH_ready (rs := [23]) (by kernel_rfl) (by simp) ?_
        refine AllReadyH.cons (o := ({ dst := some 118, op := Op.call { callee := Callee.value (Operand.func 48), args := #[Operand.tmp 116, Operand.tmp 117], argTypes := #[62, 62] }, type := 3, pos := "laws.go:1000", after := #[{ on := 21, ground := Ground.data }, { on := 22, ground := Ground.data }, { on := 17, ground := Ground.chain }, { on := 17, ground := Ground.guard }], guard := some (17, true) })) rfl (fun K hK => ?_) ?_
        ·
          go_simp
          go_at_call 48; refine (HFr.out _).mono ?_; rintro e wB ⟨rfl, kB'⟩
          try go_wp2_with fail
          have kB : Keep W0 wB := Keep.trans kA kB'
          refine hK.out _ _ (HSa _ kB) (fun hHeld => ?_)
          clear hK K
          try simp only [Act.put, List.setIfInBounds_toArray, List.set_cons_zero, List.set_cons_succ]
          refine wpAnyH_ready (rs := [26]) (by kernel_rfl) (by simp) ?_
          refine AllReadyH.cons (o := ({ dst := some 121, op := Op.call { callee := Callee.value (Operand.func 48), args := #[Operand.tmp 119, Operand.tmp 120], argTypes := #[62, 62] }, type := 3, pos := "laws.go:1000", after := #[{ on := 24, ground := Ground.data }, { on := 25, ground := Ground.data }, { on := 23, ground := Ground.chain }, { on := 17, ground := Ground.guard }], guard := some (17, true) })) rfl (fun K hK => ?_) ?_
          ·
            go_simp
            go_at_call 48; refine (HFl.out _).mono ?_; rintro e wC ⟨rfl, kC'⟩
            try go_wp2_with fail
            have kC : Keep W0 wC := Keep.trans kB kC'
            refine hK.out _ _ (HSa _ kC) (fun hHeld => ?_)
            clear hK K
            try simp only [Act.put, List.setIfInBounds_toArray, List.set_cons_zero, List.set_cons_succ]
            refine wpAnyH_take (i := 27) (oi := ({ dst := some 122, op := Op.binOp BinOp.lss 3 (Operand.tmp 118) (Operand.tmp 121) 3, type := 4, pos := "laws.go:1000", after := #[{ on := 23, ground := Ground.data }, { on := 26, ground := Ground.data }, { on := 17, ground := Ground.guard }], guard := some (17, true) })) (v := ?v272) rfl (by kernel_rfl) (by kernel_rfl) (by kernel_rfl) (fun _ _ _ h => h) (Or.inl ⟨by rfl, ?hy272⟩) hHeld ?rest272
            case hy272 => (intro w' hSw; (try dsimp only at hSw); go_split_ands; go_simp; try with_reducible rfl)
            try simp only [Act.put, List.setIfInBounds_toArray, List.set_cons_zero, List.set_cons_succ]
            refine wpAnyH_take (i := 28) (oi := ({ dst := some 123, op := Op.move (Operand.tmp 122), type := 4, pos := "laws.go:1000", after := #[{ on := 27, ground := Ground.data }, { on := 26, ground := Ground.chain }, { on := 17, ground := Ground.guard }], guard := some (17, true) })) (v := ?v273) rfl (by kernel_rfl) (by kernel_rfl) (by kernel_rfl) (fun _ _ _ h => h) (Or.inl ⟨by rfl, ?hy273⟩) hHeld ?rest273
            case hy273 => (intro w' hSw; (try dsimp only at hSw); go_split_ands; go_simp; try with_reducible rfl)
            try simp only [Act.put, List.setIfInBounds_toArray, List.set_cons_zero, List.set_cons_succ]
            refine wpAnyH_take (i := 29) (oi := ({ dst := some 124, op := Op.move (Operand.tmp 3), type := 56, pos := "laws.go:1000", after := #[{ on := 28, ground := Ground.guard }], guard := some (28, false) })) (v := ?v274) rfl (by kernel_rfl) (by kernel_rfl) (by kernel_rfl) (fun _ _ _ h => h) (Or.inl ⟨by rfl, ?hy274⟩) hHeld ?rest274
            case hy274 => (intro w' hSw; (try dsimp only at hSw); go_split_ands; go_simp; try with_reducible rfl)
            try simp only [Act.put, List.setIfInBounds_toArray, List.set_cons_zero, List.set_cons_succ]
            refine wpAnyH_take (i := 30) (oi := ({ dst := some 125, op := Op.move (Operand.tmp 9), type := 3, pos := "laws.go:1000", after := #[{ on := 28, ground := Ground.guard }], guard := some (28, false) })) (v := ?v275) rfl (by kernel_rfl) (by kernel_rfl) (by kernel_rfl) (fun _ _ _ h => h) (Or.inl ⟨by rfl, ?hy275⟩) hHeld ?rest275
            case hy275 => (intro w' hSw; (try dsimp only at hSw); go_split_ands; go_simp; try with_reducible rfl)
            try simp only [Act.put, List.setIfInBounds_toArray, List.set_cons_zero, List.set_cons_succ]
            refine wpAnyH_take (i := 31) (oi := ({ dst := some 126, op := Op.indexAddr 56 (Operand.tmp 124) (Operand.tmp 125), type := 0, pos := "laws.go:1000", after := #[{ on := 29, ground := Ground.data }, { on := 30, ground := Ground.data }, { on := 28, ground := Ground.guard }], guard := some (28, false) })) (v := ?v276) rfl (by kernel_rfl) (by kernel_rfl) (by kernel_rfl) (fun _ _ _ h => h) (Or.inl ⟨by rfl, ?hy276⟩) hHeld ?rest276
            case hy276 => (intro w' hSw; (try dsimp only at hSw); go_split_ands; go_simp; try with_reducible rfl)
            try simp only [Act.put, List.setIfInBounds_toArray, List.set_cons_zero, List.set_cons_succ]
            refine wpAnyH_take (i := 32) (oi := ({ dst := some 127, op := Op.load 62 (Operand.tmp 126), type := 62, pos := "laws.go:1000", after := #[{ on := 31, ground := Ground.data }, { on := 28, ground := Ground.guard }], guard := some (28, false) })) (v := ?v277) rfl (by kernel_rfl) (by kernel_rfl) (by kernel_rfl) (fun _ _ _ h => h) (Or.inl ⟨by rfl, ?hy277⟩) hHeld ?rest277
            case hy277 => (intro w' hSw; (try dsimp only at hSw); go_split_ands; go_simp; try with_reducible rfl)
            try simp only [Act.put, List.setIfInBounds_toArray, List.set_cons_zero, List.set_cons_succ]
            refine wpAnyH_take (i := 33) (oi := ({ dst := some 128, op := Op.load 62 (Operand.tmp 8), type := 62, pos := "laws.go:1000", after := #[{ on := 28, ground := Ground.guard }], guard := some (28, false) })) (v := ?v278) rfl (by kernel_rfl) (by kernel_rfl) (by kernel_rfl) (fun _ _ _ h => h) (Or.inl ⟨by rfl, ?hy278⟩) hHeld ?rest278
            case hy278 => (intro w' hSw; (try dsimp only at hSw); go_split_ands; go_simp; try with_reducible rfl)
            try simp only [Act.put, List.setIfInBounds_toArray, List.set_cons_zero, List.set_cons_succ]
            refine wpAnyH_take (i := 35) (oi := ({ dst := some 130, op := Op.load 62 (Operand.tmp 10), type := 62, pos := "laws.go:1000", after := #[{ on := 28, ground := Ground.guard }], guard := some (28, false) })) (v := ?v279) rfl (by kernel_rfl) (by kernel_rfl) (by kernel_rfl) (fun _ _ _ h => h) (Or.inl ⟨by rfl, ?hy279⟩) hHeld ?rest279
            case hy279 => (intro w' hSw; (try dsimp only at hSw); go_split_ands; go_simp; try with_reducible rfl)
            try simp only [Act.put, List.setIfInBounds_toArray, List.set_cons_zero, List.set_cons_succ]
            refine wpAnyH_take (i := 36) (oi := ({ dst := some 131, op := Op.load 62 (Operand.tmp 8), type := 62, pos := "laws.go:1000", after := #[{ on := 28, ground := Ground.guard }], guard := some (28, false) })) (v := ?v280) rfl (by kernel_rfl) (by kernel_rfl) (by kernel_rfl) (fun _ _ _ h => h) (Or.inl ⟨by rfl, ?hy280⟩) hHeld ?rest280
            case hy280 => (intro w' hSw; (try dsimp only at hSw); go_split_ands; go_simp; try with_reducible rfl)
            try simp only [Act.put, List.setIfInBounds_toArray, List.set_cons_zero, List.set_cons_succ]
            refine wpAnyH_ready (rs := [34]) (by kernel_rfl) (by simp) ?_
            refine AllReadyH.cons (o := ({ dst := some 129, op := Op.call { callee := Callee.value (Operand.func 48), args := #[Operand.tmp 127, Operand.tmp 128], argTypes := #[62, 62] }, type := 3, pos := "laws.go:1000", after := #[{ on := 32, ground := Ground.data }, { on := 33, ground := Ground.data }, { on := 28, ground := Ground.chain }, { on := 28, ground := Ground.guard }], guard := some (28, false) })) rfl (fun K hK => ?_) ?_
            ·
              go_simp
              go_at_call 48; refine (HFr.out _).mono ?_; rintro e wD ⟨rfl, kD'⟩
              try go_wp2_with fail
              have kD : Keep W0 wD := Keep.trans kC kD'
              refine hK.out _ _ (HSa _ kD) (fun hHeld => ?_)
              clear hK K
              try simp only [Act.put, List.setIfInBounds_toArray, List.set_cons_zero, List.set_cons_succ]
              refine wpAnyH_ready (rs := [37]) (by kernel_rfl) (by simp) ?_
              refine AllReadyH.cons (o := ({ dst := some 132, op := Op.call { callee := Callee.value (Operand.func 48), args := #[Operand.tmp 130, Operand.tmp 131], argTypes := #[62, 62] }, type := 3, pos := "laws.go:1000", after := #[{ on := 35, ground := Ground.data }, { on := 36, ground := Ground.data }, { on := 34, ground := Ground.chain }, { on := 28, ground := Ground.guard }], guard := some (28, false) })) rfl (fun K hK => ?_) ?_
              ·
                go_simp
                go_at_call 48; refine (HFl.out _).mono ?_; rintro e wE ⟨rfl, kE'⟩
                try go_wp2_with fail
                have kE : Keep W0 wE := Keep.trans kD kE'
                refine hK.out _ _ (HSa _ kE) (fun hHeld => ?_)
                clear hK K
                try simp only [Act.put, List.setIfInBounds_toArray, List.set_cons_zero, List.set_cons_succ]
                refine wpAnyH_take (i := 38) (oi := ({ dst := some 133, op := Op.binOp BinOp.eql 3 (Operand.tmp 129) (Operand.tmp 132) 3, type := 4, pos := "laws.go:1000", after := #[{ on := 34, ground := Ground.data }, { on := 37, ground := Ground.data }, { on := 28, ground := Ground.guard }], guard := some (28, false) })) (v := ?v281) rfl (by kernel_rfl) (by kernel_rfl) (by kernel_rfl) (fun _ _ _ h => h) (Or.inl ⟨by rfl, ?hy281⟩) hHeld ?rest281
                case hy281 => (intro w' hSw; (try dsimp only at hSw); go_split_ands; go_simp; try with_reducible rfl)
                try simp only [Act.put, List.setIfInBounds_toArray, List.set_cons_zero, List.set_cons_succ]
                refine wpAnyH_take (i := 39) (oi := ({ dst := some 134, op := Op.move (Operand.tmp 133), type := 4, pos := "laws.go:1000", after := #[{ on := 38, ground := Ground.data }, { on := 37, ground := Ground.chain }, { on := 28, ground := Ground.guard }], guard := some (28, false) })) (v := ?v282) rfl (by kernel_rfl) (by kernel_rfl) (by kernel_rfl) (fun _ _ _ h => h) (Or.inl ⟨by rfl, ?hy282⟩) hHeld ?rest282
                case hy282 => (intro w' hSw; (try dsimp only at hSw); go_split_ands; go_simp; try with_reducible rfl)
                try simp only [Act.put, List.setIfInBounds_toArray, List.set_cons_zero, List.set_cons_succ]
                refine wpAnyH_take (i := 40) (oi := ({ dst := some 135, op := Op.move (Operand.tmp 3), type := 56, pos := "laws.go:1000", after := #[{ on := 39, ground := Ground.guard }], guard := some (39, true) })) (v := undef) rfl (by kernel_rfl) (by kernel_rfl) (by kernel_rfl) (fun _ _ _ h => h) (Or.inr ⟨by first | kernel_rfl | rfl, rfl⟩) hHeld ?rest283
                try simp only [Act.put, List.setIfInBounds_toArray, List.set_cons_zero, List.set_cons_succ]
                refine wpAnyH_take (i := 41) (oi := ({ dst := some 136, op := Op.move (Operand.tmp 9), type := 3, pos := "laws.go:1000", after := #[{ on := 39, ground := Ground.guard }], guard := some (39, true) })) (v := undef) rfl (by kernel_rfl) (by kernel_rfl) (by kernel_rfl) (fun _ _ _ h => h) (Or.inr ⟨by first | kernel_rfl | rfl, rfl⟩) hHeld ?rest284
                try simp only [Act.put, List.setIfInBounds_toArray, List.set_cons_zero, List.set_cons_succ]
                refine wpAnyH_take (i := 42) (oi := ({ dst := some 137, op := Op.indexAddr 56 (Operand.tmp 135) (Operand.tmp 136), type := 0, pos := "laws.go:1000", after := #[{ on := 40, ground := Ground.data }, { on := 41, ground := Ground.data }, { on := 39, ground := Ground.guard }], guard := some (39, true) })) (v := undef) rfl (by kernel_rfl) (by kernel_rfl) (by kernel_rfl) (fun _ _ _ h => h) (Or.inr ⟨by first | kernel_rfl | rfl, rfl⟩) hHeld ?rest285
                try simp only [Act.put, List.setIfInBounds_toArray, List.set_cons_zero, List.set_cons_succ]
                refine wpAnyH_take (i := 43) (oi := ({ dst := some 138, op := Op.fieldAddr 62 (Operand.tmp 137) 0, type := 0, pos := "laws.go:1000", after := #[{ on := 42, ground := Ground.data }, { on := 39, ground := Ground.guard }], guard := some (39, true) })) (v := undef) rfl (by kernel_rfl) (by kernel_rfl) (by kernel_rfl) (fun _ _ _ h => h) (Or.inr ⟨by first | kernel_rfl | rfl, rfl⟩) hHeld ?rest286
                try simp only [Act.put, List.setIfInBounds_toArray, List.set_cons_zero, List.set_cons_succ]
                refine wpAnyH_take (i := 44) (oi := ({ dst := some 139, op := Op.load 3 (Operand.tmp 138), type := 3, pos := "laws.go:1000", after := #[{ on := 43, ground := Ground.data }, { on := 39, ground := Ground.guard }], guard := some (39, true) })) (v := undef) rfl (by kernel_rfl) (by kernel_rfl) (by kernel_rfl) (fun _ _ _ h => h) (Or.inr ⟨by first | kernel_rfl | rfl, rfl⟩) hHeld ?rest287
                try simp only [Act.put, List.setIfInBounds_toArray, List.set_cons_zero, List.set_cons_succ]
                refine wpAnyH_take (i := 45) (oi := ({ dst := some 140, op := Op.fieldAddr 62 (Operand.tmp 10) 0, type := 0, pos := "laws.go:1000", after := #[{ on := 39, ground := Ground.guard }], guard := some (39, true) })) (v := undef) rfl (by kernel_rfl) (by kernel_rfl) (by kernel_rfl) (fun _ _ _ h => h) (Or.inr ⟨by first | kernel_rfl | rfl, rfl⟩) hHeld ?rest288
                try simp only [Act.put, List.setIfInBounds_toArray, List.set_cons_zero, List.set_cons_succ]
                refine wpAnyH_take (i := 46) (oi := ({ dst := some 141, op := Op.load 3 (Operand.tmp 140), type := 3, pos := "laws.go:1000", after := #[{ on := 45, ground := Ground.data }, { on := 39, ground := Ground.guard }], guard := some (39, true) })) (v := undef) rfl (by kernel_rfl) (by kernel_rfl) (by kernel_rfl) (fun _ _ _ h => h) (Or.inr ⟨by first | kernel_rfl | rfl, rfl⟩) hHeld ?rest289
                try simp only [Act.put, List.setIfInBounds_toArray, List.set_cons_zero, List.set_cons_succ]
                refine wpAnyH_take (i := 47) (oi := ({ dst := some 142, op := Op.binOp BinOp.lss 3 (Operand.tmp 139) (Operand.tmp 141) 3, type := 4, pos := "laws.go:1000", after := #[{ on := 44, ground := Ground.data }, { on := 46, ground := Ground.data }, { on := 39, ground := Ground.guard }], guard := some (39, true) })) (v := undef) rfl (by kernel_rfl) (by kernel_rfl) (by kernel_rfl) (fun _ _ _ h => h) (Or.inr ⟨by first | kernel_rfl | rfl, rfl⟩) hHeld ?rest290
                try simp only [Act.put, List.setIfInBounds_toArray, List.set_cons_zero, List.set_cons_succ]
                refine wpAnyH_take (i := 48) (oi := ({ dst := some 143, op := Op.pick (Operand.tmp 134) (Operand.tmp 142) (Operand.const (Value.bool false)), type := 4, pos := "laws.go:1000", after := #[{ on := 39, ground := Ground.data }, { on := 47, ground := Ground.data }, { on := 28, ground := Ground.guard }], guard := some (28, false) })) (v := ?v291) rfl (by kernel_rfl) (by kernel_rfl) (by kernel_rfl) (fun _ _ _ h => h) (Or.inl ⟨by rfl, ?hy291⟩) hHeld ?rest291
                case hy291 => (intro w' hSw; (try dsimp only at hSw); go_split_ands; go_simp; try with_reducible rfl)
                try simp only [Act.put, List.setIfInBounds_toArray, List.set_cons_zero, List.set_cons_succ]
                refine wpAnyH_take (i := 49) (oi := ({ dst := some 144, op := Op.pick (Operand.tmp 123) (Operand.const (Value.bool true)) (Operand.tmp 143), type := 4, pos := "laws.go:1000", after := #[{ on := 28, ground := Ground.data }, { on := 48, ground := Ground.data }, { on := 17, ground := Ground.guard }], guard := some (17, true) })) (v := ?v292) rfl (by kernel_rfl) (by kernel_rfl) (by kernel_rfl) (fun _ _ _ h => h) (Or.inl ⟨by rfl, ?hy292⟩) hHeld ?rest292
                case hy292 => (intro w' hSw; (try dsimp only at hSw); go_split_ands; go_simp; try with_reducible rfl)
                try simp only [Act.put, List.setIfInBounds_toArray, List.set_cons_zero, List.set_cons_succ]
                refine wpAnyH_take (i := 50) (oi := ({ dst := some 145, op := Op.pick (Operand.tmp 112) (Operand.tmp 144) (Operand.const (Value.bool false)), type := 4, pos := "laws.go:1000", after := #[{ on := 17, ground := Ground.data }, { on := 49, ground := Ground.data }], guard := none })) (v := ?v293) rfl (by kernel_rfl) (by kernel_rfl) (by kernel_rfl) (fun _ _ _ h => h) (Or.inl ⟨by rfl, ?hy293⟩) hHeld ?rest293
                case hy293 => (intro w' hSw; (try dsimp only at hSw); go_split_ands; go_simp; try with_reducible rfl)
                try simp only [Act.put, List.setIfInBounds_toArray, List.set_cons_zero, List.set_cons_succ]
                refine wpAnyH_done (by kernel_rfl) ?_ _
                go_wp2
                rw [← HBH.out]
                go_roundw
                case rel => exact ⟨k + 1, by omega, by go_num, KKW.out.trans kE⟩
                case measure => simp [intOf]; omega
              exact AllReadyH.nil
            exact AllReadyH.nil
          exact AllReadyH.nil
        exact AllReadyH.nil
      exact AllReadyH.nil

end Go.Proofs.Ytpgdbhafdnfhcaa
