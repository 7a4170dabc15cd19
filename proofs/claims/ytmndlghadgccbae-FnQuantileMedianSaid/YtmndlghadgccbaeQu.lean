/- QuantileOf: the program and the model. -/
import Derived.Test.YtmndlghadgccbaeSos
import Derived.Test.YtmndlghadgccbaeRq
import Derived.IntWalk
namespace Go.Proofs.Ytmndlghadgccbae
open Go.RowKit
set_option linter.unusedVariables false

theorem cq_eq {n d : Int} (hd : 1 ≤ d) : -(-n / d) = (n + d - 1) / d := by
  have q1 := Int.mul_ediv_add_emod (-n) d
  have q2 := Int.emod_nonneg (-n) (show d ≠ 0 by omega)
  have q3 := Int.emod_lt_of_pos (-n) (show 0 < d by omega)
  generalize (-n) % d = r at *
  generalize (-n) / d = q at *
  have e : n + d - 1 = (d - 1 - r) + (-q) * d := by rw [Int.neg_mul, Int.mul_comm q d]; omega
  rw [e, Int.add_mul_ediv_right _ _ (by omega), Int.ediv_eq_zero_of_lt (by omega) (by omega)]
  omega
set_option maxHeartbeats 400000 in
theorem cq_any (n d : Int) (w : World) (hd : 1 ≤ d) (hd2 : d ≤ 2000) (h0 : 0 ≤ n) (h1 : n ≤ 1000000) :
    Calls Try.prog 48 #[.int .i64 n, .int .i64 d] w fun e w' => e = .returned (.int .i64 ((n + d - 1) / d)) ∧ w = w' := by
  have HF := Lib.hid (fq_any (-n) d w hd hd2 (by omega) (by omega))
  have HE := Lib.hid (cq_eq (n := n) hd)
  have hb : -1000000 ≤ -n / d ∧ -n / d ≤ 0 := by
    have q1 := Int.mul_ediv_add_emod (-n) d
    have q2 := Int.emod_nonneg (-n) (show d ≠ 0 by omega)
    have q3 := Int.emod_lt_of_pos (-n) (show 0 < d by omega)
    generalize (-n) / d = q at *
    refine ⟨?_, ?_⟩
    case' refine_2 =>
      by_cases hq : q ≤ 0
      · exact hq
      · exfalso
        have : d * 1 ≤ d * q := Int.mul_le_mul_of_nonneg_left (by omega) (by omega)
        omega
    by_cases hq : -1000000 ≤ q
    · exact hq
    · exfalso
      have : d * q ≤ 1 * q := Int.mul_le_mul_of_nonpos_right hd (by omega)
      have : d * (q + 1) ≤ 1 * (q + 1) := Int.mul_le_mul_of_nonpos_right hd (by omega)
      rw [Int.mul_add, Int.mul_one] at this
      omega
  generalize -n / d = q at *
  go_enter Try.func48, Try.ntmps48
  go_wp2_with fail
  refine HF.out.mono ?_
  rintro e w1 ⟨rfl, rfl⟩
  go_wp2
  go_ret
  exact ⟨retI HE.out, rfl⟩
set_option maxRecDepth 100000 in
set_option maxHeartbeats 2000000 in
theorem qu_impl (a : Option Addr) (cap : Nat) (zs : List Int) (num den : Int) (w : World) (h : Ls w a zs) (hm : zs.length ≤ 1048576) :
    Calls Try.prog 22 #[.slice a zs.length cap, .int .i64 num, .int .i64 den] w fun e w' => e = .returned (.tuple #[.int .i64 (quV zs num den), .bool (quB zs num den)]) ∧ Keep w w' := by
  have HK := Lib.hid (sk_impl a cap zs w h (by omega))
  by_cases hall : quB zs num den = true
  case' neg =>
    have hq0 : quB zs num den = false := by simpa using hall
    have HV := Lib.hid (quV_no hq0)
    have HB := Lib.hid hq0
    have hc : sk zs < 1 ∨ den < 1 ∨ 100 < den ∨ num < 1 ∨ den < num := by
      rcases Bool.eq_false_or_eq_true (sqB zs) with hq | hq
      · have e : sk zs = ((knl zs).length : Int) := by rw [sk_yes hq, knN_all]
        rw [e]
        by_cases h0 : 0 < (knl zs).length
        · by_cases c : den < 1 ∨ 100 < den ∨ num < 1 ∨ den < num
          · exact .inr c
          · exact absurd (by rw [quB, hq, decide_eq_true h0, inB_yes (by omega), inB_yes (by omega)]; rfl) hall
        · left; omega
      · left; rw [sk_no hq]; omega
    clear hall hq0
    generalize sk zs = s at *
    have hd : decide (s < 1) = true ∨ (decide (s < 1) = false ∧ (decide (den < 1) = true ∨ (decide (den < 1) = false ∧ (decide (100 < den) = true ∨ (decide (100 < den) = false ∧ (decide (num < 1) = true ∨ (decide (num < 1) = false ∧ decide (den < num) = true))))))) := by
      by_cases c1 : s < 1
      · exact .inl (decide_eq_true c1)
      · refine .inr ⟨decide_eq_false c1, ?_⟩
        by_cases c2 : den < 1
        · exact .inl (decide_eq_true c2)
        · refine .inr ⟨decide_eq_false c2, ?_⟩
          by_cases c3 : 100 < den
          · exact .inl (decide_eq_true c3)
          · refine .inr ⟨decide_eq_false c3, ?_⟩
            by_cases c4 : num < 1
            · exact .inl (decide_eq_true c4)
            · exact .inr ⟨decide_eq_false c4, decide_eq_true (by omega)⟩
    clear hc
    rcases hd with d1 | ⟨d1, d2 | ⟨d2, d3 | ⟨d3, d4 | ⟨d4, d5⟩⟩⟩⟩
    all_goals
      go_enter Try.func22, Try.ntmps22
      go_wp2_with fail
      refine HK.out.mono ?_
      rintro e w1 ⟨rfl, rfl⟩
      go_wp2
      go_ret2
      exact ⟨retIB HV.out.symm HB.out.symm, Keep.refl _⟩
  obtain ⟨hq, hk0, ⟨hd1, hd2⟩, hn1, hn2⟩ := quB_facts hall
  have HV := Lib.hid (quV_yes hall)
  have HB := Lib.hid hall
  have hs12 : (knl zs).length ≤ 12 := Nat.le_trans (knl_le zs) (sq_facts hq).2.2
  obtain ⟨b1, b2, _, _, b3, b4⟩ := quK_bd hk0 hs12 ⟨hd1, hd2⟩ ⟨hn1, hn2⟩
  have HS := Lib.hid (soL_yes hq)
  have HSl : Hid ((soL zs).length = (knl zs).length) := Lib.hid (by rw [soL_yes hq, sorted_length])
  have hsk : sk zs = ((knl zs).length : Int) := by rw [sk_yes hq, knN_all]
  rw [hsk] at HK
  have HSo := Lib.hid (so_impl a cap zs w h hm)
  rw [← HS.out] at HV
  have HCQ := Lib.hid (fun W => cq_any (num * ((knl zs).length : Int)) den W hd1 (by omega) (by omega) (by omega))
  have HQK : Hid ((num * ((knl zs).length : Int) + den - 1) / den = quK (knl zs).length num den) := Lib.hid rfl
  rw [HQK.out] at HCQ
  clear hall hq hsk
  generalize quV zs num den = v at *
  generalize quB zs num den = bb at *
  generalize soL zs = S at *
  generalize hmk : (knl zs).length = m at *
  clear hmk
  have e1 : decide ((m : Int) < 1) = false := decide_eq_false (by omega)
  have e2 : decide (den < 1) = false := decide_eq_false (by omega)
  have e3 : decide (100 < den) = false := decide_eq_false (by omega)
  have e4 : decide (num < 1) = false := decide_eq_false (by omega)
  have e5 : decide (den < num) = false := decide_eq_false (by omega)
  obtain ⟨p, hp⟩ := Int.eq_ofNat_of_zero_le (show 0 ≤ quK m num den - 1 by omega)
  have hp2 : quK m num den = (p : Int) + 1 := by omega
  rw [hp2] at HCQ b2
  rw [hp2, Int.add_sub_cancel] at HV
  have hmul : (m : Int) * num = num * (m : Int) := Int.mul_comm _ _
  obtain ⟨t, ht⟩ : ∃ t, num * (m : Int) = t := ⟨_, rfl⟩
  rw [ht] at hmul HCQ b3 b4
  have hwm : IntKind.i64.wrap t = t := IntWalk.i64_in _ ⟨by omega, by omega⟩
  clear hp hp2 HQK b1 ht
  go_enter Try.func22, Try.ntmps22
  go_wp2_with fail
  refine HK.out.mono ?_
  rintro e w1 ⟨rfl, rfl⟩
  go_wp2_with fail
  refine HSo.out.mono ?_
  rintro e w2 ⟨x, cx, rfl, hcx, hFr, k2⟩
  rw [HSl.out]
  have hcell := hFr.ls
  obtain ⟨g, off, rfl, hb, hc⟩ := hcell.at_ (show p < S.length by have := HSl.out; omega)
  have p0 : (0 : Int) ≤ (p : Int) := by omega
  have p1 : (p : Int) < (m : Int) := by omega
  have hvp : S.getD p 0 = v := by have := HV.out; simpa using this.symm
  rw [hvp] at hc
  clear hvp
  go_wp2_with fail
  refine (HCQ.out _).mono ?_
  rintro e w3 ⟨rfl, rfl⟩
  go_wp2
  go_ret2
  exact ⟨retIB rfl HB.out.symm, k2⟩
set_option maxRecDepth 100000 in
set_option maxHeartbeats 2000000 in
theorem qu_spec (a : Option Addr) (cap : Nat) (zs : List Int) (num den : Int) (w : World) (h : Ls w a zs) (hm : zs.length ≤ 1048576) :
    Calls Try.prog 23 #[.slice a zs.length cap, .int .i64 num, .int .i64 den] w fun e w' => e = .returned (.tuple #[.int .i64 (quV zs num den), .bool (quB zs num den)]) ∧ Keep w w' := by
  have HK := Lib.hid (sk_spec a cap zs w h (by omega))
  have HQ := Lib.hid (sqv_spec a cap zs w h (by omega))
  have HI1 := Lib.hid (fun W => l6In_any den 1 100 W)
  have HI2 := Lib.hid (fun W => l6In_any num 1 den W)
  by_cases hall : quB zs num den = true
  case' neg =>
    have hq0 : quB zs num den = false := by simpa using hall
    have HV := Lib.hid (quV_no hq0)
    have HB := Lib.hid hq0
    rcases Bool.eq_false_or_eq_true (sqB zs) with hq | hq
    case' inr =>
      rw [hq] at HQ
      clear hall hq0 hq
      go_enter Try.func23, Try.ntmps23
      go_wp2_with fail
      refine HQ.out.mono ?_
      rintro e w1 ⟨rfl, rfl⟩
      go_wp2
      go_ret2
      exact ⟨retIB HV.out.symm HB.out.symm, Keep.refl _⟩
    have e : sk zs = ((knl zs).length : Int) := by rw [sk_yes hq, knN_all]
    rw [e] at HK
    rw [hq] at HQ
    rcases Bool.eq_false_or_eq_true (inB den 1 100) with hd | hd
    case' inr =>
      rw [hd] at HI1
      clear hall hq0 hq hd e
      go_enter Try.func23, Try.ntmps23
      go_wp2_with fail
      refine HQ.out.mono ?_
      rintro e w1 ⟨rfl, rfl⟩
      go_wp2_with fail
      refine (HI1.out _).mono ?_
      rintro e w1 ⟨rfl, rfl⟩
      go_wp2
      go_ret2
      exact ⟨retIB HV.out.symm HB.out.symm, Keep.refl _⟩
    rw [hd] at HI1
    rcases Bool.eq_false_or_eq_true (inB num 1 den) with hn | hn
    case' inr =>
      rw [hn] at HI2
      clear hall hq0 hq hd hn e
      go_enter Try.func23, Try.ntmps23
      go_wp2_with fail
      refine HQ.out.mono ?_
      rintro e w1 ⟨rfl, rfl⟩
      go_wp2_with fail
      refine (HI1.out _).mono ?_
      rintro e w1 ⟨rfl, rfl⟩
      go_wp2_with fail
      refine (HI2.out _).mono ?_
      rintro e w1 ⟨rfl, rfl⟩
      go_wp2
      go_ret2
      exact ⟨retIB HV.out.symm HB.out.symm, Keep.refl _⟩
    rw [hn] at HI2
    have h0 : (knl zs).length = 0 := by
      by_cases h0 : 0 < (knl zs).length
      · exact absurd (by rw [quB, hq, hd, hn, decide_eq_true h0]; rfl) hall
      · omega
    rw [h0] at HK
    clear hall hq0 hq hd hn e h0
    go_enter Try.func23, Try.ntmps23
    go_wp2_with fail
    refine HQ.out.mono ?_
    rintro e w1 ⟨rfl, rfl⟩
    go_wp2_with fail
    refine (HI1.out _).mono ?_
    rintro e w1 ⟨rfl, rfl⟩
    go_wp2_with fail
    refine (HI2.out _).mono ?_
    rintro e w1 ⟨rfl, rfl⟩
    go_wp2_with fail
    refine HK.out.mono ?_
    rintro e w1 ⟨rfl, rfl⟩
    go_wp2
    go_ret2
    exact ⟨retIB HV.out.symm HB.out.symm, Keep.refl _⟩
  obtain ⟨hq, hk0, ⟨hd1, hd2⟩, hn1, hn2⟩ := quB_facts hall
  rw [hq] at HQ
  rw [inB_yes ⟨hd1, hd2⟩] at HI1
  rw [inB_yes ⟨hn1, hn2⟩] at HI2
  have HV := Lib.hid (quV_yes hall)
  have HB := Lib.hid hall
  have hkl := knl_le zs
  have hz12 := (sq_facts hq).2.2
  obtain ⟨b1, b2, _, _, b3, b4⟩ := quK_bd hk0 (show (knl zs).length ≤ 12 by omega) ⟨hd1, hd2⟩ ⟨hn1, hn2⟩
  have hsk : sk zs = ((knl zs).length : Int) := by rw [sk_yes hq, knN_all]
  rw [hsk] at HK
  have HSl : Hid ((sorted (knl zs)).length = (knl zs).length) := Lib.hid (sorted_length _)
  have HKn := Lib.hid (fun W (k : Keep w W) => known2_any a cap zs W (h.keep k) hm)
  have HTd : Hid ((num * ((knl zs).length : Int) + den - 1) / den = quK (knl zs).length num den) := Lib.hid rfl
  clear hall hq hsk
  generalize quV zs num den = v at *
  generalize quB zs num den = bb at *
  generalize knl zs = Kn at *
  obtain ⟨m, hmk⟩ : ∃ m, Kn.length = m := ⟨_, rfl⟩
  have HMk := Lib.hid hmk
  rw [hmk] at HK b2 b3 b4 HSl HTd HV hk0 b1
  have e1 : ((m : Int) == 0) = false := beq_eq_false_iff_ne.2 (by omega)
  obtain ⟨p, hp⟩ := Int.eq_ofNat_of_zero_le (show 0 ≤ quK m num den - 1 by omega)
  have hp2 : quK m num den = (p : Int) + 1 := by omega
  rw [hp2] at b2 HTd
  rw [hp2, Int.add_sub_cancel] at HV
  obtain ⟨t, ht⟩ : ∃ t, num * (m : Int) = t := ⟨_, rfl⟩
  rw [ht] at HTd b3 b4
  have hwm : IntKind.i64.wrap t = t := IntWalk.i64_in _ ⟨by omega, by omega⟩
  have htd := HTd.out
  have htz : 0 ≤ t + den - 1 := by omega
  have hdn0 : ¬ den = 0 := by omega
  have hdn1 : (den == 0) = false := beq_eq_false_iff_ne.2 hdn0
  have hkl12 : Kn.length ≤ 12 := by omega
  have hm12 : m ≤ 12 := by omega
  clear hp hp2 b1 hmk
  go_enter Try.func23, Try.ntmps23
  go_wp2_with fail
  refine HQ.out.mono ?_
  rintro e w1 ⟨rfl, rfl⟩
  go_wp2_with fail
  refine (HI1.out _).mono ?_
  rintro e w1 ⟨rfl, rfl⟩
  go_wp2_with fail
  refine (HI2.out _).mono ?_
  rintro e w1 ⟨rfl, rfl⟩
  go_wp2_with fail
  refine HK.out.mono ?_
  rintro e w1 ⟨rfl, rfl⟩
  go_wp2_with fail
  refine (HKn.out _ (Keep.refl _)).mono ?_
  rintro e w2 ⟨g, c, rfl, hc, hW, hg, hgl, k2⟩
  go_wp2_with fail
  refine (ls_sorted (some ⟨g, 0, none⟩) c Kn _ hW.ls (by omega)).mono ?_
  rintro e w3 ⟨y, cy, rfl, hcy, hFr, k3⟩
  rw [HSl.out]
  obtain ⟨gy, oy, rfl, hby, hcell⟩ := hFr.ls.at_ (show p < (sorted Kn).length by have := HSl.out; omega)
  have p0 : (0 : Int) ≤ (p : Int) := by omega
  have p1 : (p : Int) < (m : Int) := by omega
  have pb : (p : Int) ≤ 12 := by omega
  have hvp : (sorted Kn).getD p 0 = v := by have := HV.out; simpa using this.symm
  rw [hvp] at hcell
  clear hvp hFr hcy hW
  go_wp2
  go_ret2
  exact ⟨retIB rfl HB.out.symm, k2.trans k3⟩
end Go.Proofs.Ytmndlghadgccbae
