/- NearestOf of the model. -/
import Derived.Test.YtpgdbhafdnfhcaaNk
import Derived.Deep.AppendLies
namespace Go.Proofs.Ytpgdbhafdnfhcaa
open Go.RowKit
set_option linter.unusedVariables false

theorem ints_at (PL : List Nat) {k : Nat} (hk : k < PL.length) : (ints PL).getD k 0 = ((PL.getD k 0 : Nat) : Int) := by
  simp [ints, List.getD_eq_getElem?_getD, hk]
theorem ls_grown {w w' : World} {g2 : Nat} {zs : List Int} {row : Option Nat} (h : Ls w (some ⟨g2, 0, none⟩) zs) (hl : g2 < w.heap.size) (hg : w.grownBy w' row) (hne : some g2 ≠ row) : Ls w' (some ⟨g2, 0, none⟩) zs := by
  rcases h with h | ⟨b, off, he, hb, hc⟩
  · exact .inl h
  · injection he with he
    injection he with h1 h2 _
    subst h1; subst h2
    exact .inr ⟨g2, 0, rfl, Nat.lt_of_lt_of_le hl hg.size, fun i hi => (hg.cell_far ⟨g2, 0 + i, none⟩ hl hne).trans (hc i hi)⟩
set_option maxRecDepth 100000 in
set_option maxHeartbeats 4000000 in
theorem nr_spec (a : Option Addr) (cap : Nat) (ts : List R3) (st many : Int) (w : World) (h : Ss w a ts) (hm : ts.length ≤ 1048576) :
    Calls Try.prog 46 #[.slice a ts.length cap, .int .i64 st, .int .i64 many] w (MadeL (nrL ts st many) w) := by
  obtain ⟨i0, hi, hz0, hz1, hz2⟩ := info_parts infoInt'
  have HPL := Lib.hid (fun W (k : Keep w W) => lplace_any a cap ts st W (h.keep k) hm)
  have HSI := Lib.hid (fun W (k : Keep w W) => si_spec a cap ts W (h.keep k) (by omega))
  have HMA := Lib.hid (l6In_any many 0 6)
  have HNO : Hid (nrOk ts st many = false → nrL ts st many = []) := Lib.hid nrL_no
  have HOK : Hid (nrOk ts st many = (siB ts && decide (plc ts st < ts.length) && inB many 0 6)) := Lib.hid rfl
  have HPI : Hid (plI ts st = if plc ts st < ts.length then (plc ts st : Int) else -1) := Lib.hid rfl
  have HM0 : Hid (∀ W : World, Keep (w.alloc (.cells #[] 3)) W → nrL ts st many = [] → MadeL (nrL ts st many) w (.returned (.slice (some ⟨w.heap.size, 0, none⟩) 0 0)) W) := Lib.hid (fun W k he => by
    rw [he]
    have h1 : OwnI (w.alloc (.cells #[] 3)) w.heap.size (.slice (some ⟨w.heap.size, 0, none⟩) 0 0) [] := World.ownsRow_made w #[] 0 (Nat.le_refl _) (by unfold maxLen; omega) rfl
    exact made_own (h1.keep k) (((Keep.refl w).alloc _).trans k))
  have k0 : Keep w (w.alloc (.cells #[] 3)) := (Keep.refl w).alloc _
  by_cases hs : siB ts = false
  · have HE := Lib.hid (HNO.out (by rw [HOK.out, hs]; rfl))
    rw [hs] at HSI
    clear hs
    go_enter Try.func46, Try.ntmps46
    go_wp2_with fail
    refine (HSI.out _ k0).mono ?_
    rintro e w2 ⟨rfl, k2⟩
    go_wp2
    go_ret
    exact HM0.out _ k2 HE.out
  have hs : siB ts = true := by simpa using hs
  have HS := Lib.hid hs
  rw [hs] at HSI
  clear hs
  by_cases hp : plc ts st < ts.length
  case' neg =>
    have HE := Lib.hid (HNO.out (by rw [HOK.out, decide_eq_false hp]; simp))
    rw [HPI.out, if_neg hp] at HPL
    clear hp
    go_enter Try.func46, Try.ntmps46
    go_wp2_with fail
    refine (HSI.out _ k0).mono ?_
    rintro e w2 ⟨rfl, k2⟩
    go_wp2_with fail
    refine (HPL.out _ (k0.trans k2)).mono ?_
    rintro e w3 ⟨rfl, rfl⟩
    go_wp2
    go_ret
    exact HM0.out _ k2 HE.out
  rw [HPI.out, if_pos hp] at HPL
  have hp0 : (0 : Int) ≤ (plc ts st : Int) := by omega
  by_cases hmo : inB many 0 6 = false
  · have HE := Lib.hid (HNO.out (by rw [HOK.out, hmo]; simp))
    rw [hmo] at HMA
    clear hmo
    generalize plc ts st = p at *
    go_enter Try.func46, Try.ntmps46
    go_wp2_with fail
    refine (HSI.out _ k0).mono ?_
    rintro e w2 ⟨rfl, k2⟩
    go_wp2_with fail
    refine (HPL.out _ (k0.trans k2)).mono ?_
    rintro e w3 ⟨rfl, rfl⟩
    go_wp2_with fail
    refine (HMA.out _).mono ?_
    rintro e w4 ⟨rfl, rfl⟩
    go_wp2
    go_ret
    exact HM0.out _ k2 HE.out
  have hmo : inB many 0 6 = true := by simpa using hmo
  have HOk : Hid (nrOk ts st many = true) := Lib.hid (by rw [HOK.out, HS.out, decide_eq_true hp, hmo]; rfl)
  have HL := Lib.hid (nrL_yes HOk.out)
  obtain ⟨_, _, m0, m6⟩ := nrOk_facts HOk.out
  rw [hmo] at HMA
  obtain ⟨mm, rfl⟩ : ∃ mm : Nat, many = (mm : Int) := ⟨many.toNat, by omega⟩
  rw [Int.toNat_natCast] at HL
  clear hmo HOk HOK HPI HNO m0 HM0
  generalize plc ts st = p at *
  have hpl : (p : Int) < (ts.length : Int) := by omega
  have HLN := Lib.hid (fun W (k : Keep w W) => lnear_any a cap ts p mm W (h.keep k) HS.out hp (by omega))
  have HO0 : Hid (OwnI (w.alloc (.cells #[] 3)) w.heap.size (.slice (some ⟨w.heap.size, 0, none⟩) 0 0) []) := Lib.hid (World.ownsRow_made w #[] 0 (Nat.le_refl _) (by unfold maxLen; omega) rfl)
  have HH := Lib.hid h
  have hl6 := si_len HS.out
  clear h
  go_enter Try.func46, Try.ntmps46
  go_wp2_with fail
  refine (HSI.out _ k0).mono ?_
  rintro e w2 ⟨rfl, k2⟩
  have K2 := k0.trans k2
  go_wp2_with fail
  refine (HPL.out _ K2).mono ?_
  rintro e w3 ⟨rfl, rfl⟩
  go_wp2_with fail
  refine (HMA.out _).mono ?_
  rintro e w4 ⟨rfl, rfl⟩
  go_wp2_with fail
  refine (HPL.out _ K2).mono ?_
  rintro e w5 ⟨rfl, rfl⟩
  go_wp2_with fail
  refine (HLN.out _ K2).mono ?_
  rintro e w6 ⟨n, PL, hPk, hTk, hn6, g2, c2, rfl, hc2, hW2, hg2, hl2, k6⟩
  have HPk := Lib.hid hPk
  have HIL := Lib.hid (ints_len PL)
  rw [ints_len, hPk.len] at hc2
  have HF : Hid (nrL ts st (mm : Int) = PL.map fun q => tS (ts.getD q t0)) := Lib.hid (by
    rw [HL.out, ← hTk, ← hPk.map, List.map_map]; rfl)
  have HPN : Hid ((ints PL).length = n) := Lib.hid (by rw [ints_len, hPk.len])
  rw [HPN.out]
  have HW2 := Lib.hid hW2.ls
  have HO2 := Lib.hid (HO0.out.keep (k2.trans k6))
  have K6 := K2.trans k6
  have hgw : w.heap.size < g2 := by have := k2.size; simp at this; omega
  clear hPk hTk hW2 HPL HSI HMA HLN HO0 HIL
  go_wp2_with fail
  go_loopw [7, 9] (fun u i wr => ∃ (k g cc : Nat), k ≤ n ∧ i = .int .i64 k ∧ u = .slice (some ⟨g, 0, none⟩) k cc ∧ k ≤ cc ∧ g ≠ g2 ∧ Hid (OwnI wr w.heap.size (.slice (some ⟨g, 0, none⟩) k cc) ((PL.take k).map fun q => tS (ts.getD q t0))) ∧ Hid (Ls wr (some ⟨g2, 0, none⟩) (ints PL)) ∧ g2 < wr.heap.size ∧ Keep w wr) (fun _ i _ => n - (intOf i).toNat)
  case atStart => exact ⟨0, w.heap.size, 0, by omega, rfl, rfl, by omega, by omega, HO2, HW2, hl2, K6⟩
  case round =>
    obtain ⟨k, g, cc, hk, rfl, rfl, hkc, hgg, HOk, HLs, hlr, hK⟩ := hrel
    by_cases hlt : k < n
    case' neg =>
      obtain rfl : k = n := by omega
      have HR : Hid (MadeL (nrL ts st (mm : Int)) w (.returned (.slice (some ⟨g, 0, none⟩) k cc)) wr) := Lib.hid (by
        have h1 := HOk.out
        rw [List.take_of_length_le (by rw [HPk.out.len]; exact Nat.le_refl _)] at h1
        unfold OwnI at h1
        rw [List.length_map, HPk.out.len] at h1
        rw [HF.out]
        exact made_own h1 hK)
      go_wp2
      go_ret
      exact HR.out
    obtain ⟨b', o', he, _, ck⟩ := HLs.out.at_ (show k < (ints PL).length by rw [HPN.out]; exact hlt)
    injection he with he
    injection he with e1 e2 _
    subst e1; subst e2
    rw [Nat.zero_add, ints_at PL (by rw [HPk.out.len]; exact hlt)] at ck
    obtain ⟨q, hq⟩ : ∃ q, PL.getD k 0 = q := ⟨_, rfl⟩
    have hqm : q ∈ PL := by
      rw [← hq]
      have hkl : k < PL.length := by rw [HPk.out.len]; exact hlt
      simp [List.getD_eq_getElem?_getD, hkl]
    have hql := HPk.out.lt q hqm
    have HTK : Hid ((PL.take (k + 1)).map (fun q => tS (ts.getD q t0)) = (PL.take k).map (fun q => tS (ts.getD q t0)) ++ [tS (ts.getD q t0)]) := Lib.hid (by
      have hkl : k < PL.length := by rw [HPk.out.len]; exact hlt
      rw [List.take_succ_eq_append_getElem hkl, List.map_append, ← hq]
      simp [List.getD_eq_getElem?_getD, hkl])
    rw [hq] at ck
    clear hq hqm
    obtain ⟨b, off, rfl, hb, ⟨d0, _, _⟩⟩ := (HH.out.keep hK).at_ hql
    generalize tS (ts.getD q t0) = s at *
    have q0 : (0 : Int) ≤ (q : Int) := by omega
    have q1 : (q : Int) < (ts.length : Int) := by omega
    obtain ⟨LL, hLL⟩ : ∃ LL, (PL.take k).map (fun q => tS (ts.getD q t0)) = LL := ⟨_, rfl⟩
    have HLL : Hid (LL.length = k) := Lib.hid (by rw [← hLL, List.length_map, List.length_take, HPk.out.len]; omega)
    rw [hLL] at HOk HTK
    clear hLL
    have hown : wr.ownsRow w.heap.size 3 1 (.slice (some ⟨g, 0, none⟩) k cc) k (LL.map (Value.int .i64)) := by
      have h9 := HOk.out
      unfold OwnI at h9
      rwa [HLL.out] at h9
    have hbs : w.heap.size ≤ wr.heap.size := hK.size
    clear HOk
    go_wp2_with (at_builtin; refine wpList_append_lies _ rfl _ _ 43 rfl w.heap.size 3 i0 (.int .i64 0) 1 8 Try.underlying43 hi hz0 hz1 hz2 rfl (by decide) _ _ _ rfl (hown.alloc _) ⟨wr.heap.size, 0, none⟩ 1 1 [.int .i64 s] rfl rfl ?c1a ?c2a (by decide) ?c3a ?c4a ?c5a (wr.heap.size + 1) ?c6a ?_)
    case c2a => first | rfl | (intro u hu; simp at hu; subst hu; rfl)
    case c3a => unfold maxLen; omega
    case c4a => omega
    case c5a => first | omega | (simp; omega)
    intro x' cx' w7 hown' hgrow hlies hlx
    have hrow : ∀ g', (Value.slice (some ⟨g, 0, none⟩) k cc).ownBlock = some g' → w.heap.size ≤ g' := fun g' hg => (hown.lt g' hg).1
    have hx : x' ≠ g2 := by
      rcases hlies with e | e
      · injection e with e
        have e : g = x' := e
        omega
      · omega
    have hcx := own_capI2 hown'
    have HO7 : Hid (OwnI w7 w.heap.size (.slice (some ⟨x', 0, none⟩) (k + 1) cx') ((PL.take (k + 1)).map fun q => tS (ts.getD q t0))) := Lib.hid (by
      unfold OwnI
      rw [HTK.out, List.length_append, HLL.out, List.map_append]
      exact hown')
    have HK7 := Lib.hid ((hK.alloc (.cells #[.int .i64 s] 3)).grown2 hgrow hrow)
    have hla : g2 < (wr.alloc (.cells #[.int .i64 s] 3)).heap.size := by simp; omega
    have HL7 := Lib.hid (ls_grown (HLs.out.keep ((Keep.refl wr).alloc (.cells #[.int .i64 s] 3))) hla hgrow (fun e => by
      injection e with e
      have e : g2 = g := e
      omega))
    have hl7 := Nat.lt_of_lt_of_le hla hgrow.size
    clear hown' hgrow hlies hown hrow
    go_wp2
    go_roundw
    case rel => exact ⟨k + 1, x', cx', by omega, by go_num, rfl, hcx, hx, HO7, HL7, hl7, HK7.out⟩
    case measure => simp [intOf]; omega
end Go.Proofs.Ytpgdbhafdnfhcaa
