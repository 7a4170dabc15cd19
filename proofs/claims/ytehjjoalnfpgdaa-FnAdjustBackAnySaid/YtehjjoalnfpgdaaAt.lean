/- AdjustSteps, AdjustOf, AdjustBack of the model. -/
import Derived.Test.YtehjjoalnfpgdaaAr
namespace Go.Proofs.Ytehjjoalnfpgdaa
open Go.RowKit
set_option linter.unusedVariables false

theorem nwb_fr3 {L : List Int} {b : Bool} {w w' : World} {e : Ending} (h : NwB L b w e w') : ∃ (a : Option Addr) (c : Nat), e = .returned (.tuple #[.slice a L.length c, .bool b]) ∧ Fresh w w' a L ∧ Keep w w' := by
  obtain ⟨a, c, he, _, hF, k⟩ := h
  exact ⟨a, c, he, hF, k⟩
theorem asL_le (zs cs : List Int) : (asL zs cs).length ≤ cs.length + 1 := by
  unfold asL; split
  · rw [asl_len]; exact Nat.le_refl _
  · exact Nat.zero_le _
theorem asL_le8 (zs cs : List Int) : (asL zs cs).length ≤ 8 := by
  by_cases hj : ajB zs cs = true
  · have := ajB_len hj
    have := asL_le zs cs
    omega
  · rw [asL_no (by simpa using hj)]; exact Nat.zero_le _
theorem aoL_le (zs cs : List Int) : (aoL zs cs).length ≤ zs.length := by
  unfold aoL; split
  · rw [adL_len]; exact Nat.le_refl _
  · exact Nat.zero_le _
theorem abL_le (zs cs st : List Int) : (abL zs cs st).length ≤ zs.length := by
  unfold abL; split
  · rw [adL_len]; exact Nat.le_refl _
  · exact Nat.zero_le _
theorem asl_bdS {zs cs : List Int} (h : ajB zs cs = true) : ∀ j, j < (asl zs cs).length → -20000 ≤ (asl zs cs).getD j 0 ∧ (asl zs cs).getD j 0 ≤ 20000 := fun j hj => by
  rw [asl_len] at hj
  rw [asl_at (by omega)]
  have h1 := mdP_bd h (k := cs.length) (Nat.le_refl _)
  have h2 := mdP_bd h (k := j) (by omega)
  omega
set_option maxRecDepth 100000 in
set_option maxHeartbeats 4000000 in
theorem as_spec (a b0 : Option Addr) (ca cb : Nat) (zs cs : List Int) (w : World) (h : Ls w a zs) (h2 : Ls w b0 cs) (hca : zs.length ≤ ca) (hm : zs.length ≤ 1048576) (hm2 : cs.length ≤ 1048576) :
    Calls Try.prog 21 #[.slice a zs.length ca, .slice b0 cs.length cb] w (NwB (asL zs cs) (ajB zs cs) w) := by
  have HQ := Lib.hid (ok_spec a b0 ca cb zs cs w h h2 hm hm2)
  rcases Bool.eq_false_or_eq_true (ajB zs cs) with hB | hB
  case' inr =>
    have HN : Hid (∀ x c W, Keep w W → NwB (asL zs cs) (ajB zs cs) w (.returned (.tuple #[.slice x 0 c, .bool false])) W) := Lib.hid (fun x c W k => nwb_no (asL_no hB) hB _ _ k)
    rw [hB] at HQ
    clear hB
    go_enter Try.func21, Try.ntmps21
    go_wp2_with fail
    refine HQ.out.mono ?_
    rintro e w1 ⟨rfl, k1⟩
    go_wp2
    go_ret2
    exact HN.out _ _ _ (k1.alloc _)
  have HL := Lib.hid (fun W (k : Keep w W) => ls_spec a b0 ca cb zs cs W (h.keep k) (h2.keep k) hca hB)
  have HY := Lib.hid (And.intro (asL_yes hB) hB)
  rw [hB] at HQ
  clear hB
  go_enter Try.func21, Try.ntmps21
  go_wp2_with fail
  refine HQ.out.mono ?_
  rintro e w1 ⟨rfl, k1⟩
  go_wp2_with fail
  refine (HL.out _ k1).mono ?_
  intro e w2 hM
  obtain ⟨g, c, rfl, hc, _, hN, k2⟩ := hM.nwb HY.out.2 k1
  have HN := Lib.hid hN
  clear hN
  have HY1 := Lib.hid HY.out.1
  clear HY
  generalize asl zs cs = L9 at *
  generalize L9.length = n9 at *
  go_wp2
  go_ret2
  rw [HY1.out]
  exact HN.out
set_option maxRecDepth 100000 in
set_option maxHeartbeats 4000000 in
theorem ao_spec (a b0 : Option Addr) (ca cb : Nat) (zs cs : List Int) (w : World) (h : Ls w a zs) (h2 : Ls w b0 cs) (hca : zs.length ≤ ca) (hm : zs.length ≤ 1048576) (hm2 : cs.length ≤ 1048576) :
    Calls Try.prog 15 #[.slice a zs.length ca, .slice b0 cs.length cb] w (NwB (aoL zs cs) (aoB zs cs) w) := by
  have HQ := Lib.hid (ok_spec a b0 ca cb zs cs w h h2 hm hm2)
  have HNo : Hid (aoB zs cs = false → ∀ x c W, Keep w W → NwB (aoL zs cs) (aoB zs cs) w (.returned (.tuple #[.slice x 0 c, .bool false])) W) := Lib.hid (fun hB x c W k => nwb_no (aoL_no hB) hB _ _ k)
  rcases Bool.eq_false_or_eq_true (ajB zs cs) with hB | hB
  case' inr =>
    have HN := Lib.hid (HNo.out (aoB_no hB))
    rw [hB] at HQ
    clear hB HNo
    go_enter Try.func15, Try.ntmps15
    go_wp2_with fail
    refine HQ.out.mono ?_
    rintro e w1 ⟨rfl, k1⟩
    go_wp2
    go_ret2
    exact HN.out _ _ _ (k1.alloc _)
  have HL := Lib.hid (fun W (k : Keep w W) => ls_spec a b0 ca cb zs cs W (h.keep k) (h2.keep k) hca hB)
  have HA : Hid (∀ W g c, Keep w W → Ls W (some ⟨g, 0, none⟩) (asl zs cs) → Calls Try.prog 34 #[.slice a zs.length ca, .slice b0 cs.length cb, .slice (some ⟨g, 0, none⟩) (asl zs cs).length c, .int .i64 1] W (MdR (adL zs cs (asl zs cs)) W)) := Lib.hid (fun W g c k hl => by
    have h9 := ad_spec a b0 (some ⟨g, 0, none⟩) ca cb c zs cs (asl zs cs) 1 W (h.keep k) (h2.keep k) hl (.inl rfl) hB (asl_len zs cs) (asl_bdS hB)
    rw [map_one] at h9; exact h9)
  have HV : Hid (∀ W g c, Keep w W → Ls W (some ⟨g, 0, none⟩) (adL zs cs (asl zs cs)) → Calls Try.prog 36 #[.slice (some ⟨g, 0, none⟩) (adL zs cs (asl zs cs)).length c] W fun e w' => e = .returned (.bool (aoB zs cs)) ∧ W = w') := Lib.hid (fun W g c k hl => by
    rw [aoB_sh hB]
    exact sv_spec (some ⟨g, 0, none⟩) c (adL zs cs (asl zs cs)) W hl (by rw [adL_len]; exact hm))
  have HY := Lib.hid (fun h : aoB zs cs = true => aoL_yes h)
  rw [hB] at HQ
  clear hB h h2
  go_enter Try.func15, Try.ntmps15
  go_wp2_with fail
  refine HQ.out.mono ?_
  rintro e w1 ⟨rfl, k1⟩
  go_wp2_with fail
  refine (HL.out _ k1).mono ?_
  intro e w2 hM
  obtain ⟨g, c, rfl, hc, hl, _, k2⟩ := hM.nwb (b := true) rfl k1
  have K2 := k1.trans k2
  have HA2 := Lib.hid (HA.out w2 g c K2 hl)
  clear hM hl HA HL
  generalize (asl zs cs).length = n8 at *
  go_wp2_with fail
  refine HA2.out.mono ?_
  intro e w3 hM
  obtain ⟨g3, c3, rfl, hc3, hl3, hN3, k3⟩ := hM.nwb (b := true) rfl K2
  have K3 := K2.trans k3
  have HV2 := Lib.hid (HV.out w3 g3 c3 K3 hl3)
  have HN3 := Lib.hid hN3
  clear hM hl3 HV HA2 hN3
  generalize adL zs cs (asl zs cs) = L at *
  rcases Bool.eq_false_or_eq_true (aoB zs cs) with hb | hb
  · have HY2 := Lib.hid (And.intro (HY.out hb) hb)
    rw [hb] at HV2
    clear HY HNo hb
    generalize L.length = n9 at *
    go_wp2_with fail
    refine HV2.out.mono ?_
    rintro e w4 ⟨rfl, rfl⟩
    go_wp2
    go_ret2
    rw [HY2.out.1, HY2.out.2]
    exact HN3.out
  · have HN := Lib.hid (HNo.out hb)
    rw [hb] at HV2
    clear hb HY HNo HN3
    generalize L.length = n9 at *
    go_wp2_with fail
    refine HV2.out.mono ?_
    rintro e w4 ⟨rfl, rfl⟩
    go_wp2
    go_ret2
    exact HN.out _ _ _ (K3.alloc _)
set_option maxRecDepth 100000 in
set_option maxHeartbeats 4000000 in
theorem ab_spec (a b0 s : Option Addr) (ca cb cs' : Nat) (zs cs st : List Int) (w : World) (h : Ls w a zs) (h2 : Ls w b0 cs) (h3 : Ls w s st) (hca : zs.length ≤ ca) (hm : zs.length ≤ 1048576) (hm2 : cs.length ≤ 1048576) (hm3 : st.length ≤ 1048576) :
    Calls Try.prog 24 #[.slice a zs.length ca, .slice b0 cs.length cb, .slice s st.length cs'] w (NwB (abL zs cs st) (abB zs cs st) w) := by
  have HQ := Lib.hid (ok_spec a b0 ca cb zs cs w h h2 hm hm2)
  have HNo : Hid (abB zs cs st = false → ∀ x c W, Keep w W → NwB (abL zs cs st) (abB zs cs st) w (.returned (.tuple #[.slice x 0 c, .bool false])) W) := Lib.hid (fun hB x c W k => nwb_no (abL_no hB) hB _ _ k)
  rcases Bool.eq_false_or_eq_true (ajB zs cs) with hB | hB
  case' inr =>
    have HN := Lib.hid (HNo.out (abB_no (by rw [abG, hB]; rfl)))
    rw [hB] at HQ
    clear hB HNo
    go_enter Try.func24, Try.ntmps24
    go_wp2_with fail
    refine HQ.out.mono ?_
    rintro e w1 ⟨rfl, k1⟩
    go_wp2
    go_ret2
    exact HN.out _ _ _ (k1.alloc _)
  rw [hB] at HQ
  have hc1 : IntKind.i64.wrap ((cs.length : Int) + 1) = (cs.length : Int) + 1 := IntWalk.i64_in _ ⟨by omega, by omega⟩
  by_cases hl : st.length = cs.length + 1
  case' neg =>
    have HN := Lib.hid (HNo.out (abB_no (by rw [abG, hB, decide_eq_false hl]; rfl)))
    have hne : ((st.length : Int) != (cs.length : Int) + 1) = true := by simp; omega
    clear hB HNo
    go_enter Try.func24, Try.ntmps24
    go_wp2_with fail
    refine HQ.out.mono ?_
    rintro e w1 ⟨rfl, k1⟩
    go_wp2
    go_ret2
    exact HN.out _ _ _ (k1.alloc _)
  have hne : ((st.length : Int) != (cs.length : Int) + 1) = false := by simp; omega
  have HA : Hid (stA st = true → ∀ W, Keep w W → Calls Try.prog 34 #[.slice a zs.length ca, .slice b0 cs.length cb, .slice s st.length cs', .int .i64 (-1)] W (MdR (adL zs cs (ngL st)) W)) := Lib.hid (fun hA W k => by
    have h9 := ad_spec a b0 s ca cb cs' zs cs st (-1) W (h.keep k) (h2.keep k) (h3.keep k) (.inr rfl) hB hl (fun j hj => by have := stA_at hA hj; omega)
    rw [map_neg] at h9; exact h9)
  have HV : Hid (stA st = true → ∀ W g c, Keep w W → Ls W (some ⟨g, 0, none⟩) (adL zs cs (ngL st)) → Calls Try.prog 36 #[.slice (some ⟨g, 0, none⟩) (adL zs cs (ngL st)).length c] W fun e w' => e = .returned (.bool (abB zs cs st)) ∧ W = w') := Lib.hid (fun hA W g c k hl' => by
    rw [abB_sh (abG_of hB hl hA)]
    exact sv_spec (some ⟨g, 0, none⟩) c (adL zs cs (ngL st)) W hl' (by rw [adL_len]; exact hm))
  have HY := Lib.hid (fun h : abB zs cs st = true => abL_yes h)
  have HBad : Hid (stA st = false → abB zs cs st = false) := Lib.hid (fun hA => abB_no (by rw [abG, hA]; simp))
  clear hB h h2 hl
  go_enter Try.func24, Try.ntmps24
  go_wp2_with fail
  refine HQ.out.mono ?_
  rintro e w1 ⟨rfl, k1⟩
  go_wp2_with fail
  go_loopw [8] (fun i wr => ∃ k : Nat, k ≤ st.length ∧ i = .int .i64 k ∧ Hid ((st.take k).all (fun x => inB x (-19999) 19999) = true) ∧ Keep w wr) (fun i _ => st.length - (intOf i).toNat)
  case atStart => exact ⟨0, by omega, rfl, Lib.hid (by simp), k1⟩
  case round =>
    obtain ⟨k, hk, rfl, HAl, hKr⟩ := hrel
    by_cases hlt : k < st.length
    · obtain ⟨b, off, rfl, hb, c0⟩ := (h3.keep hKr).at_ hlt
      have kz : (k : Int) < (st.length : Int) := by omega
      rcases Bool.eq_false_or_eq_true (inB (st.getD k 0) (-19999) 19999) with hr | hr
      · have HS := Lib.hid (stA_take HAl.out hlt hr)
        have HI := Lib.hid (fun W => l6In_any (st.getD k 0) (-19999) 19999 W)
        rw [hr] at HI
        clear hr
        generalize st.getD k 0 = x at *
        go_wp2_with fail
        refine (HI.out _).mono ?_
        rintro e w2 ⟨rfl, rfl⟩
        go_wp2
        go_roundw
        case rel => exact ⟨k + 1, by omega, by go_num, HS, hKr⟩
        case measure => simp [intOf]; omega
      · have HN := Lib.hid (HNo.out (HBad.out (stA_not hlt hr)))
        have HI := Lib.hid (fun W => l6In_any (st.getD k 0) (-19999) 19999 W)
        rw [hr] at HI
        clear hr
        generalize st.getD k 0 = x at *
        go_wp2_with fail
        refine (HI.out _).mono ?_
        rintro e w2 ⟨rfl, rfl⟩
        go_wp2
        go_ret2
        exact HN.out _ _ _ (hKr.alloc _)
    · have hT : stA st = true := by rw [stA, ← List.take_of_length_le (show st.length ≤ k by omega)]; exact HAl.out
      have HA1 := Lib.hid (HA.out hT _ hKr)
      have HV1 := Lib.hid (HV.out hT)
      clear HA HV hT HBad
      go_wp2_with fail
      refine HA1.out.mono ?_
      intro e w3 hM
      obtain ⟨g3, c3, rfl, hc3, hl3, hN3, k3⟩ := hM.nwb (b := true) rfl hKr
      have K3 := hKr.trans k3
      have HV2 := Lib.hid (HV1.out w3 g3 c3 K3 hl3)
      have HN3 := Lib.hid hN3
      clear hM hl3 HV1 HA1 hN3
      generalize adL zs cs (ngL st) = L at *
      rcases Bool.eq_false_or_eq_true (abB zs cs st) with hb | hb
      · have HY2 := Lib.hid (And.intro (HY.out hb) hb)
        rw [hb] at HV2
        clear HY HNo hb
        generalize L.length = n9 at *
        go_wp2_with fail
        refine HV2.out.mono ?_
        rintro e w4 ⟨rfl, rfl⟩
        go_wp2
        go_ret2
        rw [HY2.out.1, HY2.out.2]
        exact HN3.out
      · have HN := Lib.hid (HNo.out hb)
        rw [hb] at HV2
        clear hb HY HNo HN3
        generalize L.length = n9 at *
        go_wp2_with fail
        refine HV2.out.mono ?_
        rintro e w4 ⟨rfl, rfl⟩
        go_wp2
        go_ret2
        exact HN.out _ _ _ (K3.alloc _)
end Go.Proofs.Ytehjjoalnfpgdaa
