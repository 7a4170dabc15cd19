/- AdjustSteps, AdjustOf, AdjustBack of the program. -/
import Derived.Test.YtehjjoalnfpgdaaAo
import Derived.Test.YtehjjoalnfpgdaaFc
namespace Go.Proofs.Ytehjjoalnfpgdaa
open Go.RowKit Go.Shelf
set_option linter.unusedVariables false

theorem asl_bd {zs cs : List Int} (h : ajB zs cs = true) : ∀ j, j < cs.length + 1 → -20000 ≤ (asl zs cs).getD j 0 ∧ (asl zs cs).getD j 0 ≤ 20000 := fun j hj => by
  rw [asl_at (by omega)]
  have h1 := mdP_bd h (k := cs.length) (Nat.le_refl _)
  have h2 := mdP_bd h (k := j) (by omega)
  omega
theorem nwb_of {L : List Int} {b : Bool} {w w' : World} {g n c : Nat} (h : Wr w' g L) (hn : n = L.length) (hc : n ≤ c) (hb : b = true) (hg : w.heap.size ≤ g) (hl : g < w'.heap.size) (k : Keep w w') : NwB L b w (.returned (.tuple #[.slice (some ⟨g, 0, none⟩) n c, .bool true])) w' := by
  subst hn; subst hb
  exact ⟨_, c, rfl, hc, .inr ⟨g, rfl, hg, hl, h⟩, k⟩
theorem NwB.from {L : List Int} {b : Bool} {w w0 w' : World} {e : Ending} (h : NwB L b w0 e w') (k : Keep w w0) : NwB L b w e w' := by
  obtain ⟨a, c, he, hc, hF, k2⟩ := h
  refine ⟨a, c, he, hc, ?_, k.trans k2⟩
  rcases hF with hF | ⟨g, h1, h2, h3, h4⟩
  · exact .inl hF
  · exact .inr ⟨g, h1, Nat.le_trans k.size h2, h3, h4⟩
set_option maxRecDepth 100000 in
set_option maxHeartbeats 4000000 in
theorem as_impl (a b0 : Option Addr) (ca cb : Nat) (zs cs : List Int) (w : World) (h : Ls w a zs) (h2 : Ls w b0 cs) (hca : zs.length ≤ ca) (hm : zs.length ≤ 1048576) (hm2 : cs.length ≤ 1048576) :
    Calls Try.prog 18 #[.slice a zs.length ca, .slice b0 cs.length cb] w (NwB (asL zs cs) (ajB zs cs) w) := by
  rcases Bool.eq_false_or_eq_true (ajB zs cs) with hB | hB
  case' inr =>
    have HQ := Lib.hid (po_no a b0 ca cb zs cs w h h2 hm hm2 hB)
    have HN : Hid (∀ W, Keep w W → NwB (asL zs cs) (ajB zs cs) w (.returned (.tuple #[.slice none 0 0, .bool false])) W) := Lib.hid (fun W k => nwb_no (asL_no hB) hB _ _ k)
    clear hB
    go_enter Try.func18, Try.ntmps18
    go_wp2_with fail
    refine HQ.out.mono ?_
    rintro e w1 ⟨rfl, k1⟩
    go_wp2
    go_ret2
    exact HN.out _ k1
  obtain ⟨l1, l8, hlc⟩ := ajB_len hB
  obtain ⟨b, off, rfl, hb, _⟩ := h.at_ (show 0 < zs.length by omega)
  have HQ := Lib.hid (po_impl b off b0 ca cb zs cs w h h2 hca hm hm2 hB)
  have HY := Lib.hid (And.intro (asL_yes hB) hB)
  go_enter Try.func18, Try.ntmps18
  go_wp2_with fail
  refine HQ.out.mono ?_
  rintro e w1 ⟨g, c, rfl, hg, hgl, hc, k1⟩
  have HS := Lib.hid (st_any b off ca g c (cs.length + 1) zs cs w1 (h.keep k1) hB rfl hgl hc)
  obtain ⟨m, hm9⟩ : ∃ m, cs.length + 1 = m := ⟨_, rfl⟩
  have e9 : (cs.length : Int) + 1 = (m : Int) := by omega
  have hlen : Hid (m = (asl zs cs).length) := Lib.hid (by rw [asl_len, hm9])
  rw [hm9] at HS ⊢
  have hk1 := k1.size
  clear hB hc h h2 hm9 e9
  go_wp2_with fail
  refine HS.out.mono ?_
  rintro e w2 ⟨rfl, hl2, hW, k2⟩
  have HW := Lib.hid hW
  clear hW
  go_wp2
  go_ret2
  rw [HY.out.1, HY.out.2]
  exact nwb_of HW.out hlen.out (Nat.le_refl _) rfl hk1 hl2 (k1.trans k2)
set_option maxRecDepth 100000 in
set_option maxHeartbeats 4000000 in
theorem ao_impl (a b0 : Option Addr) (ca cb : Nat) (zs cs : List Int) (w : World) (h : Ls w a zs) (h2 : Ls w b0 cs) (hca : zs.length ≤ ca) (hm : zs.length ≤ 1048576) (hm2 : cs.length ≤ 1048576) :
    Calls Try.prog 14 #[.slice a zs.length ca, .slice b0 cs.length cb] w (NwB (aoL zs cs) (aoB zs cs) w) := by
  rcases Bool.eq_false_or_eq_true (ajB zs cs) with hB | hB
  case' inr =>
    have HQ := Lib.hid (po_no a b0 ca cb zs cs w h h2 hm hm2 hB)
    have HN : Hid (∀ W, Keep w W → NwB (aoL zs cs) (aoB zs cs) w (.returned (.tuple #[.slice none 0 0, .bool false])) W) := Lib.hid (fun W k => nwb_no (aoL_no (aoB_no hB)) (aoB_no hB) _ _ k)
    clear hB
    go_enter Try.func14, Try.ntmps14
    go_wp2_with fail
    refine HQ.out.mono ?_
    rintro e w1 ⟨rfl, k1⟩
    go_wp2
    go_ret2
    exact HN.out _ k1
  obtain ⟨l1, l8, hlc⟩ := ajB_len hB
  obtain ⟨b, off, rfl, hb, _⟩ := h.at_ (show 0 < zs.length by omega)
  have HQ := Lib.hid (po_impl b off b0 ca cb zs cs w h h2 hca hm hm2 hB)
  have HE : Hid (jmL zs cs (asl zs cs) = aoL zs cs ∧ shB (adL zs cs (asl zs cs)) = aoB zs cs) := Lib.hid (by
    rw [jmL, aoL, aoB_sh hB]; exact ⟨rfl, rfl⟩)
  go_enter Try.func14, Try.ntmps14
  go_wp2_with fail
  refine HQ.out.mono ?_
  rintro e w1 ⟨g, c, rfl, hg, hgl, hc, k1⟩
  have HS := Lib.hid (st_any b off ca g c (cs.length + 1) zs cs w1 (h.keep k1) hB rfl hgl hc)
  have HJ := Lib.hid (fun W (k : Keep w1 W) (hW : Wr W w1.heap.size (asl zs cs)) (hl : w1.heap.size < W.heap.size) => jm_any b off ca g c (cs.length + 1) (cs.length + 1) (some ⟨w1.heap.size, 0, none⟩) zs cs (asl zs cs) W ((h.keep k1).keep k) hW.ls hB rfl (asl_len zs cs) (asl_bd hB) (Nat.lt_of_lt_of_le hgl k.size) (fun j hj => k.cell (hc j hj)))
  obtain ⟨m, hm9⟩ : ∃ m, cs.length + 1 = m := ⟨_, rfl⟩
  rw [hm9] at HS HJ ⊢
  clear hB hc h h2 hm9
  go_wp2_with fail
  refine HS.out.mono ?_
  rintro e w2 ⟨rfl, hl2, hW, k2⟩
  have HJ2 := Lib.hid (HJ.out w2 k2 hW hl2)
  rw [HE.out.1, HE.out.2] at HJ2
  have K2' := k1.trans k2
  clear hW HJ HS HQ
  go_wp2_with fail
  refine HJ2.out.mono ?_
  rintro e w3 hN
  have HN := Lib.hid (hN.from K2')
  obtain ⟨x, cc, rfl, _⟩ := hN
  generalize (aoL zs cs).length = n9 at *
  generalize aoB zs cs = bb at *
  go_wp2
  go_ret2
  exact HN.out
set_option maxHeartbeats 2000000 in
theorem bv_any (a : Option Addr) (cap : Nat) (st : List Int) (w : World) (h : Ls w a st) (hm : st.length ≤ 1048576) :
    Calls Try.prog 40 #[.slice a st.length cap] w fun e w' => e = .returned (.bool (stA st)) ∧ w = w' := by
  go_enter Try.func40, Try.ntmps40
  go_wp2_with fail
  go_loopw [7] (fun i wr => ∃ k : Nat, k ≤ st.length ∧ i = .int .i64 k ∧ Hid ((st.take k).all (fun x => inB x (-19999) 19999) = true) ∧ w = wr) (fun i _ => st.length - (intOf i).toNat)
  case atStart => exact ⟨0, by omega, rfl, Lib.hid (by simp), rfl⟩
  case round =>
    obtain ⟨k, hk, rfl, HA, rfl⟩ := hrel
    by_cases hlt : k < st.length
    · obtain ⟨b, off, rfl, hb, c0⟩ := h.at_ hlt
      have kz : (k : Int) < (st.length : Int) := by omega
      rcases Bool.eq_false_or_eq_true (inB (st.getD k 0) (-19999) 19999) with hr | hr
      · have HS := Lib.hid (stA_take HA.out hlt hr)
        simp only [inB, Bool.and_eq_true, decide_eq_true_eq] at hr
        obtain ⟨r0, r1⟩ := hr
        generalize st.getD k 0 = x at *
        have d1 : decide (x < -19999) = false := by simp; omega
        have d2 : decide (19999 < x) = false := by simp; omega
        go_wp2
        go_roundw
        case rel => exact ⟨k + 1, by omega, by go_num, HS, by first | rfl | trivial⟩
        case measure => simp [intOf]; omega
      · have HF := Lib.hid (stA_not hlt hr)
        have hx : st.getD k 0 < -19999 ∨ 19999 < st.getD k 0 := by
          by_cases h1 : st.getD k 0 < -19999
          · exact .inl h1
          · by_cases h2 : 19999 < st.getD k 0
            · exact .inr h2
            · exfalso
              rw [inB_yes ⟨by omega, by omega⟩] at hr; cases hr
        clear hr
        generalize st.getD k 0 = x at *
        rcases hx with hx | hx
        · have d1 : decide (x < -19999) = true := by simp; omega
          go_wp2
          go_ret
          exact ⟨retB HF.out.symm, rfl⟩
        · have d1 : decide (x < -19999) = false := by simp; omega
          have d2 : decide (19999 < x) = true := by simp; omega
          go_wp2
          go_ret
          exact ⟨retB HF.out.symm, rfl⟩
    · have HT : Hid (stA st = true) := Lib.hid (by rw [stA, ← List.take_of_length_le (show st.length ≤ k by omega)]; exact HA.out)
      go_wp2
      go_ret
      exact ⟨retB HT.out.symm, rfl⟩
set_option maxRecDepth 100000 in
set_option maxHeartbeats 4000000 in
theorem ab_impl (a b0 s : Option Addr) (ca cb cs' : Nat) (zs cs st : List Int) (w : World) (h : Ls w a zs) (h2 : Ls w b0 cs) (h3 : Ls w s st) (hca : zs.length ≤ ca) (hm : zs.length ≤ 1048576) (hm2 : cs.length ≤ 1048576) (hm3 : st.length ≤ 1048576) :
    Calls Try.prog 19 #[.slice a zs.length ca, .slice b0 cs.length cb, .slice s st.length cs'] w (NwB (abL zs cs st) (abB zs cs st) w) := by
  have HNo : Hid (abG zs cs st = false → ∀ W, Keep w W → NwB (abL zs cs st) (abB zs cs st) w (.returned (.tuple #[.slice none 0 0, .bool false])) W) := Lib.hid (fun hG W k => nwb_no (abL_no (abB_no hG)) (abB_no hG) _ _ k)
  rcases Bool.eq_false_or_eq_true (ajB zs cs) with hB | hB
  case' inr =>
    have HQ := Lib.hid (po_no a b0 ca cb zs cs w h h2 hm hm2 hB)
    have HN := Lib.hid (HNo.out (by rw [abG, hB]; rfl))
    clear hB HNo
    go_enter Try.func19, Try.ntmps19
    go_wp2_with fail
    refine HQ.out.mono ?_
    rintro e w1 ⟨rfl, k1⟩
    go_wp2
    go_ret2
    exact HN.out _ k1
  obtain ⟨l1, l8, hlc⟩ := ajB_len hB
  obtain ⟨b, off, rfl, hb, _⟩ := h.at_ (show 0 < zs.length by omega)
  have HQ := Lib.hid (po_impl b off b0 ca cb zs cs w h h2 hca hm hm2 hB)
  by_cases hl : st.length = cs.length + 1
  case' neg =>
    have HN := Lib.hid (HNo.out (by rw [abG, hB, decide_eq_false hl]; rfl))
    have hne : ((st.length : Int) != (cs.length : Int) + 1) = true := by simp; omega
    clear hB HNo
    go_enter Try.func19, Try.ntmps19
    go_wp2_with fail
    refine HQ.out.mono ?_
    rintro e w1 ⟨g, c, rfl, hg, hgl, hc, k1⟩
    clear hc
    go_wp2
    go_ret2
    exact HN.out _ k1
  have HV := Lib.hid (fun W (k : Keep w W) => bv_any s cs' st W (h3.keep k) hm3)
  have heq : ((st.length : Int) != (cs.length : Int) + 1) = false := by simp; omega
  rcases Bool.eq_false_or_eq_true (stA st) with hA | hA
  case' inr =>
    have HN := Lib.hid (HNo.out (by rw [abG, hB, hA]; simp))
    have HL := Lib.hid hl
    rw [hA] at HV
    clear hB HNo hA hl
    go_enter Try.func19, Try.ntmps19
    go_wp2_with fail
    refine HQ.out.mono ?_
    rintro e w1 ⟨g, c, rfl, hg, hgl, hc, k1⟩
    clear hc
    go_wp2_with fail
    refine (HV.out _ k1).mono ?_
    rintro e w2 ⟨rfl, rfl⟩
    go_wp2
    go_ret2
    exact HN.out _ k1
  have HE : Hid (jmL zs cs (ngL st) = abL zs cs st ∧ shB (adL zs cs (ngL st)) = abB zs cs st) := Lib.hid (by
    rw [jmL, abL, abB_sh (abG_of hB hl hA)]; exact ⟨rfl, rfl⟩)
  have HCl := Lib.hid (fun W (k : Keep w W) => cloneI_any s cs' st W (h3.keep k) (by omega) hm3)
  have HBd : Hid (∀ j, j < st.length → -19999 ≤ st.getD j 0 ∧ st.getD j 0 ≤ 19999) := Lib.hid (fun j hj => stA_at hA hj)
  have HJ := Lib.hid (fun W (k : Keep w W) g c g2 c2 (hg : g < W.heap.size) (hc : ∀ j, j < cs.length + 1 → W.cell? ⟨g, j, none⟩ = some (prV b off ca zs cs j)) (hW : Wr W g2 (ngL st)) => jm_any b off ca g c (cs.length + 1) c2 (some ⟨g2, 0, none⟩) zs cs (ngL st) W (h.keep k) hW.ls hB rfl (by rw [ngL_len, hl]) (fun j hj => by rw [ngL_at]; have := stA_at hA (j := j) (by omega); omega) hg hc)
  have HNg : Hid (∀ k, k < st.length → ((ngL st).take k ++ st.drop k).set k (-(st.getD k 0)) = (ngL st).take (k + 1) ++ st.drop (k + 1) ∧ ((ngL st).take k ++ st.drop k).getD k 0 = st.getD k 0 ∧ ((ngL st).take k ++ st.drop k).length = st.length) := Lib.hid (fun k hk => by
    have hl1 : ((ngL st).take k).length = k := by rw [List.length_take, ngL_len]; omega
    have e1 : st.drop k = st.getD k 0 :: st.drop (k + 1) := by
      rw [List.drop_eq_getElem_cons hk]; simp [List.getD_eq_getElem?_getD, hk]
    refine ⟨?_, ?_, ?_⟩
    · rw [List.set_append_right _ _ (by omega), hl1, Nat.sub_self, e1, List.set_cons_zero, List.take_succ_eq_append_getElem (by rw [ngL_len]; exact hk), List.append_assoc]
      have : (ngL st)[k]'(by rw [ngL_len]; exact hk) = -(st.getD k 0) := by
        have h9 := ngL_at st k
        simpa [List.getD_eq_getElem?_getD, ngL_len, hk] using h9
      rw [this]; rfl
    · rw [List.getD_eq_getElem?_getD, List.getElem?_append_right (by omega), hl1, Nat.sub_self, e1]; rfl
    · rw [List.length_append, hl1, List.length_drop]; omega)
  have HFin : Hid ((ngL st).take st.length ++ st.drop st.length = ngL st) := Lib.hid (by rw [List.drop_length, List.append_nil, ← ngL_len st, List.take_length])
  rw [hA] at HV
  obtain ⟨m, hm9⟩ : ∃ m, cs.length + 1 = m := ⟨_, rfl⟩
  have hstm : st.length = m := by omega
  have hm8 : m ≤ 8 := by omega
  rw [hstm] at HV HCl HBd HNg HFin ⊢
  rw [hm9] at HJ
  have hPo : ∀ e W, PoPost b off ca zs cs w e W → ∃ g c, e = .returned (.tuple #[.slice (some ⟨g, 0, none⟩) m c, .bool true]) ∧ g < W.heap.size ∧ Hid (∀ j, j < m → W.cell? ⟨g, j, none⟩ = some (prV b off ca zs cs j)) ∧ Keep w W := fun e W ⟨g, c, h1, h2, h3, h4, h5⟩ => ⟨g, c, by rw [← hm9]; exact h1, h3, Lib.hid (by rw [← hm9]; exact h4), h5⟩
  have HPo := Lib.hid hPo
  clear hB hl hA h h2 h3 HNo heq hm9 hstm hm2 hm3 hPo hlc
  go_enter Try.func19, Try.ntmps19
  go_wp2_with fail
  refine HQ.out.mono ?_
  intro e w1 hp
  obtain ⟨g, c, rfl, hgl, hcc, k1⟩ := HPo.out _ _ hp
  clear hp HPo HQ
  go_wp2_with fail
  refine (HV.out _ k1).mono ?_
  rintro e w2 ⟨rfl, rfl⟩
  go_wp2_with fail
  refine (HCl.out _ k1).mono ?_
  rintro e w2 ⟨g2, c2, rfl, hq2, hg2, hl2, hW2, k2⟩
  have HW2 := Lib.hid hW2
  have hk1 := k1.size
  have hk2 := k2.size
  clear hW2 HV HCl
  go_wp2_with fail
  go_loopw [36] (fun i wr => ∃ k : Nat, k ≤ m ∧ i = .int .i64 k ∧ Hid (Wr wr g2 ((ngL st).take k ++ st.drop k)) ∧ g2 < wr.heap.size ∧ Keep w1 wr) (fun i _ => m - (intOf i).toNat)
  case atStart => exact ⟨0, by omega, rfl, Lib.hid (by simpa using HW2.out), hl2, k2⟩
  case round =>
    obtain ⟨k, hk, rfl, HW, hlw, hK⟩ := hrel
    by_cases hlt : k < m
    · obtain ⟨hP, hG, hLn⟩ := HNg.out k hlt
      obtain ⟨u0, u1⟩ := HW.out k (by rw [hLn]; exact hlt)
      rw [hG] at u0
      have HWN := Lib.hid (HW.out.set (k := k) (by rw [hLn]; exact hlt) (-(st.getD k 0)))
      rw [hP] at HWN
      obtain ⟨b1, b2⟩ := HBd.out k hlt
      clear hP hG hLn
      have kz : (k : Int) < (m : Int) := by omega
      generalize st.getD k 0 = x at *
      have wx : IntKind.i64.wrap (-x) = -x := IntWalk.i64_in _ ⟨by omega, by omega⟩
      go_wp2
      go_roundw
      case rel => exact ⟨k + 1, by omega, by go_num, HWN, by simpa [World.setCell] using hlw, hK.setCell hg2 _⟩
      case measure => simp [intOf]; omega
    · have HWF : Hid (Wr wr g2 (ngL st)) := Lib.hid (by
        have h9 := HW.out
        rw [show k = m by omega, HFin.out] at h9
        exact h9)
      have HJ2 := Lib.hid (HJ.out wr (k1.trans hK) g c g2 c2 (Nat.lt_of_lt_of_le hgl hK.size) (fun j hj => hK.cell (hcc.out j hj)) HWF.out)
      rw [HE.out.1, HE.out.2] at HJ2
      have K9 := k1.trans hK
      clear HJ HWF HW HNg
      go_wp2_with fail
      refine HJ2.out.mono ?_
      rintro e w3 hN
      have HN := Lib.hid (hN.from K9)
      obtain ⟨x, cc, rfl, _⟩ := hN
      generalize (abL zs cs st).length = n9 at *
      generalize abB zs cs st = bb at *
      go_wp2
      go_ret2
      exact HN.out
end Go.Proofs.Ytehjjoalnfpgdaa
