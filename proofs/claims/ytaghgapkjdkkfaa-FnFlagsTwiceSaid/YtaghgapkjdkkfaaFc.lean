/- Cleaned series: the program and the model answer 'fcOk', 'fcL'. -/
import Derived.Test.YtaghgapkjdkkfaaSq
import Derived.Test.YtaghgapkjdkkfaaSe
import Derived.Lib.AppendZeros
import Derived.WalkSpells
namespace Go.Proofs.Ytaghgapkjdkkfaa
open Go.RowKit
set_option linter.unusedVariables false

theorem infoIntC : (Try.prog.info? 3).map (fun i => (i.zero, i.size, i.bytes)) = some (some (.int .i64 0), 1, 8) := by kernel_rfl
theorem fl_no {f : Int} (h : inB f 0 15 = false) : f < 0 ∨ 15 < f := by
  by_cases hh : 0 ≤ f ∧ f ≤ 15
  · rw [inB_yes hh] at h; cases h
  · omega
theorem fl_bd' {f : Int} (h : inB f 0 15 = true) : 0 ≤ f ∧ f ≤ 15 := by simp [inB] at h; omega
def FcPost (zs fs : List Int) (w : World) (e : Ending) (w' : World) : Prop :=
  ∃ (a : Option Addr) (c : Nat), e = .returned (.tuple #[.slice a (fcL zs fs).length c, .bool (fcOk zs fs)]) ∧ Fresh w w' a (fcL zs fs) ∧ Keep w w'
theorem fc_post_no {zs fs : List Int} {w w' : World} (h : fcOk zs fs = false) (a : Option Addr) (c : Nat) (k : Keep w w') : FcPost zs fs w (.returned (.tuple #[.slice a 0 c, .bool false])) w' := by
  have e := fcL_no h
  refine ⟨a, c, ?_, .inl e, k⟩
  rw [e, h]; rfl
/-- The rows that a call owns, as a list that may be written. -/
theorem wr_own {w : World} {base g n c : Nat} {e : TypeId} {zs : List Int} (h : w.ownsRow base e 1 (.slice (some ⟨g, 0, none⟩) n c) n (zs.map (Value.int .i64))) : Wr w g zs ∧ base ≤ g ∧ g < w.heap.size := by
  have hl : n = zs.length := by have := h.1; simp at this; omega
  refine ⟨fun j hj => ⟨?_, World.ownsRow.frozenAt h j⟩, (World.ownsRow.lt h g rfl).1, (World.ownsRow.lt h g rfl).2⟩
  rw [World.ownsRow.cellAt h j (by omega)]
  simp [hj, List.getD_eq_getElem?_getD]
theorem own_capI {w : World} {base g n c : Nat} {e : TypeId} {vs : List Value} (h : w.ownsRow base e 1 (.slice (some ⟨g, 0, none⟩) n c) n vs) : n ≤ c := by
  rcases id h.2 with ⟨hn, _⟩ | ⟨g', cap', cur, hn, _, hc, _⟩
  · cases hn
  · injection hn with _ _ hn; subst hn; omega
set_option maxRecDepth 100000 in
set_option maxHeartbeats 1000000 in
theorem cloneI_any (a : Option Addr) (cap : Nat) (zs : List Int) (w : World) (h : Ls w a zs) (h0 : 0 < zs.length) (hm : zs.length ≤ 1048576) :
    Calls Try.prog 46 #[.slice a zs.length cap] w fun e w' => ∃ g c, e = .returned (.slice (some ⟨g, 0, none⟩) zs.length c) ∧ zs.length ≤ c ∧ w.heap.size ≤ g ∧ g < w'.heap.size ∧ Wr w' g zs ∧ Keep w w' := by
  obtain ⟨b, off, rfl, hb, hc⟩ := h.all h0
  obtain ⟨i0, hi, hz0, hz1, hz2⟩ := info_parts infoIntC
  have hown := World.ownsRow_made (base := w.heap.size) (e := 3) (size := 1) w #[] 0 (Nat.le_refl _) (by unfold maxLen; omega) rfl
  have hq := fun (w : World) (a : Option Addr) (n c n' c' : Nat) => Lib.run_eql_slice_nil (P := Try.prog) w 23 3 a n c n' c' Try.underlying23
  go_enter Try.func46, Try.ntmps46
  go_wp2_with (at_builtin; refine wpList_append_own _ rfl _ _ 23 rfl w.heap.size 3 i0 (.int .i64 0) 1 8 Try.underlying23 hi hz0 hz1 hz2 rfl (by decide) _ _ _ rfl hown ⟨b, off, none⟩ zs.length cap (zs.map (Value.int .i64)) rfl ?la ?ca ?ka ?ma ?ba ?sa ?_)
  case la => first | done | (simp; done) | (simp; omega)
  case ca =>
    intro j u hj
    have hlt : j < zs.length := by
      have := (List.getElem?_eq_some_iff.1 hj).1; simpa using this
    have h1 := (((Keep.refl w).alloc (.cells #[] 3)).cell (hc j hlt))
    have hu : u = .int .i64 (zs.getD j 0) := by
      simp [hlt] at hj; rw [← hj]; simp [List.getD_eq_getElem?_getD, hlt]
    subst hu
    by_cases h0 : j = 0
    · subst h0; simpa [Addr.add] using h1
    · simpa [Addr.add, h0] using h1
  case ka => first | (intro u hu; rfl) | (intro u hu; simp at hu; obtain ⟨x, hx, rfl⟩ := hu; rfl)
  case ma => unfold maxLen; omega
  case ba => omega
  case sa => first | omega | (simp; try omega)
  intro v' w5 hown' hgrow hnil
  try rw [Nat.zero_add] at hown'
  try rw [List.nil_append] at hown'
  obtain ⟨g', c', rfl, hbg, hlg⟩ := hown'.form h0
  have HW := Lib.hid (wr_own hown').1
  have hcp := own_capI hown'
  have HK2 := Lib.hid ((Below.grown ((Keep.refl w).alloc (.cells #[] 3)) hgrow ((Keep.refl w).alloc (.cells #[] 3)).size (fun q hq => (hown.lt q hq).1)) : Keep w w5)
  clear hown' hgrow hnil hown hc h
  go_wp2
  go_ret
  exact ⟨g', c', rfl, hcp, hbg, hlg, HW.out, HK2.out⟩
set_option maxHeartbeats 1000000 in
theorem fv_any (a : Option Addr) (cap : Nat) (fs : List Int) (w : World) (h : Ls w a fs) (hm : fs.length ≤ 4611686018427387904) :
    Calls Try.prog 45 #[.slice a fs.length cap] w fun e w' => e = .returned (.bool (fs.all fun f => inB f 0 15)) ∧ w = w' := by
  go_enter Try.func45, Try.ntmps45
  go_wp2_with fail
  go_loop [7] (fun i => ∃ k : Nat, k ≤ fs.length ∧ i = .int .i64 k ∧ Hid ((fs.take k).all (fun f => inB f 0 15) = true)) (fun i => fs.length - (intOf i).toNat)
  case atStart => exact ⟨0, by omega, rfl, Lib.hid (by simp)⟩
  case round =>
    obtain ⟨k, hk, rfl, HA⟩ := hrel
    by_cases hlt : k < fs.length
    · obtain ⟨b, off, rfl, hb, hc⟩ := h.at_ hlt
      rcases Bool.eq_false_or_eq_true (inB (fs.getD k 0) 0 15) with hr | hr
      · have HS := Lib.hid (show (fs.take (k + 1)).all (fun f => inB f 0 15) = true by rw [take_snoc_all _ _ _ hlt, HA.out, hr]; rfl)
        generalize fs.getD k 0 = x at hc hr
        obtain ⟨x0, x1⟩ := fl_bd' hr
        have e1 : decide (x < 0) = false := by simp; omega
        have e2 : decide (15 < x) = false := by simp; omega
        clear hr
        go_wp2
        go_round
        case rel => exact ⟨k + 1, by omega, by go_num, HS⟩
        case measure => simp [intOf]; omega
      · have HF := Lib.hid (all_not (fun f => inB f 0 15) fs k hlt hr)
        generalize fs.getD k 0 = x at hc hr
        have hx := fl_no hr
        clear hr
        rcases hx with hx | hx
        · have e1 : decide (x < 0) = true := by simp; omega
          go_wp2
          go_ret
          exact ⟨retB HF.out.symm, rfl⟩
        · have e1 : decide (x < 0) = false := by simp; omega
          have e2 : decide (15 < x) = true := by simp; omega
          go_wp2
          go_ret
          exact ⟨retB HF.out.symm, rfl⟩
    · have HT : Hid (fs.all (fun f => inB f 0 15) = true) := Lib.hid (by have := HA.out; rwa [take_all hlt] at this)
      go_wp2
      go_ret
      exact ⟨retB HT.out.symm, rfl⟩
theorem fc_no1 {zs fs : List Int} (h : sqB zs = false) : fcOk zs fs = false := by rw [fcOk, h]; rfl
theorem fc_no2 {zs fs : List Int} (h : ¬ fs.length = zs.length) : fcOk zs fs = false := by rw [fcOk]; simp [h]
theorem fc_no3 {zs fs : List Int} (h : fs.all (fun f => inB f 0 15) = false) : fcOk zs fs = false := by rw [fcOk, h]; simp
theorem fc_mix (zs fs : List Int) (k : Nat) (hk : k < zs.length) : ((fcl zs fs).take k ++ zs.drop k).getD k 0 = zs.getD k 0 := by
  have hl : ((fcl zs fs).take k).length = k := by rw [List.length_take, fcl_len]; omega
  simp [List.getD_eq_getElem?_getD, List.getElem?_append_right (show ((fcl zs fs).take k).length ≤ k by omega), hl]
theorem fc_mix_len (zs fs : List Int) (k : Nat) (hk : k ≤ zs.length) : ((fcl zs fs).take k ++ zs.drop k).length = zs.length := by
  rw [List.length_append, List.length_take, fcl_len, List.length_drop]; omega
theorem fc_mix_set (zs fs : List Int) (k : Nat) (hk : k < zs.length) : ((fcl zs fs).take k ++ zs.drop k).set k (fcv (zs.getD k 0) (fs.getD k 0)) = (fcl zs fs).take (k + 1) ++ zs.drop (k + 1) := by
  have hl : ((fcl zs fs).take k).length = k := by rw [List.length_take, fcl_len]; omega
  rw [List.set_append_right _ _ (by omega), hl, Nat.sub_self, List.drop_eq_getElem_cons hk, List.set_cons_zero, fcl_snoc hk, List.append_assoc]
  rfl
theorem fc_mix_same (zs fs : List Int) (k : Nat) (hk : k < zs.length) (h : fs.getD k 0 = 0) : (fcl zs fs).take k ++ zs.drop k = (fcl zs fs).take (k + 1) ++ zs.drop (k + 1) := by
  have e : fcv (zs.getD k 0) (fs.getD k 0) = zs[k] := by rw [h]; simp [fcv, List.getD_eq_getElem?_getD, hk]
  rw [fcl_snoc hk, e, List.append_assoc, List.drop_eq_getElem_cons hk]
  rfl
set_option maxRecDepth 100000 in
set_option maxHeartbeats 2000000 in
theorem fc_impl (a b : Option Addr) (c d : Nat) (zs fs : List Int) (w : World) (h : Ls w a zs) (h2 : Ls w b fs) (hm : zs.length ≤ 4611686018427387904) (hm2 : fs.length ≤ 4611686018427387904) :
    Calls Try.prog 22 #[.slice a zs.length c, .slice b fs.length d] w (FcPost zs fs w) := by
  rcases Bool.eq_false_or_eq_true (sqB zs) with hq | hq
  case' inr =>
    have H := Lib.hid (fc_no1 (fs := fs) hq)
    go_enter Try.func22, Try.ntmps22
    go_wp2_with (go_at_call 24; refine (sqv_impl a c zs _ h hm).mono ?_; rintro e w' ⟨he, rfl⟩; rw [hq] at he; subst he)
    go_ret2
    exact fc_post_no H.out none 0 (Keep.refl _)
  by_cases hl : fs.length = zs.length
  case' neg =>
    have H := Lib.hid (fc_no2 hl)
    have e3 : ((fs.length : Int) != (zs.length : Int)) = true := by simp; omega
    have e4 : (fs.length != zs.length) = true := by simp; omega
    go_enter Try.func22, Try.ntmps22
    go_wp2_with (go_at_call 24; refine (sqv_impl a c zs _ h hm).mono ?_; rintro e w' ⟨he, rfl⟩; rw [hq] at he; subst he)
    go_ret2
    exact fc_post_no H.out none 0 (Keep.refl _)
  have e3 : ((fs.length : Int) != (zs.length : Int)) = false := by simp; omega
  have e4 : (fs.length != zs.length) = false := by simp; omega
  have HL := Lib.hid hl
  rcases Bool.eq_false_or_eq_true (fs.all fun f => inB f 0 15) with hs | hs
  case' inr =>
    have H := Lib.hid (fc_no3 (zs := zs) hs)
    clear hl
    go_enter Try.func22, Try.ntmps22
    go_wp2_with (first | (go_at_call 24; refine (sqv_impl a c zs _ h hm).mono ?_; rintro e w' ⟨he, rfl⟩; rw [hq] at he; subst he) | (go_at_call 45; refine (fv_any b d fs _ h2 hm2).mono ?_; rintro e w' ⟨he, rfl⟩; rw [hs] at he; subst he))
    go_ret2
    exact fc_post_no H.out none 0 (Keep.refl _)
  have hok : fcOk zs fs = true := by rw [fcOk, hq, hs]; simp [hl]
  have HO := Lib.hid (And.intro hok (fcL_yes hok))
  obtain ⟨hl1, hl12⟩ := (sq_facts hq).2
  have HFB := Lib.hid (fun k (hk : k < fs.length) => fl_bd' (all_at hs hk))
  clear hok hl
  go_enter Try.func22, Try.ntmps22
  go_wp2_with (first | (go_at_call 24; refine (sqv_impl a c zs _ h hm).mono ?_; rintro e w' ⟨he, rfl⟩; rw [hq] at he; subst he) | (go_at_call 45; refine (fv_any b d fs _ h2 hm2).mono ?_; rintro e w' ⟨he, rfl⟩; rw [hs] at he; subst he))
  clear hq hs
  refine (cloneI_any a c zs _ h (by omega) (by omega)).mono ?_
  rintro e w2 ⟨g, cc, rfl, hcc, hg0, hg1, hW, k2⟩
  have HWs := Lib.hid hW
  clear hW
  go_wp2_with fail
  go_loopw [27] (fun i wr => ∃ k : Nat, k ≤ zs.length ∧ i = .int .i64 k ∧ Hid (Wr wr g ((fcl zs fs).take k ++ zs.drop k)) ∧ g < wr.heap.size ∧ Keep w wr) (fun i _ => zs.length - (intOf i).toNat)
  case atStart => exact ⟨0, by omega, rfl, Lib.hid (by simpa using HWs.out), hg1, k2⟩
  case round =>
    obtain ⟨k, hk, rfl, HW, hlr, hK⟩ := hrel
    by_cases hlt : k < zs.length
    · have hltf : k < fs.length := by have := HL.out; omega
      obtain ⟨bf, of, rfl, hbf, cf⟩ := (h2.keep hK).at_ hltf
      by_cases hf : fs.getD k 0 = 0
      · have HM := Lib.hid (fc_mix_same zs fs k hlt hf)
        rw [hf] at cf
        rw [HM.out] at HW
        clear hf HM
        go_wp2
        go_roundw
        case rel => exact ⟨k + 1, by omega, by go_num, HW, hlr, hK⟩
        case measure => simp [intOf]; omega
      · have hf2 : (fs.getD k 0 != 0) = true := bne_iff_ne.2 hf
        have HP := Lib.hid (fc_mix_set zs fs k hlt)
        rw [fcv, if_neg hf] at HP
        have hml := fc_mix_len zs fs k hk
        obtain ⟨u0, u1⟩ := HW.out k (by omega)
        have HW2 := Lib.hid (HW.out.set (k := k) (by omega) (-9999))
        rw [HP.out] at HW2
        clear hf HP hml
        generalize fs.getD k 0 = f at cf hf2
        generalize ((fcl zs fs).take k ++ zs.drop k).getD k 0 = v at u0
        go_wp2
        go_roundw
        case rel => exact ⟨k + 1, by omega, by go_num, HW2, by simpa [World.setCell] using hlr, hK.setCell hg0 _⟩
        case measure => simp [intOf]; omega
    · have HW2 : Hid (Wr wr g (fcl zs fs)) := Lib.hid (by have h1 := HW.out; rw [List.take_of_length_le (by rw [fcl_len]; omega), List.drop_eq_nil_of_le (by omega)] at h1; simpa using h1)
      go_wp2
      go_ret2
      refine ⟨some ⟨g, 0, none⟩, cc, ?_, .inr ⟨_, rfl, hg0, hlr, by rw [HO.out.2]; exact HW2.out⟩, hK⟩
      rw [HO.out.1, HO.out.2, fcl_len]
      rfl
set_option maxRecDepth 100000 in
set_option maxHeartbeats 2000000 in
theorem fc_spec (a b : Option Addr) (c d : Nat) (zs fs : List Int) (w : World) (h : Ls w a zs) (h2 : Ls w b fs) (hm : zs.length ≤ 4611686018427387904) (hm2 : fs.length ≤ 4611686018427387904) :
    Calls Try.prog 23 #[.slice a zs.length c, .slice b fs.length d] w (FcPost zs fs w) := by
  rcases Bool.eq_false_or_eq_true (sqB zs) with hq | hq
  case' inr =>
    have H := Lib.hid (fc_no1 (fs := fs) hq)
    go_enter Try.func23, Try.ntmps23
    go_wp2_with (go_at_call 31; refine (sqv_spec a c zs _ h hm).mono ?_; rintro e w' ⟨he, rfl⟩; rw [hq] at he; subst he)
    go_ret2
    exact fc_post_no H.out _ 0 ((Keep.refl _).alloc _)
  by_cases hl : fs.length = zs.length
  case' neg =>
    have H := Lib.hid (fc_no2 hl)
    have e3 : ((fs.length : Int) != (zs.length : Int)) = true := by simp; omega
    have e4 : (fs.length != zs.length) = true := by simp; omega
    go_enter Try.func23, Try.ntmps23
    go_wp2_with (go_at_call 31; refine (sqv_spec a c zs _ h hm).mono ?_; rintro e w' ⟨he, rfl⟩; rw [hq] at he; subst he)
    go_ret2
    exact fc_post_no H.out _ 0 ((Keep.refl _).alloc _)
  have e3 : ((fs.length : Int) != (zs.length : Int)) = false := by simp; omega
  have e4 : (fs.length != zs.length) = false := by simp; omega
  have HL := Lib.hid hl
  obtain ⟨hl1, hl12⟩ := (sq_facts hq).2
  have HQ := Lib.hid hq
  obtain ⟨i0, hi0, hz0, hz1, hz2⟩ := info_parts infoIntC
  clear hl
  go_enter Try.func23, Try.ntmps23
  go_wp2_with (go_at_call 31; refine (sqv_spec a c zs _ h hm).mono ?_; rintro e w' ⟨he, rfl⟩; rw [hq] at he; subst he)
  clear hq
  go_loopw [6, 7] (fun u i wr => ∃ (k g cc : Nat), k ≤ zs.length ∧ i = .int .i64 k ∧ u = .slice (some ⟨g, 0, none⟩) k cc ∧ Hid ((fs.take k).all (fun f => inB f 0 15) = true) ∧ Hid (wr.ownsRow w.heap.size 3 1 (.slice (some ⟨g, 0, none⟩) k cc) k (((fcl zs fs).take k).map (Value.int .i64))) ∧ Keep w wr) (fun _ i _ => zs.length - (intOf i).toNat)
  case atStart => exact ⟨0, w.heap.size, 0, by omega, rfl, rfl, Lib.hid (by simp), Lib.hid (World.ownsRow_made w #[] 0 (Nat.le_refl _) (by unfold maxLen; omega) rfl), (Keep.refl w).alloc _⟩
  case round =>
    obtain ⟨k, g, cc, hk, rfl, rfl, HA, HW, hK⟩ := hrel
    have hsz := hK.size
    by_cases hlt : k < zs.length
    · have hltf : k < fs.length := by have := HL.out; omega
      obtain ⟨bf, of, rfl, hbf, cf⟩ := (h2.keep hK).at_ hltf
      rcases Bool.eq_false_or_eq_true (inB (fs.getD k 0) 0 15) with hr | hr
      case' inr =>
        have HF := Lib.hid (fc_no3 (zs := zs) (all_not (fun f => inB f 0 15) fs k hltf hr))
        generalize fs.getD k 0 = x at cf hr
        go_wp2_with (go_at_call 43; refine (l6In_any _ _ _ _).mono ?_; rintro e w' ⟨he, rfl⟩; rw [hr] at he; subst he)
        go_ret2
        exact fc_post_no HF.out _ 0 (hK.alloc _)
      have HA2 := Lib.hid (show (fs.take (k + 1)).all (fun f => inB f 0 15) = true by rw [take_snoc_all _ _ _ hltf, HA.out, hr]; rfl)
      obtain ⟨x0, x1⟩ := fl_bd' hr
      have HS := Lib.hid (fcl_snoc (fs := fs) hlt)
      have hown := HW.out
      by_cases hf : fs.getD k 0 = 0
      · obtain ⟨bz, oz, rfl, hbz, cz⟩ := (h.keep hK).at_ hlt
        rw [fcv, if_pos hf] at HS
        rw [hf] at cf hr
        clear x0 x1 hf
        generalize zs.getD k 0 = y at cz HS
        go_wp2_with (first | (go_at_call 43; refine (l6In_any _ _ _ _).mono ?_; rintro e w' ⟨he, rfl⟩; rw [hr] at he; subst he) | (at_builtin; refine wpList_append_own _ rfl _ _ 23 rfl w.heap.size 3 i0 (.int .i64 0) 1 8 Try.underlying23 hi0 hz0 hz1 hz2 rfl (by decide) _ _ _ rfl (hown.alloc _) ⟨wr.heap.size, 0, none⟩ 1 1 [.int .i64 y] rfl rfl ?c1a ?c2a ?c3a ?c4a ?c5a ?_))
        case c1a =>
          intro j u hj
          match j, hj with
          | 0, hj => simp at hj; subst hj; simp [Addr.add]
        case c2a => first | rfl | (intro u hu; simp at hu; subst hu; rfl)
        case c3a => unfold maxLen; omega
        case c4a => omega
        case c5a => first | omega | (simp; omega)
        intro v' w5 hown' hgrow hnil
        obtain ⟨g', c', rfl, hbg, hlg⟩ := hown'.form (by omega)
        have HN : Hid (w5.ownsRow w.heap.size 3 1 (.slice (some ⟨g', 0, none⟩) (k + 1) c') (k + 1) (((fcl zs fs).take (k + 1)).map (Value.int .i64))) := Lib.hid (by rw [HS.out]; simpa using hown')
        have HK2 := Lib.hid ((Below.grown (hK.alloc (.cells #[.int .i64 y] 3)) hgrow (hK.alloc (.cells #[.int .i64 y] 3)).size (fun q hq => (hown.lt q hq).1)) : Keep w w5)
        clear hown' hgrow hnil hown
        go_wp2
        go_roundw
        case rel => exact ⟨k + 1, g', c', by omega, by go_num, rfl, HA2, HN, HK2.out⟩
        case measure => simp [intOf]; omega
      · have hp : decide (0 < fs.getD k 0) = true := decide_eq_true (by omega)
        rw [fcv, if_neg hf] at HS
        clear hf
        generalize fs.getD k 0 = x at cf hr x0 x1 hp
        go_wp2_with (first | (go_at_call 43; refine (l6In_any _ _ _ _).mono ?_; rintro e w' ⟨he, rfl⟩; rw [hr] at he; subst he) | (at_builtin; refine wpList_append_own _ rfl _ _ 23 rfl w.heap.size 3 i0 (.int .i64 0) 1 8 Try.underlying23 hi0 hz0 hz1 hz2 rfl (by decide) _ _ _ rfl (hown.alloc _) ⟨wr.heap.size, 0, none⟩ 1 1 [.int .i64 (-9999)] rfl rfl ?c1a ?c2a ?c3a ?c4a ?c5a ?_))
        case c1a =>
          intro j u hj
          match j, hj with
          | 0, hj => simp at hj; subst hj; simp [Addr.add]
        case c2a => first | rfl | (intro u hu; simp at hu; subst hu; rfl)
        case c3a => unfold maxLen; omega
        case c4a => omega
        case c5a => first | omega | (simp; omega)
        intro v' w5 hown' hgrow hnil
        obtain ⟨g', c', rfl, hbg, hlg⟩ := hown'.form (by omega)
        have HN : Hid (w5.ownsRow w.heap.size 3 1 (.slice (some ⟨g', 0, none⟩) (k + 1) c') (k + 1) (((fcl zs fs).take (k + 1)).map (Value.int .i64))) := Lib.hid (by rw [HS.out]; simpa using hown')
        have HK2 := Lib.hid ((Below.grown (hK.alloc (.cells #[.int .i64 (-9999)] 3)) hgrow (hK.alloc (.cells #[.int .i64 (-9999)] 3)).size (fun q hq => (hown.lt q hq).1)) : Keep w w5)
        clear hown' hgrow hnil hown
        go_wp2
        go_roundw
        case rel => exact ⟨k + 1, g', c', by omega, by go_num, rfl, HA2, HN, HK2.out⟩
        case measure => simp [intOf]; omega
    · obtain rfl : k = zs.length := by omega
      have hok : fcOk zs fs = true := by
        have h1 := HA.out
        rw [← HL.out, List.take_length] at h1
        rw [fcOk, HQ.out, h1]
        simp [HL.out]
      have HO := Lib.hid (And.intro hok (fcL_yes hok))
      have HF : Hid (Wr wr g (fcl zs fs) ∧ w.heap.size ≤ g ∧ g < wr.heap.size) := Lib.hid (by
        have h1 := HW.out
        rw [List.take_of_length_le (by rw [fcl_len]; exact Nat.le_refl _)] at h1
        exact wr_own h1)
      clear hok
      go_wp2
      go_ret2
      refine ⟨some ⟨g, 0, none⟩, cc, ?_, .inr ⟨_, rfl, HF.out.2.1, HF.out.2.2, by rw [HO.out.2]; exact HF.out.1⟩, hK⟩
      rw [HO.out.1, HO.out.2, fcl_len]
      rfl
end Go.Proofs.Ytaghgapkjdkkfaa
