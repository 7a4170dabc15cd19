/- Cleaned series: the program and the model answer 'fcOk', 'fcL'. -/
import Derived.Test.YtpgdbhafdnfhcaaSq
import Derived.Test.YtpgdbhafdnfhcaaSe
import Derived.Lib.AppendZeros
import Derived.WalkSpells
namespace Go.Proofs.Ytpgdbhafdnfhcaa
open Go.RowKit
set_option linter.unusedVariables false

theorem infoIntC : (Try.prog.info? 3).map (fun i => (i.zero, i.size, i.bytes)) = some (some (.int .i64 0), 1, 8) := by kernel_rfl
theorem fl_no {f : Int} (h : inB f 0 15 = false) : f < 0 ∨ 15 < f := by
  by_cases hh : 0 ≤ f ∧ f ≤ 15
  · rw [inB_yes hh] at h; cases h
  · omega
theorem fl_bd' {f : Int} (h : inB f 0 15 = true) : 0 ≤ f ∧ f ≤ 15 := by simp [inB] at h; omega
def FcPost (zs fs : List Int) (w : World) (e : Ending) (w' : World) : Prop :=
  ∃ (a : Option Addr) (c : Nat), e = .returned (.tuple #[.slice a (fcL zs fs).length c, .bool (fcOk zs fs)]) ∧ Fresh w w' a (fcL zs fs) ∧ Keep w w'
theorem fc_post_no {zs fs : List Int} {w w' : World} (h : fcOk zs fs = false) (a : Option Addr) (c : Nat) (k : Keep w w') : FcPost zs fs w (.returned (.tuple #[.slice a 0 c, .bool false])) w' := by
  have e := fcL_no h
  refine ⟨a, c, ?_, .inl e, k⟩
  rw [e, h]; rfl
/-- The rows that a call owns, as a list that may be written. -/
theorem wr_own {w : World} {base g n c : Nat} {e : TypeId} {zs : List Int} (h : w.ownsRow base e 1 (.slice (some ⟨g, 0, none⟩) n c) n (zs.map (Value.int .i64))) : Wr w g zs ∧ base ≤ g ∧ g < w.heap.size := by
  have hl : n = zs.length := by have := h.1; simp at this; omega
  refine ⟨fun j hj => ⟨?_, World.ownsRow.frozenAt h j⟩, (World.ownsRow.lt h g rfl).1, (World.ownsRow.lt h g rfl).2⟩
  rw [World.ownsRow.cellAt h j (by omega)]
  simp [hj, List.getD_eq_getElem?_getD]
theorem own_capI {w : World} {base g n c : Nat} {e : TypeId} {vs : List Value} (h : w.ownsRow base e 1 (.slice (some ⟨g, 0, none⟩) n c) n vs) : n ≤ c := by
  rcases id h.2 with ⟨hn, _⟩ | ⟨g', cap', cur, hn, _, hc, _⟩
  · cases hn
  · injection hn with _ _ hn; subst hn; omega
set_option maxRecDepth 100000 in
set_option maxHeartbeats 1000000 in
theorem cloneI_any (a : Option Addr) (cap : Nat) (zs : List Int) (w : World) (h : Ls w a zs) (h0 : 0 < zs.length) (hm : zs.length ≤ 1048576) :
    Calls Try.prog 126 #[.slice a zs.length cap] w fun e w' => ∃ g c, e = .returned (.slice (some ⟨g, 0, none⟩) zs.length c) ∧ zs.length ≤ c ∧ w.heap.size ≤ g ∧ g < w'.heap.size ∧ Wr w' g zs ∧ Keep w w' := by
  obtain ⟨b, off, rfl, hb, hc⟩ := h.all h0
  obtain ⟨i0, hi, hz0, hz1, hz2⟩ := info_parts infoIntC
  have hown := World.ownsRow_made (base := w.heap.size) (e := 3) (size := 1) w #[] 0 (Nat.le_refl _) (by unfold maxLen; omega) rfl
  have hq := fun (w : World) (a : Option Addr) (n c n' c' : Nat) => Lib.run_eql_slice_nil (P := Try.prog) w 43 3 a n c n' c' Try.underlying43
  go_enter Try.func126, Try.ntmps126
  go_wp2_with (at_builtin; refine wpList_append_own _ rfl _ _ 43 rfl w.heap.size 3 i0 (.int .i64 0) 1 8 Try.underlying43 hi hz0 hz1 hz2 rfl (by decide) _ _ _ rfl hown ⟨b, off, none⟩ zs.length cap (zs.map (Value.int .i64)) rfl ?la ?ca ?ka ?ma ?ba ?sa ?_)
  case la => first | done | (simp; done) | (simp; omega)
  case ca =>
    intro j u hj
    have hlt : j < zs.length := by
      have := (List.getElem?_eq_some_iff.1 hj).1; simpa using this
    have h1 := (((Keep.refl w).alloc (.cells #[] 3)).cell (hc j hlt))
    have hu : u = .int .i64 (zs.getD j 0) := by
      simp [hlt] at hj; rw [← hj]; simp [List.getD_eq_getElem?_getD, hlt]
    subst hu
    by_cases h0 : j = 0
    · subst h0; simpa [Addr.add] using h1
    · simpa [Addr.add, h0] using h1
  case ka => first | (intro u hu; rfl) | (intro u hu; simp at hu; obtain ⟨x, hx, rfl⟩ := hu; rfl)
  case ma => unfold maxLen; omega
  case ba => omega
  case sa => first | omega | (simp; try omega)
  intro v' w5 hown' hgrow hnil
  try rw [Nat.zero_add] at hown'
  try rw [List.nil_append] at hown'
  obtain ⟨g', c', rfl, hbg, hlg⟩ := hown'.form h0
  have HW := Lib.hid (wr_own hown').1
  have hcp := own_capI hown'
  have HK2 := Lib.hid ((Below.grown ((Keep.refl w).alloc (.cells #[] 3)) hgrow ((Keep.refl w).alloc (.cells #[] 3)).size (fun q hq => (hown.lt q hq).1)) : Keep w w5)
  clear hown' hgrow hnil hown hc h
  go_wp2
  go_ret
  exact ⟨g', c', rfl, hcp, hbg, hlg, HW.out, HK2.out⟩
theorem fc_no1 {zs fs : List Int} (h : sqB zs = false) : fcOk zs fs = false := by rw [fcOk, h]; rfl
theorem fc_no2 {zs fs : List Int} (h : ¬ fs.length = zs.length) : fcOk zs fs = false := by rw [fcOk]; simp [h]
theorem fc_no3 {zs fs : List Int} (h : fs.all (fun f => inB f 0 15) = false) : fcOk zs fs = false := by rw [fcOk, h]; simp
theorem fc_mix (zs fs : List Int) (k : Nat) (hk : k < zs.length) : ((fcl zs fs).take k ++ zs.drop k).getD k 0 = zs.getD k 0 := by
  have hl : ((fcl zs fs).take k).length = k := by rw [List.length_take, fcl_len]; omega
  simp [List.getD_eq_getElem?_getD, List.getElem?_append_right (show ((fcl zs fs).take k).length ≤ k by omega), hl]
theorem fc_mix_len (zs fs : List Int) (k : Nat) (hk : k ≤ zs.length) : ((fcl zs fs).take k ++ zs.drop k).length = zs.length := by
  rw [List.length_append, List.length_take, fcl_len, List.length_drop]; omega
theorem fc_mix_set (zs fs : List Int) (k : Nat) (hk : k < zs.length) : ((fcl zs fs).take k ++ zs.drop k).set k (fcv (zs.getD k 0) (fs.getD k 0)) = (fcl zs fs).take (k + 1) ++ zs.drop (k + 1) := by
  have hl : ((fcl zs fs).take k).length = k := by rw [List.length_take, fcl_len]; omega
  rw [List.set_append_right _ _ (by omega), hl, Nat.sub_self, List.drop_eq_getElem_cons hk, List.set_cons_zero, fcl_snoc hk, List.append_assoc]
  rfl
theorem fc_mix_same (zs fs : List Int) (k : Nat) (hk : k < zs.length) (h : fs.getD k 0 = 0) : (fcl zs fs).take k ++ zs.drop k = (fcl zs fs).take (k + 1) ++ zs.drop (k + 1) := by
  have e : fcv (zs.getD k 0) (fs.getD k 0) = zs[k] := by rw [h]; simp [fcv, List.getD_eq_getElem?_getD, hk]
  rw [fcl_snoc hk, e, List.append_assoc, List.drop_eq_getElem_cons hk]
  rfl
end Go.Proofs.Ytpgdbhafdnfhcaa
