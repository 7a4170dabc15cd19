/- The cost of cuts: its parts, and what the program and the model answer. -/
import Derived.Test.YtehjjoalnfpgdaaKp
import Derived.Test.YtehjjoalnfpgdaaKv
namespace Go.Proofs.Ytehjjoalnfpgdaa
open Go.RowKit
set_option linter.unusedVariables false

theorem ls_seg {w : World} {b off : Nat} {zs : List Int} (h : Ls w (some ⟨b, off, none⟩) zs) (i j : Nat) : Ls w (some ⟨b, off + i, none⟩) (seg zs i j) := by
  rcases h with h | ⟨b', off', ha, hb, hc⟩
  · left; rw [h]; simp [seg]
  · injection ha with ha
    injection ha with e1 e2 _
    subst e1; subst e2
    refine .inr ⟨b, off + i, rfl, hb, fun k hk => ?_⟩
    have hl : (seg zs i j).length = min (j - i) (zs.length - i) := by rw [seg, List.length_take, List.length_drop]
    rw [show off + i + k = off + (i + k) by omega, hc (i + k) (by omega), seg_at zs (by omega)]
theorem pcV_bd {zs : List Int} (h : shB zs = true) : 0 ≤ pcV zs ∧ pcV zs ≤ 176000 := by
  obtain ⟨_, _, h3⟩ := sh_mo h
  have hl8 := (shB_facts h).2.1
  rw [pcV_yes h]
  refine ⟨pcN_nn _ _ _, ?_⟩
  have := pcN_bd (zs := zs) (m := mdL zs) (fun j hj => by have := sh_at h hj; omega) (by omega) zs.length (Nat.le_refl _)
  omega
/-- What a part of a cost needs. -/
def PtF (zs : List Int) (p q : Nat) (v : Int) : Prop := shB (seg zs p q) = true ∧ (seg zs p q).length = q - p ∧ pcV (seg zs p q) = v
theorem cc_step {zs cs : List Int} {price : Int} (h : ccB zs cs price = true) {k : Nat} (hk : k < cs.length) : ∃ (p q : Nat) (v : Int), ctP cs k = p ∧ cs.getD k 0 = q ∧ ctP cs (k + 1) = q ∧ p < q ∧ q < zs.length ∧ ccN zs cs (k + 1) = ccN zs cs k + v ∧ PtF zs p q v ∧ 0 ≤ v ∧ v ≤ 176000 := by
  obtain ⟨h1, h2, _⟩ := ccB_facts h
  obtain ⟨h3, h4⟩ := ctB_facts h2
  obtain ⟨h5, h6⟩ := h4 k hk
  have hA : ctA cs zs.length k = true := ctA_all _ fun j hj => ctS_of (h4 j (by omega))
  have h0 := ctP_nn k hA
  obtain ⟨p, hp⟩ := Int.eq_ofNat_of_zero_le h0
  obtain ⟨q, hq⟩ := Int.eq_ofNat_of_zero_le (show 0 ≤ cs.getD k 0 by omega)
  have hs := seg_sh h1 (show p < q by omega) (show q ≤ zs.length by omega)
  obtain ⟨b0, b1⟩ := pcV_bd hs
  refine ⟨p, q, pcV (seg zs p q), hp, hq, by rw [ctP_succ, hq], by omega, by omega, ?_, ⟨hs, seg_len zs (by omega) (by omega), rfl⟩, b0, b1⟩
  rw [ccN, hp, hq]; rfl
theorem cc_last {zs cs : List Int} {price : Int} (h : ccB zs cs price = true) : ∃ (p : Nat) (v : Int), ctP cs cs.length = p ∧ p < zs.length ∧ ccV zs cs price = price * cs.length + ccN zs cs cs.length + v ∧ PtF zs p zs.length v ∧ 0 ≤ v ∧ v ≤ 176000 := by
  obtain ⟨h1, h2, _⟩ := ccB_facts h
  obtain ⟨h3, h4⟩ := ctB_facts h2
  have hA : ctA cs zs.length cs.length = true := ctA_all _ fun j hj => ctS_of (h4 j hj)
  have h0 := ctP_nn cs.length hA
  have h9 : ctP cs cs.length < zs.length := by
    rw [ctP]
    split
    · omega
    · exact (h4 (cs.length - 1) (by omega)).2
  obtain ⟨p, hp⟩ := Int.eq_ofNat_of_zero_le h0
  have hs := seg_sh h1 (show p < zs.length by omega) (Nat.le_refl _)
  obtain ⟨b0, b1⟩ := pcV_bd hs
  refine ⟨p, pcV (seg zs p zs.length), hp, by omega, ?_, ⟨hs, seg_len zs (by omega) (Nat.le_refl _), rfl⟩, b0, b1⟩
  rw [ccV_yes h, ccR, hp]
  show _ + (_ + pcV (seg zs p zs.length)) = _
  omega
theorem ccN_bd {zs cs : List Int} {price : Int} (h : ccB zs cs price = true) : ∀ k, k ≤ cs.length → 0 ≤ ccN zs cs k ∧ ccN zs cs k ≤ 176000 * (k : Int)
  | 0, _ => by simp [ccN]
  | k + 1, hk => by
    obtain ⟨_, _, v, _, _, _, _, _, h1, _, h2, h3⟩ := cc_step h (show k < cs.length by omega)
    have h4 := ccN_bd h k (by omega)
    rw [h1]; omega
theorem cc_len {zs cs : List Int} {price : Int} (h : ccB zs cs price = true) : 1 ≤ zs.length ∧ zs.length ≤ 8 ∧ cs.length < zs.length ∧ 0 ≤ price ∧ price ≤ 9999 := by
  obtain ⟨h1, h2, h3⟩ := ccB_facts h
  have := ct_len h2
  exact ⟨(sq_facts (shB_facts h1).1).2.1, (shB_facts h1).2.1, by omega, h3⟩
end Go.Proofs.Ytehjjoalnfpgdaa
