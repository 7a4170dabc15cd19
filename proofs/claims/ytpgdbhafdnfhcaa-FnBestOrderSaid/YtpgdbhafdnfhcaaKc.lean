/- The cost of cuts: its parts, and what the program and the model answer. -/
import Derived.Test.YtpgdbhafdnfhcaaKp
import Derived.Test.YtpgdbhafdnfhcaaKv
namespace Go.Proofs.Ytpgdbhafdnfhcaa
open Go.RowKit
set_option linter.unusedVariables false

theorem ls_seg {w : World} {b off : Nat} {zs : List Int} (h : Ls w (some ⟨b, off, none⟩) zs) (i j : Nat) : Ls w (some ⟨b, off + i, none⟩) (seg zs i j) := by
  rcases h with h | ⟨b', off', ha, hb, hc⟩
  · left; rw [h]; simp [seg]
  · injection ha with ha
    injection ha with e1 e2 _
    subst e1; subst e2
    refine .inr ⟨b, off + i, rfl, hb, fun k hk => ?_⟩
    have hl : (seg zs i j).length = min (j - i) (zs.length - i) := by rw [seg, List.length_take, List.length_drop]
    rw [show off + i + k = off + (i + k) by omega, hc (i + k) (by omega), seg_at zs (by omega)]
theorem pcV_bd {zs : List Int} (h : shB zs = true) : 0 ≤ pcV zs ∧ pcV zs ≤ 176000 := by
  obtain ⟨_, _, h3⟩ := sh_mo h
  have hl8 := (shB_facts h).2.1
  rw [pcV_yes h]
  refine ⟨pcN_nn _ _ _, ?_⟩
  have := pcN_bd (zs := zs) (m := mdL zs) (fun j hj => by have := sh_at h hj; omega) (by omega) zs.length (Nat.le_refl _)
  omega
/-- What a part of a cost needs. -/
def PtF (zs : List Int) (p q : Nat) (v : Int) : Prop := shB (seg zs p q) = true ∧ (seg zs p q).length = q - p ∧ pcV (seg zs p q) = v
theorem cc_step {zs cs : List Int} {price : Int} (h : ccB zs cs price = true) {k : Nat} (hk : k < cs.length) : ∃ (p q : Nat) (v : Int), ctP cs k = p ∧ cs.getD k 0 = q ∧ ctP cs (k + 1) = q ∧ p < q ∧ q < zs.length ∧ ccN zs cs (k + 1) = ccN zs cs k + v ∧ PtF zs p q v ∧ 0 ≤ v ∧ v ≤ 176000 := by
  obtain ⟨h1, h2, _⟩ := ccB_facts h
  obtain ⟨h3, h4⟩ := ctB_facts h2
  obtain ⟨h5, h6⟩ := h4 k hk
  have hA : ctA cs zs.length k = true := ctA_all _ fun j hj => ctS_of (h4 j (by omega))
  have h0 := ctP_nn k hA
  obtain ⟨p, hp⟩ := Int.eq_ofNat_of_zero_le h0
  obtain ⟨q, hq⟩ := Int.eq_ofNat_of_zero_le (show 0 ≤ cs.getD k 0 by omega)
  have hs := seg_sh h1 (show p < q by omega) (show q ≤ zs.length by omega)
  obtain ⟨b0, b1⟩ := pcV_bd hs
  refine ⟨p, q, pcV (seg zs p q), hp, hq, by rw [ctP_succ, hq], by omega, by omega, ?_, ⟨hs, seg_len zs (by omega) (by omega), rfl⟩, b0, b1⟩
  rw [ccN, hp, hq]; rfl
theorem cc_last {zs cs : List Int} {price : Int} (h : ccB zs cs price = true) : ∃ (p : Nat) (v : Int), ctP cs cs.length = p ∧ p < zs.length ∧ ccV zs cs price = price * cs.length + ccN zs cs cs.length + v ∧ PtF zs p zs.length v ∧ 0 ≤ v ∧ v ≤ 176000 := by
  obtain ⟨h1, h2, _⟩ := ccB_facts h
  obtain ⟨h3, h4⟩ := ctB_facts h2
  have hA : ctA cs zs.length cs.length = true := ctA_all _ fun j hj => ctS_of (h4 j hj)
  have h0 := ctP_nn cs.length hA
  have h9 : ctP cs cs.length < zs.length := by
    rw [ctP]
    split
    · omega
    · exact (h4 (cs.length - 1) (by omega)).2
  obtain ⟨p, hp⟩ := Int.eq_ofNat_of_zero_le h0
  have hs := seg_sh h1 (show p < zs.length by omega) (Nat.le_refl _)
  obtain ⟨b0, b1⟩ := pcV_bd hs
  refine ⟨p, pcV (seg zs p zs.length), hp, by omega, ?_, ⟨hs, seg_len zs (by omega) (Nat.le_refl _), rfl⟩, b0, b1⟩
  rw [ccV_yes h, ccR, hp]
  show _ + (_ + pcV (seg zs p zs.length)) = _
  omega
theorem ccN_bd {zs cs : List Int} {price : Int} (h : ccB zs cs price = true) : ∀ k, k ≤ cs.length → 0 ≤ ccN zs cs k ∧ ccN zs cs k ≤ 176000 * (k : Int)
  | 0, _ => by simp [ccN]
  | k + 1, hk => by
    obtain ⟨_, _, v, _, _, _, _, _, h1, _, h2, h3⟩ := cc_step h (show k < cs.length by omega)
    have h4 := ccN_bd h k (by omega)
    rw [h1]; omega
theorem cc_len {zs cs : List Int} {price : Int} (h : ccB zs cs price = true) : 1 ≤ zs.length ∧ zs.length ≤ 8 ∧ cs.length < zs.length ∧ 0 ≤ price ∧ price ≤ 9999 := by
  obtain ⟨h1, h2, h3⟩ := ccB_facts h
  have := ct_len h2
  exact ⟨(sq_facts (shB_facts h1).1).2.1, (shB_facts h1).2.1, by omega, h3⟩
set_option maxRecDepth 100000 in
set_option maxHeartbeats 2000000 in
theorem lc_spec (a b0 : Option Addr) (ca cb : Nat) (zs cs : List Int) (price : Int) (w : World) (h : Ls w a zs) (h2 : Ls w b0 cs) (hca : zs.length ≤ ca) (hs : ccB zs cs price = true) :
    Calls Try.prog 77 #[.slice a zs.length ca, .slice b0 cs.length cb, .int .i64 price] w fun e w' => e = .returned (.int .i64 (ccV zs cs price)) ∧ Keep w w' := by
  obtain ⟨l1, l8, hlc, pr0, pr1⟩ := cc_len hs
  obtain ⟨b, off, rfl, hb, _⟩ := h.at_ (show 0 < zs.length by omega)
  have HP : Hid (∀ p q v, PtF zs p q v → ∀ c W, Keep w W → Calls Try.prog 115 #[.slice (some ⟨b, off + p, none⟩) (q - p) c] W fun e w' => e = .returned (.int .i64 v) ∧ Keep W w') := Lib.hid (fun p q v hp c W k => by
    obtain ⟨e1, e2, e3⟩ := hp
    have := lp_spec (some ⟨b, off + p, none⟩) c (seg zs p q) W (ls_seg (h.keep k) p q) e1
    rwa [e2, e3] at this)
  have HS := Lib.hid hs
  clear hs
  have hml : price * (cs.length : Int) ≤ 9999 * 8 := by
    have h1 : price * (cs.length : Int) ≤ 9999 * (cs.length : Int) := Int.mul_le_mul_of_nonneg_right pr1 (by omega)
    omega
  have hm0 : 0 ≤ price * (cs.length : Int) := Int.mul_nonneg pr0 (by omega)
  obtain ⟨m, hm⟩ : ∃ m, price * (cs.length : Int) = m := ⟨_, rfl⟩
  rw [hm] at hml hm0
  have hwm : IntKind.i64.wrap m = m := IntWalk.i64_in _ ⟨by omega, by omega⟩
  have HM := Lib.hid hm
  go_enter Try.func77, Try.ntmps77
  go_wp2_with fail
  go_loopw [7, 8, 9] (fun o f i wr => ∃ k : Nat, k ≤ cs.length ∧ i = .int .i64 k ∧ o = .int .i64 (m + ccN zs cs k) ∧ f = .int .i64 (ctP cs k) ∧ Keep w wr) (fun _ _ i _ => cs.length - (intOf i).toNat)
  case atStart => exact ⟨0, by omega, rfl, by show _ = Value.int .i64 (m + 0); rw [Int.add_zero, ← hm]; try (congr 1), rfl, Keep.refl w⟩
  case round =>
    obtain ⟨k, hk, rfl, rfl, rfl, hK⟩ := hrel
    clear hm
    by_cases hlt : k < cs.length
    · obtain ⟨bz, oz, rfl, hbz, cz⟩ := (h2.keep hK).at_ hlt
      obtain ⟨p, q, v, e1, e2, e3, hpq, hql, e4, hF, v0, v1⟩ := cc_step HS.out hlt
      obtain ⟨n0, n1⟩ := ccN_bd HS.out k hk
      have HV := Lib.hid (HP.out p q v hF)
      have H4 := Lib.hid e4
      have H3 := Lib.hid e3
      rw [e2] at cz
      rw [e1]
      clear hF e1 e2 e3 e4
      generalize ccN zs cs k = n at *
      have k0 : (0 : Int) ≤ (k : Int) := by omega
      have kz : (k : Int) < (cs.length : Int) := by omega
      have q1 : (0 : Int) ≤ (p : Int) := by omega
      have q2 : (p : Int) ≤ (q : Int) := by omega
      have q3 : (q : Int) ≤ (ca : Int) := by omega
      go_wp2_with fail
      refine (HV.out _ _ hK).mono ?_
      rintro e w9 ⟨rfl, k9⟩
      have cz9 : w9.cell? ⟨bz, oz + k, none⟩ = some (.int .i64 q) := (h2.keep (hK.trans k9)).elim (fun h0 => by rw [h0] at hlt; simp at hlt) (fun ⟨b', o', ha, hb', hc'⟩ => by
        injection ha with ha
        injection ha with e1 e2 _
        subst e1; subst e2
        rw [hc' k hlt, ← ctP_succ, H3.out])
      go_wp2
      go_roundw
      case rel => exact ⟨k + 1, by omega, by go_num, by rw [H4.out]; congr 1; omega, by rw [H3.out], hK.trans k9⟩
      case measure => simp [intOf]; omega
    · obtain rfl : k = cs.length := by omega
      obtain ⟨p, v, e1, hpl, e4, hF, v0, v1⟩ := cc_last HS.out
      obtain ⟨n0, n1⟩ := ccN_bd HS.out cs.length hk
      have HV := Lib.hid (HP.out p zs.length v hF)
      have H4 := Lib.hid e4
      rw [e1]
      clear hF e1 e4
      rw [HM.out] at H4
      generalize ccN zs cs cs.length = n at *
      have q1 : (0 : Int) ≤ (p : Int) := by omega
      have q2 : (p : Int) ≤ (zs.length : Int) := by omega
      have q3 : (zs.length : Int) ≤ (ca : Int) := by omega
      go_wp2_with fail
      refine (HV.out _ _ hK).mono ?_
      rintro e w9 ⟨rfl, k9⟩
      go_wp2
      go_ret
      exact ⟨retI (by rw [H4.out]), hK.trans k9⟩
end Go.Proofs.Ytpgdbhafdnfhcaa
