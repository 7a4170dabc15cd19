/- P74: the cost of cuts is the price of each cut and the cost of each part. -/
import Derived.Test.YtmndlghadgccbacDrCu
import Derived.Test.YtmndlghadgccbacKd
import Derived.Test.YtmndlghadgccbacFr
namespace Go.Proofs.Ytmndlghadgccbac
open Go.RowKit
set_option linter.unusedVariables false

set_option maxRecDepth 100000 in
set_option maxHeartbeats 6400000 in
theorem walk_FnCutsCost (a0 : Option Addr) (len0 cap0 : Nat) (z0 : List Int) (w : World) (w0 : IsRow .u8 w a0 len0 cap0 z0) :
    Calls Try.prog 5 #[.slice a0 len0 cap0] w fun e w' => e = .returned (.bool true) ∧ Below w.heap.size w w' := by
  have ha := code_of_row w0
  obtain ⟨hl0, hm0⟩ := ha.1
  unfold maxLen at hm0
  clear w0
  by_cases h : len0 ≤ 1048576
  case' neg =>
    have hd : decide (1048576 < (len0 : Int)) = true := by simp; omega
    go_enter Try.func5, Try.ntmps5
    go_wp2
    go_ret
    exact ⟨rfl, Below.refl _ _⟩
  have hd : decide (1048576 < (len0 : Int)) = false := by simp; omega
  go_enter Try.func5, Try.ntmps5
  go_wp2_with fail
  refine (drawCutsCost a0 len0 cap0 _ ha).mono ?_
  rintro e w1 ⟨a, b0, ca, cb, zs, cs, price, rfl, ⟨hl11, hca⟩, ⟨hl13, hcb⟩, hL1, hC1, ⟨hx0, hx1⟩, k1⟩
  clear ha
  go_wp2_with fail
  refine (cc_impl a b0 ca cb zs cs price _ hL1 hC1 hca (by omega) (by omega)).mono ?_
  rintro e w2 ⟨rfl, k2⟩
  go_wp2_with fail
  refine (cc_spec a b0 ca cb zs cs price _ (hL1.keep k2) (hC1.keep k2) hca (by omega) (by omega)).mono ?_
  rintro e w3 ⟨rfl, k3⟩
  have K3 : Keep w w3 := (k1.trans k2).trans k3
  have hL := (hL1.keep k2).keep k3
  have hC := (hC1.keep k2).keep k3
  clear hL1 hC1 k1 k2 k3
  rcases Bool.eq_false_or_eq_true (ccB zs cs price) with hs | hs
  case' inr =>
    rw [ccV_no hs]
    clear hs
    go_wp2
    go_ret
    exact ⟨rfl, K3⟩
  obtain ⟨l1, l8, hlc, pr0, pr1⟩ := cc_len hs
  obtain ⟨b, off, rfl, hb, _⟩ := hL.at_ (show 0 < zs.length by omega)
  have HP : Hid (∀ p q v, PtF zs p q v → ∀ c W, Keep w3 W → Calls Try.prog 17 #[.slice (some ⟨b, off + p, none⟩) (q - p) c] W fun e w' => e = .returned (.int .i64 v) ∧ Keep W w') := Lib.hid (fun p q v hp c W k => by
    obtain ⟨e1, e2, e3⟩ := hp
    have := pc_impl (some ⟨b, off + p, none⟩) c (seg zs p q) W (ls_seg (hL.keep k) p q) (by rw [e2]; have := (shB_facts e1).2.1; rw [e2] at this; omega)
    rwa [e2, e3] at this)
  have HS := Lib.hid hs
  have hml : price * (cs.length : Int) ≤ 9999 * 8 := by
    have h1 : price * (cs.length : Int) ≤ 9999 * (cs.length : Int) := Int.mul_le_mul_of_nonneg_right pr1 (by omega)
    omega
  have hm0' : 0 ≤ price * (cs.length : Int) := Int.mul_nonneg pr0 (by omega)
  obtain ⟨pz, vz, ez, hpz, eT, hFz, vz0, vz1⟩ := cc_last hs
  obtain ⟨nz0, nz1⟩ := ccN_bd hs cs.length (Nat.le_refl _)
  obtain ⟨m, hmm⟩ : ∃ m, price * (cs.length : Int) = m := ⟨_, rfl⟩
  rw [hmm] at hml hm0' eT
  have hv0 : 0 ≤ ccV zs cs price := by rw [eT]; omega
  have hdv : decide (ccV zs cs price < 0) = false := decide_eq_false (by omega)
  have HT := Lib.hid eT
  have HZ := Lib.hid (HP.out pz zs.length vz hFz)
  have EZ := Lib.hid ez
  have hwm : IntKind.i64.wrap m = m := IntWalk.i64_in _ ⟨by omega, by omega⟩
  clear hs eT hFz ez nz0 nz1
  generalize ccV zs cs price = tot at *
  go_wp2_with fail
  go_loopw [8, 9, 10] (fun o f i wr => ∃ k : Nat, k ≤ cs.length ∧ i = .int .i64 k ∧ o = .int .i64 (m + ccN zs cs k) ∧ f = .int .i64 (ctP cs k) ∧ Keep w3 wr) (fun _ _ i _ => cs.length - (intOf i).toNat)
  case atStart => exact ⟨0, by omega, rfl, by show _ = Value.int .i64 (m + 0); rw [Int.add_zero, ← hmm]; try (congr 1), rfl, Keep.refl _⟩
  case round =>
    obtain ⟨k, hk, rfl, rfl, rfl, hK⟩ := hrel
    clear hmm
    by_cases hlt : k < cs.length
    · obtain ⟨bz, oz, rfl, hbz, cz⟩ := (hC.keep hK).at_ hlt
      obtain ⟨p, q, v, e1, e2, e3, hpq, hql, e4, hF, v0, v1⟩ := cc_step HS.out hlt
      obtain ⟨n0, n1⟩ := ccN_bd HS.out k hk
      have HV := Lib.hid (HP.out p q v hF)
      have H4 := Lib.hid e4
      have H3 := Lib.hid e3
      rw [e2] at cz
      rw [e1]
      clear hF e1 e2 e3 e4
      generalize ccN zs cs k = n at *
      have k0 : (0 : Int) ≤ (k : Int) := by omega
      have kz : (k : Int) < (cs.length : Int) := by omega
      have q1 : (0 : Int) ≤ (p : Int) := by omega
      have q2 : (p : Int) ≤ (q : Int) := by omega
      have q3 : (q : Int) ≤ (ca : Int) := by omega
      go_wp2_with fail
      refine (HV.out _ _ hK).mono ?_
      rintro e w9 ⟨rfl, k9⟩
      have cz9 : w9.cell? ⟨bz, oz + k, none⟩ = some (.int .i64 q) := (hC.keep (hK.trans k9)).elim (fun h0 => by rw [h0] at hlt; simp at hlt) (fun ⟨b', o', ha, hb', hc'⟩ => by
        injection ha with ha
        injection ha with e1 e2 _
        subst e1; subst e2
        rw [hc' k hlt, ← ctP_succ, H3.out])
      go_wp2
      go_roundw
      case rel => exact ⟨k + 1, by omega, by go_num, by rw [H4.out]; congr 1; omega, by rw [H3.out], hK.trans k9⟩
      case measure => simp [intOf]; omega
    · obtain rfl : k = cs.length := by omega
      obtain ⟨n0, n1⟩ := ccN_bd HS.out cs.length hk
      rw [EZ.out]
      generalize ccN zs cs cs.length = n at *
      have q1 : (0 : Int) ≤ (pz : Int) := by omega
      have q2 : (pz : Int) ≤ (zs.length : Int) := by omega
      have q3 : (zs.length : Int) ≤ (ca : Int) := by omega
      have hT := HT.out
      subst hT
      go_wp2_with fail
      refine (HZ.out _ _ hK).mono ?_
      rintro e w9 ⟨rfl, k9⟩
      go_wp2
      go_ret
      exact ⟨retB (by simp), (K3.trans hK).trans k9⟩
end Go.Proofs.Ytmndlghadgccbac
