/- P90: sorted values ascend, and are those of the series. -/
import Derived.Test.YtmndlghadgccbaeDrEx
import Derived.Test.YtmndlghadgccbaeSos
import Derived.Test.YtmndlghadgccbaeSu
import Derived.Test.YtmndlghadgccbaeFr
namespace Go.Proofs.Ytmndlghadgccbae
open Go.RowKit
set_option linter.unusedVariables false

set_option maxRecDepth 100000 in
set_option maxHeartbeats 6400000 in
theorem walk_FnSorted (a0 : Option Addr) (len0 cap0 : Nat) (z0 : List Int) (w : World) (w0 : IsRow .u8 w a0 len0 cap0 z0) :
    Calls Try.prog 3 #[.slice a0 len0 cap0] w fun e w' => e = .returned (.bool true) ∧ Below w.heap.size w w' := by
  have ha := code_of_row w0
  obtain ⟨hl0, hm0⟩ := ha.1
  unfold maxLen at hm0
  clear w0
  by_cases h : len0 ≤ 1048576
  case' neg =>
    have hd : decide (1048576 < (len0 : Int)) = true := by simp; omega
    go_enter Try.func3, Try.ntmps3
    go_wp2
    go_ret
    exact ⟨rfl, Below.refl _ _⟩
  have hd : decide (1048576 < (len0 : Int)) = false := by simp; omega
  go_enter Try.func3, Try.ntmps3
  go_wp2_with fail
  refine (drawSortedOf a0 len0 cap0 _ ha).mono ?_
  rintro e w1 ⟨a, c, zs, rfl, hl13, hcap, hB, hL1, k1⟩
  clear ha hB
  go_wp2_with fail
  refine (so_impl a c zs _ hL1 (by omega)).mono ?_
  rintro e w2 ⟨x2, c2, rfl, hc2, hF2, k2⟩
  go_wp2_with fail
  refine (so_spec a c zs _ (hL1.keep k2) (by omega)).mono ?_
  rintro e w3 ⟨x3, c3, rfl, hc3, hF3, k3⟩
  have hr12 := soL_len zs
  go_wp2_with fail
  refine (sI_eq x2 x3 _ _ (soL zs) _ (hF2.ls.keep k3) hF3.ls (by omega)).mono ?_
  rintro e w4 ⟨rfl, k4⟩
  have HO := Lib.hid ((hF2.ls.keep k3).keep k4)
  have HL := Lib.hid (((hL1.keep k2).keep k3).keep k4)
  have K4 : Keep w w4 := ((k1.trans k2).trans k3).trans k4
  have HQS := Lib.hid (sqv_spec a c zs w4 HL.out (by omega))
  have HO3 := Lib.hid (hF3.ls.keep k4)
  clear hF2 hF3 hL1 k1 k2 k3 k4
  rcases Bool.eq_false_or_eq_true (sqB zs) with hs | hs
  case' inr =>
    rw [hs] at HQS
    go_wp2_with fail
    refine HQS.out.mono ?_
    rintro e w5 ⟨rfl, rfl⟩
    go_wp2_with fail
    refine (sI_eq x2 x3 _ _ (soL zs) _ HO.out HO3.out (by omega)).mono ?_
    rintro e w5 ⟨rfl, k5⟩
    go_wp2
    go_ret
    exact ⟨rfl, K4.trans k5⟩
  rw [hs] at HQS
  have HAsc : Hid (∀ k, k + 1 < (soL zs).length → (soL zs).getD k 0 ≤ (soL zs).getD (k + 1) 0) := Lib.hid (fun k hk => by
    rw [soL_yes hs] at hk ⊢
    exact sorted_at (by omega) hk)
  have HSm : Hid (isum (soL zs) = isum (knl zs)) := Lib.hid (by rw [soL_yes hs]; exact isum_perm (sorted_perm _))
  have HLn : Hid ((knl zs).length = (soL zs).length) := Lib.hid (by rw [soL_yes hs, sorted_length])
  have HSk : Hid (sk zs = ((soL zs).length : Int)) := Lib.hid (by rw [sk_yes hs, knN_all, HLn.out])
  have HBk : Hid (∀ x ∈ knl zs, -12000 ≤ x ∧ x ≤ 12000) := Lib.hid (fun x hx => by have := knl_bd hs x hx; omega)
  have HBs : Hid (∀ x ∈ soL zs, -12000 ≤ x ∧ x ≤ 12000) := Lib.hid (fun x hx => by
    rw [soL_yes hs] at hx
    exact HBk.out x ((sorted_perm _).mem_iff.1 hx))
  have HLk := Lib.hid (knl_le zs)
  clear hs
  generalize soL zs = S at *
  generalize hkk : knl zs = Kn at *
  have HKn := Lib.hid hkk
  clear hkk
  go_wp2_with fail
  refine HQS.out.mono ?_
  rintro e w5 ⟨rfl, rfl⟩
  go_wp2_with fail
  go_loopw [6] (fun i wr => ∃ k : Nat, 1 ≤ k ∧ (k ≤ S.length ∨ k = 1) ∧ i = .int .i64 k ∧ Keep w4 wr) (fun i _ => S.length - (intOf i).toNat)
  case atStart => exact ⟨1, by omega, by omega, rfl, Keep.refl _⟩
  case round =>
    obtain ⟨k, hk1, hk, rfl, hK⟩ := hrel
    by_cases hlt : k < S.length
    · obtain ⟨q, hq⟩ : ∃ q, k = q + 1 := ⟨k - 1, by omega⟩
      obtain ⟨b, off, rfl, hb, hcz⟩ := (HO.out.keep hK).all (by omega)
      have d1 := hcz q (by omega)
      have d2 := hcz k hlt
      have hle := HAsc.out q (by omega)
      rw [← hq] at hle
      clear hcz
      generalize S.getD q 0 = x at *
      generalize S.getD k 0 = y at *
      have hdy : decide (y < x) = false := decide_eq_false (by omega)
      have k0 : (0 : Int) ≤ (q : Int) := by omega
      have kz : (q : Int) < (S.length : Int) := by omega
      have k02 : (0 : Int) ≤ (k : Int) := by omega
      have kz2 : (k : Int) < (S.length : Int) := by omega
      have hsub : (k : Int) - 1 = (q : Int) := by omega
      have HQk := Lib.hid hq
      clear hq
      go_wp2_with fail
      go_quiet (fail)
      go_wp2
      go_roundw
      case rel => exact ⟨k + 1, by omega, by omega, by go_num, hK.drewN _⟩
      case measure => simp [intOf]; omega
    · have HKv := Lib.hid (sk_impl a c zs wr (HL.out.keep hK) (by omega))
      rw [HSk.out] at HKv
      have HS1 := Lib.hid (sum_any x2 c2 S wr (HO.out.keep hK) HBs.out (by omega))
      have HN := Lib.hid (known_any a c zs wr (HL.out.keep hK) (by omega))
      rw [HKn.out] at HN
      have hlk : Kn.length ≤ 1000 := by have := HLn.out; omega
      have klt : ¬ (k : Int) < (S.length : Int) := by omega
      go_wp2_with fail
      refine HKv.out.mono ?_
      rintro e w5 ⟨rfl, rfl⟩
      go_wp2_with fail
      refine HS1.out.mono ?_
      rintro e w6 ⟨rfl, rfl⟩
      go_wp2_with fail
      refine HN.out.mono ?_
      rintro e w7 ⟨g7, c7, rfl, hc7, hW7, hg7, hl7, k7⟩
      have HS2 := Lib.hid (sum_any (some ⟨g7, 0, none⟩) c7 Kn w7 hW7.ls HBk.out (by omega))
      rw [← HSm.out] at HS2
      go_wp2_with fail
      refine HS2.out.mono ?_
      rintro e w8 ⟨rfl, rfl⟩
      go_wp2
      go_ret
      exact ⟨rfl, (K4.trans hK).trans k7⟩
end Go.Proofs.Ytmndlghadgccbae
