/- P122: months of days add up. -/
import Derived.Test.YtohoeonfoolpdaaDoorMvkenpdinb
import Derived.Test.YtohoeonfoolpdaaDoorDrMo
import Derived.Test.YtohoeonfoolpdaaDoorFr
namespace Go.Proofs.YtohoeonfoolpdaaDoor
open Go.RowKit
set_option linter.unusedVariables false

set_option maxRecDepth 1000000 in
set_option maxHeartbeats 6400000 in
theorem walk_FnMonthsTwo (a0 : Option Addr) (len0 cap0 : Nat) (z0 : List Int) (w : World) (w0 : IsRow .u8 w a0 len0 cap0 z0) (T : Tabs w) :
    Calls Tryd.prog 5 #[.slice a0 len0 cap0] w fun e w' => e = .returned (.bool true) ∧ Below w.heap.size w w' := by
  have ha := code_of_row w0
  obtain ⟨hl0, hm0⟩ := ha.1
  unfold maxLen at hm0
  clear w0
  by_cases h : len0 ≤ 1048576
  case' neg =>
    have hd : decide (1048576 < (len0 : Int)) = true := by simp; omega
    go_enter Tryd.func5, Tryd.ntmps5
    go_wp2
    go_ret
    exact ⟨rfl, Below.refl _ _⟩
  have hd : decide (1048576 < (len0 : Int)) = false := by simp; omega
  go_enter Tryd.func5, Tryd.ntmps5
  have HT := Lib.hid T
  clear T
  go_wp2_with fail
  refine (drawMonthsOf a0 len0 cap0 _ ha).mono ?_
  rintro e w1 ⟨a, cp, zs, f, c, rfl, hl13, hlc, hB, hL, ⟨f0, f1⟩, hcb, k1⟩
  have hfw : IntKind.i64.wrap f = f := IntWalk.i64_in _ (by omega)
  clear ha hB hcb
  have HI := Lib.hid (mth_impl a cp zs f c w1 (HT.out.keep k1) hL (by omega) hfw)
  have HS := Lib.hid (fun W (hk : Keep w1 W) => mth_spec a cp zs f c W (hL.keep hk) (by omega) hfw)
  have hln := mthL_len (zs := zs) f c
  have HOK := Lib.hid (fun (h9 : mthOk zs f c = true) => mthOk_facts h9)
  have HML := Lib.hid (fun (h9 : mthOk zs f c = true) => mthL_yes h9)
  unfold MthPost at HI HS
  generalize mthL zs f c = L at *
  obtain ⟨ok, hok⟩ : ∃ ok, mthOk zs f c = ok := ⟨_, rfl⟩
  rw [hok] at HI HS HOK HML
  clear hok
  go_wp2_with fail
  refine HI.out.mono ?_
  rintro e w2 ⟨x2, c2, rfl, hc2, hF2, k2⟩
  have K2 := k1.trans k2
  go_wp2_with fail
  refine (HS.out _ k2).mono ?_
  rintro e w3 ⟨x3, c3, rfl, hc3, hF3, k3⟩
  have K3 := K2.trans k3
  have HR3 := Lib.hid (hF2.rs.keep k3)
  have HSM := Lib.hid (fun W (hk : Keep w3 W) => sM_same x2 x3 c2 c3 L W (HR3.out.keep hk) (hF3.rs.keep hk) (by omega))
  have HL3 := Lib.hid ((hL.keep k2).keep k3)
  clear HI HS hF2 hF3 hc2 hc3
  go_wp2_with fail
  refine (HSM.out _ (Keep.refl _)).mono ?_
  rintro e w4 ⟨rfl, k4⟩
  have K4 := K3.trans k4
  cases ok
  · go_wp2_with fail
    refine (HSM.out _ k4).mono ?_
    rintro e w5 ⟨rfl, k5⟩
    go_wp2
    go_ret
    exact ⟨rfl, K4.trans k5⟩
  have HR4 := Lib.hid (HR3.out.keep k4)
  have HL4 := Lib.hid (HL3.out.keep k4)
  have HT4 := Lib.hid (HT.out.keep K4)
  obtain ⟨hsq, hday⟩ := HOK.out rfl
  have hn12 := (sq_facts hsq).2
  have HDT : Hid (∀ j, j < zs.length → ∃ y m d, dv y m d c = true ∧ dn y m d c = f + (j : Int)) := Lib.hid (fun j hj => dayOk_date (hday j hj))
  have HMI : Hid (MInv (mthD f c) zs zs.length) := Lib.hid (mInv (mthD_run HDT.out) (Nat.le_refl _) (by omega) (fun k hk => by
    obtain ⟨y, m, d, h1, h2⟩ := HDT.out k hk
    have e9 : mthD f c k = (y, m, d) := dOf_of h1 h2
    rw [e9]
    obtain ⟨_, _, _, m1, m2, _, _⟩ := dv_facts h1
    exact ⟨(mlen_bd y m c m1 m2).1, m2, m1⟩) _ (by omega) (Nat.le_refl _))
  have HEL : Hid (L = mthN (mthD f c) zs zs.length) := Lib.hid (HML.out rfl)
  have HSQ := Lib.hid hsq
  clear HSM HR3 HL3 HT HOK HML hday hsq hlc hL k1 k2 k3 k4 K2 K3
  have HSU0 := Lib.hid (su_impl a cp zs w4 HL4.out (by omega))
  rw [suL_yes HSQ.out, HSQ.out] at HSU0
  obtain ⟨T0, N0, t, hHead, n0, hn0, hsu, hall, hend⟩ := HMI.out.head
  rw [← HEL.out] at hHead
  have HG0 : Hid (L.getD 0 r0 = ((mthD f c 0).1, (mthD f c 0).2.1, T0, N0)) := Lib.hid (by rw [hHead]; rfl)
  have HLen : Hid (0 < L.length) := Lib.hid (by rw [hHead]; simp)
  have HSU := Lib.hid hsu
  have HALL := Lib.hid hall
  have HEND : Hid (n0 = zs.length ∨ (n0 < zs.length ∧ (mthD f c n0).2.1 ≠ (mthD f c 0).2.1)) := Lib.hid (by
    rcases hend with ⟨h8, _⟩ | ⟨h8, _, h9⟩
    · exact .inl h8
    · exact .inr ⟨h8, h9⟩)
  clear hHead hsu hall hend
  generalize hm0 : (mthD f c 0).2.1 = m0 at *
  clear hm0
  go_wp2_with fail
  refine HSU0.out.mono ?_
  rintro e w5 ⟨x5, c5, rfl, hc5, hF5, k5⟩
  have HRR := Lib.hid hF5.rr
  have HR5 := Lib.hid (HR4.out.keep k5)
  have HT5 := Lib.hid (HT4.out.keep k5)
  have K5 := K4.trans k5
  have HSL := Lib.hid (sul_len zs)
  clear hF5 HSU0 HR4 HT4 k5 K4
  obtain ⟨N, hN⟩ : ∃ N, L.length = N := ⟨_, rfl⟩
  have HNl := Lib.hid hN
  rw [hN]
  have hN0 : 0 < N := by rw [← hN]; exact HLen.out
  have hN1 : (0 : Int) < (N : Int) := by omega
  clear hN
  go_wp2_with fail
  go_loopw [12] (fun i wr => ∃ k : Nat, k ≤ n0 ∧ i = .int .i64 k ∧ Keep w5 wr) (fun i _ => zs.length - (RowKit.intOf i).toNat)
  case atStart => exact ⟨0, by omega, rfl, Keep.refl _⟩
  case round =>
    obtain ⟨k, hk, rfl, hK⟩ := hrel
    have hk1 : k < zs.length ∨ ¬ k < zs.length := by omega
    obtain ⟨b1, o1, e1, _, ⟨_, p1, p2, p3⟩⟩ := (HR5.out.keep hK).at_ (i := 0) (by rw [HNl.out]; exact hN0)
    rw [HG0.out, Nat.zero_mul, Nat.add_zero] at p1 p2 p3
    simp only [rK, rV, rD] at p1 p2 p3
    by_cases hlt : k < zs.length
    · obtain ⟨y, m, d, h1, h2⟩ := HDT.out k hlt
      have hfk : IntKind.i64.wrap (f + (k : Int)) = f + (k : Int) := IntWalk.i64_in _ (by omega)
      have HA := Lib.hid (dateof_impl_yes (f + (k : Int)) c wr (HT5.out.keep hK) (by rw [← h2]; exact dn_ok h1))
      have HM : Hid ((mthD f c k).2.1 = m) := Lib.hid (by rw [mthD, dOf_of h1 h2])
      go_wp2_with fail
      refine HA.out.mono ?_
      rintro e w6 ⟨y', m', d', rfl, h3, h4, k6⟩
      obtain ⟨rfl, rfl, rfl⟩ := dn_inj h3 h1 (h4.trans h2.symm)
      have K6 : Keep wr (w6.alloc (.cells #[.int .i64 y', .int .i64 m', .int .i64 d'] 38)) := k6.alloc _
      have A1 : (w6.alloc (.cells #[.int .i64 y', .int .i64 m', .int .i64 d'] 38)).cell? ⟨w6.heap.size, 1, none⟩ = some (.int .i64 m') := World.cell?_alloc_new w6 _ _ 1
      have P1 := K6.cell p1
      have P2 := K6.cell p2
      have P3 := K6.cell p3
      have HKA := Lib.hid (hK.trans K6)
      clear h1 h2 h3 h4 HA k6 K6 p1 p2 p3
      subst e1
      by_cases hmm : m' = m0
      · have hmd : (m' != m0) = false := by simp [hmm]
        have hkn : Hid (k + 1 ≤ n0) := Lib.hid (by
          rcases HEND.out with h9 | ⟨h8, h9⟩
          · omega
          · by_cases e9 : k = n0
            · subst e9; exact absurd (HM.out.trans hmm) h9
            · omega)
        have HMM := Lib.hid hmm
        clear hmm
        go_wp2_with fail
        go_quiet (fail)
        go_wp2
        go_roundw
        case rel => exact ⟨k + 1, hkn.out, by go_num, HKA.out.drewN _⟩
        case measure => simp [RowKit.intOf]; omega
      · have hmd : (m' != m0) = true := by simp [hmm]
        have hkn : Hid (k = n0) := Lib.hid (by
          by_cases e9 : k < n0
          · exact absurd (HM.out.symm.trans (HALL.out k e9)) hmm
          · omega)
        go_wp2_with fail
        go_quiet (fail)
        have KQ := Keep.drewN (Keep.refl (w6.alloc (.cells #[.int .i64 y', .int .i64 m', .int .i64 d'] 38))) nq
        have Q2 := KQ.cell P2
        have Q3 := KQ.cell P3
        have HKQ := Lib.hid (HKA.out.trans KQ)
        clear KQ P1 P2 P3 A1 HKA
        generalize (w6.alloc (.cells #[.int .i64 y', .int .i64 m', .int .i64 d'] 38)).drewN nq = W at *
        obtain ⟨bs, os, es, _, ⟨s0, s1⟩⟩ := (HRR.out.keep HKQ.out).at_ (i := n0) (by rw [HSL.out]; omega)
        have eS : (sul zs).getD n0 u0 = (T0, N0) := (sul_at (zs := zs) (by omega)).trans HSU.out
        rw [eS] at s0 s1
        simp only [uL, uH] at s0 s1
        subst es
        obtain ⟨S, hS⟩ : ∃ S, (sul zs).length = S := ⟨_, rfl⟩
        have hnS : n0 < S := by rw [← hS, HSL.out]; omega
        have hnS1 : (n0 : Int) < (S : Int) := by omega
        have hnS2 : decide ((n0 : Int) < (S : Int)) = true := decide_eq_true hnS1
        have hn00 : (0 : Int) ≤ (n0 : Int) := by omega
        rw [hS, hkn.out]
        clear eS hS
        go_wp2_with fail
        go_quiet (fail)
        go_wp2
        go_ret
        exact ⟨rfl, (K5.trans HKQ.out).drewN _⟩
    · have hkn : Hid (k = n0) := Lib.hid (by omega)
      subst e1
      have P2 := p2
      have P3 := p3
      have HKA := Lib.hid hK
      clear p1 p2 p3
      have Q2 := P2
      have Q3 := P3
      have HKQ := HKA
      clear P2 P3 HKA
      obtain ⟨W, hW⟩ : ∃ W, wr = W := ⟨_, rfl⟩
      subst hW
      obtain ⟨bs, os, es, _, ⟨s0, s1⟩⟩ := (HRR.out.keep HKQ.out).at_ (i := n0) (by rw [HSL.out]; omega)
      have eS : (sul zs).getD n0 u0 = (T0, N0) := (sul_at (zs := zs) (by omega)).trans HSU.out
      rw [eS] at s0 s1
      simp only [uL, uH] at s0 s1
      subst es
      obtain ⟨S, hS⟩ : ∃ S, (sul zs).length = S := ⟨_, rfl⟩
      have hnS : n0 < S := by rw [← hS, HSL.out]; omega
      have hnS1 : (n0 : Int) < (S : Int) := by omega
      have hnS2 : decide ((n0 : Int) < (S : Int)) = true := decide_eq_true hnS1
      have hn00 : (0 : Int) ≤ (n0 : Int) := by omega
      rw [hS, hkn.out]
      clear eS hS
      go_wp2_with fail
      go_quiet (fail)
      go_wp2
      go_ret
      exact ⟨rfl, (K5.trans HKQ.out).drewN _⟩
end Go.Proofs.YtohoeonfoolpdaaDoor
