/- P121: a day is in its month. -/
import Derived.Test.YtohoeonfoolpdaaDoorMvkenpdinb
import Derived.Test.YtohoeonfoolpdaaDoorDrMo
import Derived.Test.YtohoeonfoolpdaaDoorFr
namespace Go.Proofs.YtohoeonfoolpdaaDoor
open Go.RowKit
set_option linter.unusedVariables false

set_option maxRecDepth 1000000 in
set_option maxHeartbeats 6400000 in
theorem walk_FnMonthsDays (a0 : Option Addr) (len0 cap0 : Nat) (z0 : List Int) (w : World) (w0 : IsRow .u8 w a0 len0 cap0 z0) (T : Tabs w) :
    Calls Tryd.prog 4 #[.slice a0 len0 cap0] w fun e w' => e = .returned (.bool true) ∧ Below w.heap.size w w' := by
  have ha := code_of_row w0
  obtain ⟨hl0, hm0⟩ := ha.1
  unfold maxLen at hm0
  clear w0
  by_cases h : len0 ≤ 1048576
  case' neg =>
    have hd : decide (1048576 < (len0 : Int)) = true := by simp; omega
    go_enter Tryd.func4, Tryd.ntmps4
    go_wp2
    go_ret
    exact ⟨rfl, Below.refl _ _⟩
  have hd : decide (1048576 < (len0 : Int)) = false := by simp; omega
  go_enter Tryd.func4, Tryd.ntmps4
  have HT := Lib.hid T
  clear T
  go_wp2_with fail
  refine (drawMonthsOf a0 len0 cap0 _ ha).mono ?_
  rintro e w1 ⟨a, cp, zs, f, c, rfl, hl13, hlc, hB, hL, ⟨f0, f1⟩, hcb, k1⟩
  have hfw : IntKind.i64.wrap f = f := IntWalk.i64_in _ (by omega)
  clear ha hB hcb
  have HI := Lib.hid (mth_impl a cp zs f c w1 (HT.out.keep k1) hL (by omega) hfw)
  have HS := Lib.hid (fun W (hk : Keep w1 W) => mth_spec a cp zs f c W (hL.keep hk) (by omega) hfw)
  have hln := mthL_len (zs := zs) f c
  have HOK := Lib.hid (fun (h9 : mthOk zs f c = true) => mthOk_facts h9)
  have HML := Lib.hid (fun (h9 : mthOk zs f c = true) => mthL_yes h9)
  unfold MthPost at HI HS
  generalize mthL zs f c = L at *
  obtain ⟨ok, hok⟩ : ∃ ok, mthOk zs f c = ok := ⟨_, rfl⟩
  rw [hok] at HI HS HOK HML
  clear hok
  go_wp2_with fail
  refine HI.out.mono ?_
  rintro e w2 ⟨x2, c2, rfl, hc2, hF2, k2⟩
  have K2 := k1.trans k2
  go_wp2_with fail
  refine (HS.out _ k2).mono ?_
  rintro e w3 ⟨x3, c3, rfl, hc3, hF3, k3⟩
  have K3 := K2.trans k3
  have HR3 := Lib.hid (hF2.rs.keep k3)
  have HSM := Lib.hid (fun W (hk : Keep w3 W) => sM_same x2 x3 c2 c3 L W (HR3.out.keep hk) (hF3.rs.keep hk) (by omega))
  have HL3 := Lib.hid ((hL.keep k2).keep k3)
  clear HI HS hF2 hF3 hc2 hc3
  go_wp2_with fail
  refine (HSM.out _ (Keep.refl _)).mono ?_
  rintro e w4 ⟨rfl, k4⟩
  have K4 := K3.trans k4
  cases ok
  · go_wp2_with fail
    refine (HSM.out _ k4).mono ?_
    rintro e w5 ⟨rfl, k5⟩
    go_wp2
    go_ret
    exact ⟨rfl, K4.trans k5⟩
  have HR4 := Lib.hid (HR3.out.keep k4)
  have HL4 := Lib.hid (HL3.out.keep k4)
  have HT4 := Lib.hid (HT.out.keep K4)
  obtain ⟨hsq, hday⟩ := HOK.out rfl
  have hn12 := (sq_facts hsq).2
  have HDT : Hid (∀ j, j < zs.length → ∃ y m d, dv y m d c = true ∧ dn y m d c = f + (j : Int)) := Lib.hid (fun j hj => dayOk_date (hday j hj))
  have HMI : Hid (MInv (mthD f c) zs zs.length) := Lib.hid (mInv (mthD_run HDT.out) (Nat.le_refl _) (by omega) (fun k hk => by
    obtain ⟨y, m, d, h1, h2⟩ := HDT.out k hk
    have e9 : mthD f c k = (y, m, d) := dOf_of h1 h2
    rw [e9]
    obtain ⟨_, _, _, m1, m2, _, _⟩ := dv_facts h1
    exact ⟨(mlen_bd y m c m1 m2).1, m2, m1⟩) _ (by omega) (Nat.le_refl _))
  have HEL : Hid (L = mthN (mthD f c) zs zs.length) := Lib.hid (HML.out rfl)
  have HSQ := Lib.hid hsq
  clear HSM HR3 HL3 HT HOK HML hday hsq hlc hL k1 k2 k3 k4 K2 K3
  obtain ⟨y0, m0, d0, hv0, hn0⟩ := HDT.out 0 (by omega)
  obtain ⟨y9, m9, d9, hv9, hn9⟩ := HDT.out (zs.length - 1) (by omega)
  have e0 : mthD f c 0 = (y0, m0, d0) := dOf_of hv0 hn0
  have e9 : mthD f c (zs.length - 1) = (y9, m9, d9) := dOf_of hv9 hn9
  have hn0' : dn y0 m0 d0 c = f := by rw [hn0]; simp
  have hn9' : dn y9 m9 d9 c = f + (zs.length : Int) - 1 := by rw [hn9]; omega
  have HA := Lib.hid (dateof_impl_yes f c w4 HT4.out (by rw [← hn0']; exact dn_ok hv0))
  have HB := Lib.hid (fun W (hk : Keep w4 W) => dateof_impl_yes (f + (zs.length : Int) - 1) c W (HT4.out.keep hk) (by rw [← hn9']; exact dn_ok hv9))
  have hw1 : IntKind.i64.wrap (f + (zs.length : Int)) = f + (zs.length : Int) := IntWalk.i64_in _ (by omega)
  have hw2 : IntKind.i64.wrap (f + (zs.length : Int) - 1) = f + (zs.length : Int) - 1 := IntWalk.i64_in _ (by omega)
  obtain ⟨M, T9, N9, hLast⟩ := HMI.out.last
  obtain ⟨T0, N0, t, hHead, _⟩ := HMI.out.head
  have htwo := HMI.out.two
  rw [← HEL.out] at hLast hHead htwo
  rw [e0] at hHead
  rw [e9] at hLast
  have HG0 : Hid (L.getD 0 r0 = (y0, m0, T0, N0)) := Lib.hid (by rw [hHead]; rfl)
  obtain ⟨q, hq⟩ : ∃ q, L.length = q + 1 := ⟨M.length, by rw [hLast]; simp⟩
  have HG9 : Hid (L.getD q r0 = (y9, m9, T9, N9)) := Lib.hid (by
    have hM : M.length = q := by have := congrArg List.length hLast; rw [List.length_append, List.length_singleton] at this; omega
    rw [hLast, ← hM, List.getD_eq_getElem?_getD, List.getElem?_append_right (Nat.le_refl _)]; simp)
  have hq1 : q ≤ 1 := by omega
  have HQ := Lib.hid hq
  obtain ⟨N, hN⟩ : ∃ N, L.length = N := ⟨_, rfl⟩
  have HNl := Lib.hid hN
  clear htwo hLast hHead hq e0 e9 hn0 hn9
  go_wp2_with fail
  refine HA.out.mono ?_
  rintro e w5 ⟨y, m, d, rfl, h1, h2, k5⟩
  obtain ⟨rfl, rfl, rfl⟩ := dn_inj h1 hv0 (h2.trans hn0'.symm)
  have HB2 := Lib.hid (HB.out _ (k5.alloc (.cells #[.int .i64 y, .int .i64 m, .int .i64 d] 38)))
  have A0 : (w5.alloc (.cells #[.int .i64 y, .int .i64 m, .int .i64 d] 38)).cell? ⟨w5.heap.size, 0, none⟩ = some (.int .i64 y) := World.cell?_alloc_new w5 _ _ 0
  have A1 : (w5.alloc (.cells #[.int .i64 y, .int .i64 m, .int .i64 d] 38)).cell? ⟨w5.heap.size, 1, none⟩ = some (.int .i64 m) := World.cell?_alloc_new w5 _ _ 1
  clear h1 h2 HA HB hn0'
  go_wp2_with fail
  refine HB2.out.mono ?_
  rintro e w6 ⟨yb, mb, db, rfl, h1, h2, k6⟩
  obtain ⟨rfl, rfl, rfl⟩ := dn_inj h1 hv9 (h2.trans hn9'.symm)
  have K6 : Keep w4 w6 := (k5.alloc _).trans k6
  have B0 := k6.cell A0
  have B1 := k6.cell A1
  have hs5 : w5.heap.size < w6.heap.size := by have h9 := k6.size; simp at h9; omega
  have hs5n : w5.heap.size ≠ w6.heap.size := by omega
  obtain ⟨b1, o1, e1, _, ⟨p0, p1, _, _⟩⟩ := (HR4.out.keep K6).at_ (i := 0) (by rw [HQ.out]; omega)
  obtain ⟨b2, o2, e2, _, ⟨q0, q1, _, _⟩⟩ := (HR4.out.keep K6).at_ (i := q) (by rw [HQ.out]; omega)
  obtain ⟨rfl, rfl⟩ : b2 = b1 ∧ o2 = o1 := by rw [e1] at e2; simp at e2; exact ⟨e2.1.symm, e2.2.symm⟩
  subst e1
  clear e2
  rw [HG0.out, Nat.zero_mul, Nat.add_zero] at p0 p1
  rw [HG9.out] at q0 q1
  simp only [rS, rD] at p0 p1 q0 q1
  have hNq : N = q + 1 := by rw [← hN]; exact HQ.out
  have nw : IntKind.i64.wrap ((N : Int) - 1) = (q : Int) := by rw [show (N : Int) - 1 = (q : Int) by omega]; exact IntWalk.i64_in _ (by omega)
  have g0 : decide ((0 : Int) ≤ (q : Int)) = true := decide_eq_true (by omega)
  have g1 : decide ((q : Int) ≤ 1) = true := decide_eq_true (by omega)
  have g2 : (0 : Int) ≤ (q : Int) := by omega
  have g3 : (q : Int) ≤ 1 := by omega
  have g4 : (q : Int) < (N : Int) := by omega
  have g5 : q < N := by omega
  have g6 : (0 : Int) < (N : Int) := by omega
  have g7 : 0 < N := by omega
  try rw [hN]
  clear h1 h2 hv0 hv9 hn9' hNq hN HMI HDT
  have KA : Keep w6 (w6.alloc (.cells #[.int .i64 yb, .int .i64 mb, .int .i64 db] 38)) := (Keep.refl w6).alloc _
  replace p0 := KA.cell p0
  replace p1 := KA.cell p1
  replace q0 := KA.cell q0
  replace q1 := KA.cell q1
  replace B0 := KA.cell B0
  replace B1 := KA.cell B1
  have C0 : (w6.alloc (.cells #[.int .i64 yb, .int .i64 mb, .int .i64 db] 38)).cell? ⟨w6.heap.size, 0, none⟩ = some (.int .i64 yb) := World.cell?_alloc_new w6 _ _ 0
  have C1 : (w6.alloc (.cells #[.int .i64 yb, .int .i64 mb, .int .i64 db] 38)).cell? ⟨w6.heap.size, 1, none⟩ = some (.int .i64 mb) := World.cell?_alloc_new w6 _ _ 1
  have HKF : Hid (Keep w (w6.alloc (.cells #[.int .i64 yb, .int .i64 mb, .int .i64 db] 38))) := Lib.hid ((K4.trans K6).trans KA)
  clear KA
  go_wp2_with fail
  go_quiet (fail)
  go_wp2
  go_ret
  exact ⟨rfl, HKF.out.drewN _⟩
end Go.Proofs.YtohoeonfoolpdaaDoor
