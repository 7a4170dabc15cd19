/- P120: months have all values. -/
import Derived.Test.YtohoeonfoolpdaaDoorMvkenpdinb
import Derived.Test.YtohoeonfoolpdaaDoorDrMo
import Derived.Test.YtohoeonfoolpdaaDoorFr
namespace Go.Proofs.YtohoeonfoolpdaaDoor
open Go.RowKit
set_option linter.unusedVariables false

set_option maxRecDepth 1000000 in
set_option maxHeartbeats 6400000 in
theorem walk_FnMonths (a0 : Option Addr) (len0 cap0 : Nat) (z0 : List Int) (w : World) (w0 : IsRow .u8 w a0 len0 cap0 z0) (T : Tabs w) :
    Calls Tryd.prog 3 #[.slice a0 len0 cap0] w fun e w' => e = .returned (.bool true) ∧ Below w.heap.size w w' := by
  have ha := code_of_row w0
  obtain ⟨hl0, hm0⟩ := ha.1
  unfold maxLen at hm0
  clear w0
  by_cases h : len0 ≤ 1048576
  case' neg =>
    have hd : decide (1048576 < (len0 : Int)) = true := by simp; omega
    go_enter Tryd.func3, Tryd.ntmps3
    go_wp2
    go_ret
    exact ⟨rfl, Below.refl _ _⟩
  have hd : decide (1048576 < (len0 : Int)) = false := by simp; omega
  go_enter Tryd.func3, Tryd.ntmps3
  have HT := Lib.hid T
  clear T
  go_wp2_with fail
  refine (drawMonthsOf a0 len0 cap0 _ ha).mono ?_
  rintro e w1 ⟨a, cp, zs, f, c, rfl, hl13, hlc, hB, hL, ⟨f0, f1⟩, hcb, k1⟩
  have hfw : IntKind.i64.wrap f = f := IntWalk.i64_in _ (by omega)
  clear ha hB hcb
  have HI := Lib.hid (mth_impl a cp zs f c w1 (HT.out.keep k1) hL (by omega) hfw)
  have HS := Lib.hid (fun W (hk : Keep w1 W) => mth_spec a cp zs f c W (hL.keep hk) (by omega) hfw)
  have hln := mthL_len (zs := zs) f c
  have HOK := Lib.hid (fun (h9 : mthOk zs f c = true) => mthOk_facts h9)
  have HML := Lib.hid (fun (h9 : mthOk zs f c = true) => mthL_yes h9)
  unfold MthPost at HI HS
  generalize mthL zs f c = L at *
  obtain ⟨ok, hok⟩ : ∃ ok, mthOk zs f c = ok := ⟨_, rfl⟩
  rw [hok] at HI HS HOK HML
  clear hok
  go_wp2_with fail
  refine HI.out.mono ?_
  rintro e w2 ⟨x2, c2, rfl, hc2, hF2, k2⟩
  have K2 := k1.trans k2
  go_wp2_with fail
  refine (HS.out _ k2).mono ?_
  rintro e w3 ⟨x3, c3, rfl, hc3, hF3, k3⟩
  have K3 := K2.trans k3
  have HR3 := Lib.hid (hF2.rs.keep k3)
  have HSM := Lib.hid (fun W (hk : Keep w3 W) => sM_same x2 x3 c2 c3 L W (HR3.out.keep hk) (hF3.rs.keep hk) (by omega))
  have HL3 := Lib.hid ((hL.keep k2).keep k3)
  clear HI HS hF2 hF3 hc2 hc3
  go_wp2_with fail
  refine (HSM.out _ (Keep.refl _)).mono ?_
  rintro e w4 ⟨rfl, k4⟩
  have K4 := K3.trans k4
  cases ok
  · go_wp2_with fail
    refine (HSM.out _ k4).mono ?_
    rintro e w5 ⟨rfl, k5⟩
    go_wp2
    go_ret
    exact ⟨rfl, K4.trans k5⟩
  have HR4 := Lib.hid (HR3.out.keep k4)
  have HL4 := Lib.hid (HL3.out.keep k4)
  have HT4 := Lib.hid (HT.out.keep K4)
  obtain ⟨hsq, hday⟩ := HOK.out rfl
  have hn12 := (sq_facts hsq).2
  have HDT : Hid (∀ j, j < zs.length → ∃ y m d, dv y m d c = true ∧ dn y m d c = f + (j : Int)) := Lib.hid (fun j hj => dayOk_date (hday j hj))
  have HMI : Hid (MInv (mthD f c) zs zs.length) := Lib.hid (mInv (mthD_run HDT.out) (Nat.le_refl _) (by omega) (fun k hk => by
    obtain ⟨y, m, d, h1, h2⟩ := HDT.out k hk
    have e9 : mthD f c k = (y, m, d) := dOf_of h1 h2
    rw [e9]
    obtain ⟨_, _, _, m1, m2, _, _⟩ := dv_facts h1
    exact ⟨(mlen_bd y m c m1 m2).1, m2, m1⟩) _ (by omega) (Nat.le_refl _))
  have HEL : Hid (L = mthN (mthD f c) zs zs.length) := Lib.hid (HML.out rfl)
  have HSQ := Lib.hid hsq
  clear HSM HR3 HL3 HT HOK HML hday hsq hlc hL k1 k2 k3 k4 K2 K3
  have HIM := Lib.hid (HMI.out.tot)
  have HCH := Lib.hid (HMI.out.chn)
  rw [← HEL.out, su_last] at HIM
  rw [← HEL.out] at HCH
  have HGET := Lib.hid (fun i (hi : i + 1 < L.length) => Chn.get HCH.out i hi)
  have HBD := Lib.hid (fun r (hr : r ∈ L) => mthN_bd HSQ.out (mthD f c) zs.length (Nat.le_refl _) r (by rw [← HEL.out]; exact hr))
  have HDTE := Lib.hid (fun i (hi : i < L.length) => mth_dates (f := f) (c := c) (fun j hj => HDT.out j hj) (by rw [← HEL.out]; exact getD_memM hi : L.getD i r0 ∈ mthN (mthD f c) zs zs.length))
  have HT9 : Hid (∀ i, i ≤ L.length → (-24000000 ≤ rsum rK (L.take i) ∧ rsum rK (L.take i) ≤ 24000000) ∧ (-24000000 ≤ rsum rV (L.take i) ∧ rsum rV (L.take i) ≤ 24000000)) := Lib.hid (fun i hi => rsum_bd hln (fun r hr => HBD.out r hr) i)
  clear HMI HCH HEL
  have c0 : (w4.alloc (.cells #[.int .i64 0, .int .i64 0] 31)).cell? ⟨w4.heap.size, 0, none⟩ = some (.int .i64 0) := World.cell?_alloc_new w4 _ _ 0
  have c1 : (w4.alloc (.cells #[.int .i64 0, .int .i64 0] 31)).cell? ⟨w4.heap.size, 1, none⟩ = some (.int .i64 0) := World.cell?_alloc_new w4 _ _ 1
  have g0 : (w4.alloc (.cells #[.int .i64 0, .int .i64 0] 31)).frozen? ⟨w4.heap.size, 0, none⟩ = false := World.frozen?_alloc_at _ _ _ _ rfl
  have g1 : (w4.alloc (.cells #[.int .i64 0, .int .i64 0] 31)).frozen? ⟨w4.heap.size, 1, none⟩ = false := World.frozen?_alloc_at _ _ _ _ rfl
  go_wp2_with fail
  go_loopw [11] (fun i wr => ∃ k : Nat, k ≤ L.length ∧ i = .int .i64 k ∧ (wr.cell? ⟨w4.heap.size, 0, none⟩ = some (.int .i64 (rsum rK (L.take k))) ∧ wr.cell? ⟨w4.heap.size, 1, none⟩ = some (.int .i64 (rsum rV (L.take k)))) ∧ (wr.frozen? ⟨w4.heap.size, 0, none⟩ = false ∧ wr.frozen? ⟨w4.heap.size, 1, none⟩ = false) ∧ Keep w4 wr) (fun i _ => L.length - (RowKit.intOf i).toNat)
  case atStart => exact ⟨0, by omega, rfl, ⟨c0, c1⟩, ⟨g0, g1⟩, (Keep.refl w4).alloc _⟩
  case round =>
    clear c0 c1 g0 g1
    obtain ⟨k, hk, rfl, ⟨c0, c1⟩, ⟨g0, g1⟩, hK⟩ := hrel
    by_cases hlt : k < L.length
    · obtain ⟨b1, o1, e1, hb1, ⟨p0, p1, p2, p3⟩⟩ := (HR4.out.keep hK).at_ (i := k) hlt
      obtain ⟨b1', o1', e1', hb0, _⟩ := HR4.out.at_ (i := k) hlt
      have hbn : b1 ≠ w4.heap.size := by rw [e1] at e1'; simp only [Option.some.injEq, Addr.mk.injEq] at e1'; omega
      clear e1' hb0
      obtain ⟨j, HJ, hjw, hj0, hj1, hgt⟩ : ∃ j : Nat, Hid (k = j + 1 ∨ (k = 0 ∧ j = 0)) ∧ (0 < k → IntKind.i64.wrap ((k : Int) - 1) = (j : Int)) ∧ (0 : Int) ≤ (j : Int) ∧ (j : Int) < (L.length : Int) ∧ j < L.length := by
        cases k with
        | zero => exact ⟨0, Lib.hid (.inr ⟨rfl, rfl⟩), fun h9 => absurd h9 (by omega), by omega, by omega, by omega⟩
        | succ j => exact ⟨j, Lib.hid (.inl rfl), fun _ => by rw [show ((j + 1 : Nat) : Int) - 1 = (j : Int) by omega]; exact IntWalk.i64_in _ (by omega), by omega, by omega, by omega⟩
      obtain ⟨b2, o2, e2, _, ⟨q0, q1, _, _⟩⟩ := (HR4.out.keep hK).at_ (i := j) hgt
      obtain ⟨rfl, rfl⟩ : b2 = b1 ∧ o2 = o1 := by rw [e1] at e2; simp only [Option.some.injEq, Addr.mk.injEq] at e2; exact ⟨e2.1.symm, e2.2.1.symm⟩
      subst e1
      clear e2
      obtain ⟨t0, t1⟩ := HT9.out k hk
      obtain ⟨u0', u1'⟩ := HT9.out (k + 1) (by omega)
      have HS0 := Lib.hid (rsum_snoc rK (L := L) hlt)
      have HS1 := Lib.hid (rsum_snoc rV (L := L) hlt)
      rw [HS0.out] at u0'
      rw [HS1.out] at u1'
      have HNM : Hid (0 < k → rD (L.getD k r0) = rD (L.getD j r0) % 12 + 1 ∧ rS (L.getD k r0) = rS (L.getD j r0) + rD (L.getD j r0) / 12) := Lib.hid (fun h0 => by
        rcases HJ.out with rfl | ⟨h9, _⟩
        · exact HGET.out j hlt
        · omega)
      have hdd := HDTE.out j hgt
      generalize rsum rK (L.take k) = S0 at *
      generalize rsum rV (L.take k) = S1 at *
      generalize rK (L.getD k r0) = T at *
      generalize rV (L.getD k r0) = N at *
      generalize rD (L.getD k r0) = m at *
      generalize rS (L.getD k r0) = y at *
      generalize rD (L.getD j r0) = m' at *
      generalize rS (L.getD j r0) = y' at *
      have a0' : IntKind.i64.wrap (S0 + T) = S0 + T := IntWalk.i64_in _ (by omega)
      have a1' : IntKind.i64.wrap (S1 + N) = S1 + N := IntWalk.i64_in _ (by omega)
      have b0' : wrap64 (S0 + T) = S0 + T := IntWalk.wrap64_in _ (by omega)
      have b1' : wrap64 (S1 + N) = S1 + N := IntWalk.wrap64_in _ (by omega)
      clear u0' u1' t0 t1
      obtain ⟨P, hP⟩ : ∃ P, S0 + T = P := ⟨_, rfl⟩
      obtain ⟨R, hR⟩ : ∃ R, S1 + N = R := ⟨_, rfl⟩
      rw [hP] at HS0 a0' b0'
      have HB0 := Lib.hid b0'
      rw [hR] at HS1 a1' b1'
      have HB1 := Lib.hid b1'
      have HP := Lib.hid hP
      have HR' := Lib.hid hR
      clear hP hR b0' b1'
      go_wp2_with fail
      refine wp_region_still_tail 10 (by kernel_rfl) (by kernel_rfl) ?_
      simp only [List.take_succ_cons, List.take_zero, List.drop_succ_cons, List.drop_zero]
      change wpStill _ _ wr.drew _ _ _
      refine wpStill_hide (fun TQ hT => ?_)
      repeat still_step
      refine wpStill_nil ?_
      refine hT.out _ ?_
      clear hT
      change wpList _ _ _ _ _ wr.drew
      go_wp2_with fail
      refine @abs_worldA (fun wq => Code.wp _ _ _ _ wq) _ (fun wq => (wq.cell? ⟨w4.heap.size, 0, none⟩ = some (.int .i64 P) ∧ wq.cell? ⟨w4.heap.size, 1, none⟩ = some (.int .i64 S1)) ∧ (wq.frozen? ⟨w4.heap.size, 0, none⟩ = false ∧ wq.frozen? ⟨w4.heap.size, 1, none⟩ = false) ∧ Keep w4 wq ∧ (wq.cell? ⟨b2, o2 + k * 4, none⟩ = some (.int .i64 y) ∧ wq.cell? ⟨b2, o2 + k * 4 + 1, none⟩ = some (.int .i64 m) ∧ wq.cell? ⟨b2, o2 + k * 4 + 3, none⟩ = some (.int .i64 N)) ∧ (wq.cell? ⟨b2, o2 + j * 4, none⟩ = some (.int .i64 y') ∧ wq.cell? ⟨b2, o2 + j * 4 + 1, none⟩ = some (.int .i64 m'))) ⟨⟨by first | (go_simp; done) | (go_simp; rw [HP.out]; exact HB0.out), by go_simp⟩, ⟨by go_simp, by go_simp⟩, (hK.setCell (Nat.le_refl _) _).drew, ⟨by go_simp, by go_simp, by go_simp⟩, ⟨by go_simp, by go_simp⟩⟩ ?_
      rintro wq ⟨⟨z0, z1⟩, ⟨f0', f1'⟩, hKq, ⟨y0, y1, y3⟩, ⟨x0, x1⟩⟩
      clear c0 c1 g0 g1 p0 p1 p2 p3 q0 q1 hK
      refine wp_region_still_tail 10 (by kernel_rfl) (by kernel_rfl) ?_
      simp only [List.take_succ_cons, List.take_zero, List.drop_succ_cons, List.drop_zero]
      change wpStill _ _ wq.drew _ _ _
      refine wpStill_hide (fun TQ hT => ?_)
      repeat still_step
      refine wpStill_nil ?_
      refine hT.out _ ?_
      clear hT
      change wpList _ _ _ _ _ wq.drew
      go_wp2_with fail
      refine @abs_worldA (fun wq => Code.wp _ _ _ _ wq) _ (fun wq => (wq.cell? ⟨w4.heap.size, 0, none⟩ = some (.int .i64 P) ∧ wq.cell? ⟨w4.heap.size, 1, none⟩ = some (.int .i64 R)) ∧ (wq.frozen? ⟨w4.heap.size, 0, none⟩ = false ∧ wq.frozen? ⟨w4.heap.size, 1, none⟩ = false) ∧ Keep w4 wq ∧ (wq.cell? ⟨b2, o2 + k * 4, none⟩ = some (.int .i64 y) ∧ wq.cell? ⟨b2, o2 + k * 4 + 1, none⟩ = some (.int .i64 m)) ∧ (wq.cell? ⟨b2, o2 + j * 4, none⟩ = some (.int .i64 y') ∧ wq.cell? ⟨b2, o2 + j * 4 + 1, none⟩ = some (.int .i64 m'))) ⟨⟨by go_simp, by first | (go_simp; done) | (go_simp; rw [HR'.out]; exact HB1.out)⟩, ⟨by go_simp, by go_simp⟩, (hKq.setCell (Nat.le_refl _) _).drew, ⟨by go_simp, by go_simp⟩, ⟨by go_simp, by go_simp⟩⟩ ?_
      rintro wx ⟨⟨c0, c1⟩, ⟨g0, g1⟩, hK, ⟨p0, p1⟩, ⟨q0, q1⟩⟩
      clear z0 z1 f0' f1' y0 y1 y3 x0 x1 hKq
      by_cases hk0 : k = 0
      · subst hk0
        have z0 : decide ((0 : Int) < ((0 : Nat) : Int)) = false := rfl
        go_wp2_with fail
        go_quiet (fail)
        go_wp2
        go_roundw
        case rel => exact ⟨1, by omega, by first | rfl | go_num, ⟨by rw [HS0.out]; exact c0, by rw [HS1.out]; exact c1⟩, ⟨g0, g1⟩, hK.drewN _⟩
        case measure => simp [RowKit.intOf]; omega
      · have hkp : 0 < k := by omega
        obtain ⟨n1, n2⟩ := HNM.out hkp
        have z0 : decide ((0 : Int) < (k : Int)) = true := decide_eq_true (by omega)
        have z1 : (0 : Int) < (k : Int) := by omega
        have hjw' := hjw hkp
        have w12 : Int.tmod m' 12 = m' % 12 := by rw [Int.tmod_eq_emod_of_nonneg (by omega)]
        have d12 : Int.tdiv m' 12 = m' / 12 := by rw [Int.tdiv_eq_ediv_of_nonneg (by omega)]
        have v1 : IntKind.i64.wrap (m' % 12) = m' % 12 := IntWalk.i64_in _ (by omega)
        have v2 : IntKind.i64.wrap (m' % 12 + 1) = m' % 12 + 1 := IntWalk.i64_in _ (by omega)
        have v3 : IntKind.i64.wrap (m' / 12) = m' / 12 := IntWalk.i64_in _ (by omega)
        have v4 : IntKind.i64.wrap (y' + m' / 12) = y' + m' / 12 := IntWalk.i64_in _ (by omega)
        subst n1
        subst n2
        have e9 : ((m' % 12 + 1) != (m' % 12 + 1)) = false := by simp
        have e8 : ((y' + m' / 12) != (y' + m' / 12)) = false := by simp
        clear hjw
        go_wp2_with fail
        go_quiet (fail)
        go_wp2
        go_roundw
        case rel => exact ⟨k + 1, by omega, by go_num, ⟨by rw [HS0.out]; exact c0, by rw [HS1.out]; exact c1⟩, ⟨g0, g1⟩, hK.drewN _⟩
        case measure => simp [RowKit.intOf]; omega
    · obtain rfl : k = L.length := by omega
      have e0 : rsum rK (L.take L.length) = isum (knl zs) := by rw [List.take_length]; exact HIM.out.1
      have e1 : rsum rV (L.take L.length) = sk zs := by rw [List.take_length, HIM.out.2]; rw [sk_yes HSQ.out, knN_all]
      rw [e0] at c0
      rw [e1] at c1
      have HKn := Lib.hid (fun W (hk : Keep wr W) => known_any a cp zs W ((HL4.out.keep hK).keep hk) (by omega))
      have HSk := Lib.hid (fun W (hk : Keep wr W) => sk_impl a cp zs W ((HL4.out.keep hK).keep hk) (by omega))
      have HSm := Lib.hid (fun W p q (hl : Ls W p (knl zs)) => sum_any p q (knl zs) W hl (fun x hx => by
        rw [knl, List.mem_filter] at hx
        rcases qB_bd (List.all_eq_true.1 (sq_facts HSQ.out).1 x hx.1) with e | e
        · exact absurd e (by simpa using hx.2)
        · omega) (by have := knl_le zs; omega))
      generalize isum (knl zs) = A at *
      generalize sk zs = B at *
      generalize knl zs = KL at *
      have HKF := Lib.hid (K4.trans hK)
      clear hK HIM HGET HBD HDTE HT9
      go_wp2_with fail
      go_region_held3 (fun w' => Keep wr w' ∧ w'.cell? ⟨w4.heap.size, 0, none⟩ = some (.int .i64 A) ∧ w'.cell? ⟨w4.heap.size, 1, none⟩ = some (.int .i64 B)) ((go_split_ands; refine (fun hK => ⟨hK, hK.cell c0, hK.cell c1⟩ : Keep wr _ → _) ?_; (repeat' (first | with_reducible assumption | with_reducible exact Keep.refl _ | with_reducible refine Keep.drew ?_ | with_reducible refine Keep.drewN ?_ _ | with_reducible refine Keep.alloc ?_ _ | with_reducible refine Keep.trans ?_ hk))))
        (first
          | (go_at_call 12; refine (HKn.out _ (by (repeat' (first | with_reducible assumption | with_reducible exact Keep.refl _ | with_reducible refine Keep.drew ?_ | with_reducible refine Keep.drewN ?_ _ | with_reducible refine Keep.alloc ?_ _ | with_reducible refine Keep.trans ?_ hk)))).mono ?_; rintro e wA ⟨gA, cA, rfl, _, hWA, _, _, hk⟩; go_split_ands; have hA : Keep wr wA := Keep.trans (by (repeat' (first | with_reducible assumption | with_reducible exact Keep.refl _ | with_reducible refine Keep.drew ?_ | with_reducible refine Keep.drewN ?_ _ | with_reducible refine Keep.alloc ?_ _ | with_reducible refine Keep.trans ?_ hk))) hk)
          | (go_at_call 11; refine (HSm.out _ _ _ hWA.ls).mono ?_; rintro e wB ⟨rfl, rfl⟩)
          | (go_at_call 13; refine (HSk.out _ hA).mono ?_; rintro e wC ⟨rfl, rfl⟩))
      all_goals
        go_wp2
        go_ret
        exact ⟨rfl, HKF.out.trans (by (repeat' (first | with_reducible assumption | with_reducible exact Keep.refl _ | with_reducible refine Keep.drew ?_ | with_reducible refine Keep.drewN ?_ _ | with_reducible refine Keep.alloc ?_ _ | with_reducible refine Keep.trans ?_ hk)))⟩
end Go.Proofs.YtohoeonfoolpdaaDoor
