/- Texts of series: the program's BulletinText answers 'btT'. -/
import Derived.Test.YtpdpcnblpcalaaaDoorBt
import Derived.Test.YtpdpcnblpcalaaaDoorTxI
namespace Go.Proofs.YtpdpcnblpcalaaaDoor
open Go.RowKit Go.Lib
set_option linter.unusedVariables false

set_option maxHeartbeats 1000000 in
theorem vw_impl (z : Int) (w : World) (T : Tabs w) (h0 : -99999 ≤ z) (h1 : z ≤ 99999) :
    Calls Tryd.prog 43 #[.int .i64 z] w fun e w' => e = .returned (.string ⟨(bdW z).toArray⟩) ∧ Keep w w' := by
  have HT := Lib.hid T
  clear T
  by_cases hz : z = -9999
  · have hzd : (z == -9999) = true := beq_iff_eq.2 hz
    have E : Hid ((⟨(bdW z).toArray⟩ : ByteArray) = ⟨#[47]⟩) := Lib.hid (by rw [bdW, if_pos hz])
    clear hz
    go_enter Tryd.func43, Tryd.ntmps43
    go_wp2
    go_ret
    exact ⟨retS E.out.symm, Keep.refl _⟩
  · have hzd : (z == -9999) = false := beq_eq_false_iff_ne.2 hz
    have E : Hid ((⟨(bdW z).toArray⟩ : ByteArray) = dtx z) := Lib.hid (by rw [bdW, if_neg hz, dtx])
    clear hz
    go_enter Tryd.func43, Tryd.ntmps43
    go_wp2_with fail
    refine (itoa_any _ _ HT.out h0 h1).mono ?_
    rintro e w1 ⟨rfl, k1⟩
    go_wp2
    go_ret
    exact ⟨retS E.out.symm, k1⟩
set_option maxHeartbeats 1000000 in
theorem sw_impl (p : ByteArray) (w : World) (T : Tabs w) (hp : p.size ≤ 1048576) :
    Calls Tryd.prog 44 #[.string p] w fun e w' => e = .returned (.string ⟨(61 :: itoa (bsL p.data.toList : Int)).toArray⟩) ∧ Keep w w' := by
  have HT := Lib.hid T
  clear T
  have HB := Lib.hid (fun W => bs_impl p W (by omega))
  have hlt := bsL_lt p.data.toList
  generalize bsL p.data.toList = n at *
  have hds := dtx_size (n := (n : Int)) (by omega) (by omega)
  have E : Hid ((⟨#[61]⟩ : ByteArray) ++ dtx n = ⟨(61 :: itoa (n : Int)).toArray⟩) := Lib.hid (bytes_eq (by simp [dtx_list]))
  go_enter Tryd.func44, Tryd.ntmps44
  go_wp2_with fail
  refine (HB.out _).mono ?_
  rintro e w1 ⟨rfl, rfl⟩
  go_wp2_with fail
  refine (itoa_any _ _ HT.out (by omega) (by omega)).mono ?_
  rintro e w1 ⟨rfl, k1⟩
  go_wp2
  go_ret
  exact ⟨retS E.out, k1⟩
set_option maxRecDepth 100000 in
set_option maxHeartbeats 2000000 in
theorem rp_impl (a : Option Addr) (c : Nat) (s t f : Int) (zs : List Int) (k : Nat) (w : World) (h : Ls w a zs) (hk : k < zs.length) (hm : zs.length ≤ 1048576) (hf : -200000 ≤ f ∧ f ≤ 200000) :
    Calls Tryd.prog 41 #[.agg #[.int .i64 s, .int .i64 t, .int .i64 f, .slice a zs.length c], .int .i64 (k : Int)] w fun e w' => e = .returned (.agg #[.int .i64 s, .int .i64 (f + (k : Int)), .int .i64 t, .int .i64 (zs.getD k 0)]) ∧ Keep w w' := by
  obtain ⟨b, off, hae, hb, hc⟩ := h.all (by omega)
  have cz := hc k hk
  subst hae
  generalize zs.getD k 0 = z at *
  have hfk : IntKind.i64.wrap (f + (k : Int)) = f + (k : Int) := IntWalk.i64_in _ (by omega)
  clear hc h
  obtain ⟨w1, hw1⟩ : ∃ w1, w1 = w.alloc (.cells #[.int .i64 s, .int .i64 t, .int .i64 f, .slice (some ⟨b, off, none⟩) zs.length c] 44) := ⟨_, rfl⟩
  have K1 : Keep w w1 := by rw [hw1]; exact (Keep.refl w).alloc _
  have hs1 : w1.heap.size = w.heap.size + 1 := by rw [hw1]; simp
  have c0 : w1.cell? ⟨w.heap.size, 0, none⟩ = some (.int .i64 s) := by rw [hw1]; exact World.cell?_alloc_new w _ _ 0
  have c1 : w1.cell? ⟨w.heap.size, 1, none⟩ = some (.int .i64 t) := by rw [hw1]; exact World.cell?_alloc_new w _ _ 1
  have c2 : w1.cell? ⟨w.heap.size, 2, none⟩ = some (.int .i64 f) := by rw [hw1]; exact World.cell?_alloc_new w _ _ 2
  have c3 : w1.cell? ⟨w.heap.size, 3, none⟩ = some (.slice (some ⟨b, off, none⟩) zs.length c) := by rw [hw1]; exact World.cell?_alloc_new w _ _ 3
  have c4 := K1.cell cz
  have kk0 : (k : Int) < (zs.length : Int) := by omega
  have HS := Lib.hid hs1
  have K1w := Lib.hid K1
  clear cz hb K1
  go_enter Tryd.func41, Tryd.ntmps41
  go_wp2_with fail
  rw [← hw1]
  clear hw1
  generalize w.heap.size = bx at *
  have hne : bx + 1 ≠ bx := by omega
  go_region_held3 (fun w' => Keep w1 w' ∧ w'.cell? ⟨bx, 0, none⟩ = some (.int .i64 s) ∧ w'.cell? ⟨bx, 1, none⟩ = some (.int .i64 t) ∧ w'.cell? ⟨bx, 2, none⟩ = some (.int .i64 f) ∧ w'.cell? ⟨bx, 3, none⟩ = some (.slice (some ⟨b, off, none⟩) zs.length c) ∧ w'.cell? ⟨b, off + k, none⟩ = some (.int .i64 z))
    ((go_split_ands; refine (fun hK => ⟨hK, hK.cell c0, hK.cell c1, hK.cell c2, hK.cell c3, hK.cell c4⟩ : Keep w1 _ → _) ?_; repeat' (first | with_reducible assumption | with_reducible exact Keep.refl _ | with_reducible refine Keep.drew ?_ | with_reducible refine Keep.drewN ?_ _ | with_reducible refine Keep.alloc ?_ _ | with_reducible refine Keep.setCell ?_ (by simp <;> omega) _)))
    (fail)
  all_goals
    go_wp2
    refine bodyPost_ret (v := .agg #[.int .i64 s, .int .i64 (f + (k : Int)), .int .i64 t, .int .i64 z]) (by simp [results, Tryd.results41, go_sem, hs1]) rfl ⟨rfl, K1w.out.trans ?_⟩
    repeat' (first | with_reducible exact Keep.refl _ | with_reducible refine Keep.drew ?_ | with_reducible refine Keep.drewN ?_ _ | with_reducible refine Keep.alloc ?_ _ | with_reducible refine Keep.setCell ?_ (by simp <;> omega) _)
set_option maxRecDepth 100000 in
set_option maxHeartbeats 3200000 in
theorem bv_impl (a : Option Addr) (c : Nat) (s t f : Int) (zs : List Int) (w : World) (h : Ls w a zs) (hm : zs.length ≤ 1048576) (hf : -200000 ≤ f ∧ f ≤ 200000) :
    Calls Tryd.prog 21 #[.agg #[.int .i64 s, .int .i64 t, .int .i64 f, .slice a zs.length c]] w fun e w' => e = .returned (.bool (btOk s t f zs)) ∧ Keep w w' := by
  have HF : Hid (btOk s t f zs = (btA s t f zs && (saB s t f zs.length && decide (f + (zs.length : Int) - 1 ≤ 999)))) := Lib.hid rfl
  have hfk : IntKind.i64.wrap (f + (zs.length : Int)) = f + (zs.length : Int) := IntWalk.i64_in _ (by omega)
  have hfk1 : IntKind.i64.wrap (f + (zs.length : Int) - 1) = f + (zs.length : Int) - 1 := IntWalk.i64_in _ (by omega)
  have HSA := Lib.hid (fun W => sa_impl s t f zs.length W)
  have HDV := Lib.hid (fun W => dval_any (f + (zs.length : Int) - 1) W)
  have HDQ : Hid (saB s t f zs.length = true → inB (f + (zs.length : Int) - 1) 0 999 = decide (f + (zs.length : Int) - 1 ≤ 999)) := Lib.hid (fun h9 => by
    obtain ⟨_, _, hf, m, hm, hm1, hm2⟩ := saB_facts h9
    rw [inB, decide_eq_true (by omega)]; rfl)
  have H0 := Lib.hid (World.cell?_alloc_new w #[.int .i64 s, .int .i64 t, .int .i64 f, .slice a zs.length c] 44 0)
  have H1 := Lib.hid (World.cell?_alloc_new w #[.int .i64 s, .int .i64 t, .int .i64 f, .slice a zs.length c] 44 1)
  have H2 := Lib.hid (World.cell?_alloc_new w #[.int .i64 s, .int .i64 t, .int .i64 f, .slice a zs.length c] 44 2)
  have H3 := Lib.hid (World.cell?_alloc_new w #[.int .i64 s, .int .i64 t, .int .i64 f, .slice a zs.length c] 44 3)
  obtain ⟨sa, hsa⟩ : ∃ x, saB s t f zs.length = x := ⟨_, rfl⟩
  rw [hsa] at HF HSA HDQ
  clear hsa
  go_enter Tryd.func21, Tryd.ntmps21
  go_wp2_with fail
  refine (HSA.out _).mono ?_
  rintro e w1 ⟨rfl, rfl⟩
  cases sa
  case' false =>
    go_wp2
    go_ret
    exact ⟨retB (by rw [HF.out]; simp), (Keep.refl w).alloc _⟩
  rw [HDQ.out rfl] at HDV
  obtain ⟨dv, hdv⟩ : ∃ x, decide (f + (zs.length : Int) - 1 ≤ 999) = x := ⟨_, rfl⟩
  rw [hdv] at HDV HF
  clear hdv HDQ
  go_wp2_with fail
  refine (HDV.out _).mono ?_
  rintro e w1 ⟨rfl, rfl⟩
  cases dv
  case' false =>
    go_wp2
    go_ret
    exact ⟨retB (by rw [HF.out]; simp), (Keep.refl w).alloc _⟩
  have HF2 : Hid (btOk s t f zs = btA s t f zs) := Lib.hid (by rw [HF.out]; simp)
  clear HF HSA HDV
  go_wp2_with fail
  go_loopw [30] (fun i wr => ∃ k : Nat, k ≤ zs.length ∧ i = .int .i64 k ∧ Hid (∀ j, j < k → btV s t f zs j = true) ∧ Keep (w.alloc (.cells #[.int .i64 s, .int .i64 t, .int .i64 f, .slice a zs.length c] 44)) wr) (fun i _ => zs.length - (RowKit.intOf i).toNat)
  case atStart => exact ⟨0, by omega, rfl, Lib.hid (fun j hj => absurd hj (by omega)), Keep.refl _⟩
  case round =>
    obtain ⟨k, hk, rfl, HA, hK⟩ := hrel
    have hKw : Keep w wr := ((Keep.refl w).alloc _).trans hK
    by_cases hlt : k < zs.length
    · have HL := Lib.hid (h.keep hKw)
      obtain ⟨b, off, hae, hb, hc⟩ := HL.out.all (by omega)
      have cz := hc k hlt
      have HRP := Lib.hid (fun W (hw : Keep wr W) => rp_impl a c s t f zs k W (HL.out.keep hw) hlt hm hf)
      have HV : Hid (btV s t f zs k = (decide (zs.getD k 0 = -9999) || rOk s (f + (k : Int)) t (zs.getD k 0))) := Lib.hid rfl
      have HNO := Lib.hid (fun h9 : btV s t f zs k = false => (show btOk s t f zs = false by rw [HF2.out, btA_no hlt h9]))
      have HYES := Lib.hid (fun h9 : btV s t f zs k = true => fun j (hj : j < k + 1) => (show btV s t f zs j = true by
        by_cases e : j < k
        · exact HA.out j e
        · obtain rfl : j = k := by omega
          exact h9))
      generalize zs.getD k 0 = z at *
      clear hc HA HL
      by_cases hz : z = -9999
      · have hzd : (z != -9999) = false := by simp [hz]
        have HY := Lib.hid (HYES.out (by rw [HV.out, hz]; rfl))
        clear HNO HYES HV hz HRP
        subst hae
        go_wp2
        go_roundw
        case rel => exact ⟨k + 1, by omega, by go_num, HY, hK⟩
        case measure => simp [RowKit.intOf]; omega
      · have hzd : (z != -9999) = true := by simp [hz]
        have HV2 : Hid (btV s t f zs k = rOk s (f + (k : Int)) t z) := Lib.hid (by rw [HV.out, decide_eq_false hz]; rfl)
        obtain ⟨r, hr⟩ : ∃ r, rOk s (f + (k : Int)) t z = r := ⟨_, rfl⟩
        have HRV := Lib.hid (fun W => rv_impl s (f + (k : Int)) t z W)
        rw [hr] at HRV HV2
        have c0 := hK.cell H0.out
        have c1 := hK.cell H1.out
        have c2 := hK.cell H2.out
        have c3 := hK.cell H3.out
        clear hr HV hz
        subst hae
        go_wp2_with fail
        refine (HRP.out _ (Keep.refl _)).mono ?_
        rintro e w1 ⟨rfl, k1⟩
        go_wp2_with fail
        refine (HRV.out _).mono ?_
        rintro e w2 ⟨rfl, k2⟩
        have hK1 := (hK.trans k1).trans k2
        cases r
        · have HN := Lib.hid (HNO.out HV2.out)
          go_wp2
          go_ret
          exact ⟨retB HN.out.symm, ((Keep.refl w).alloc _).trans hK1⟩
        · have HY := Lib.hid (HYES.out HV2.out)
          go_wp2
          go_roundw
          case rel => exact ⟨k + 1, by omega, by go_num, HY, hK1⟩
          case measure => simp [RowKit.intOf]; omega
    · obtain rfl : k = zs.length := by omega
      have HE : Hid (btOk s t f zs = true) := Lib.hid (by rw [HF2.out]; exact btA_yes HA.out)
      clear HA HF2
      go_wp2
      go_ret
      exact ⟨retB HE.out.symm, hKw⟩
set_option maxRecDepth 100000 in
set_option maxHeartbeats 3200000 in
theorem bx_impl (a : Option Addr) (c : Nat) (s t f : Int) (zs : List Int) (w : World) (T : Tabs w) (h : Ls w a zs) (hok : btOk s t f zs = true) :
    Calls Tryd.prog 22 #[.agg #[.int .i64 s, .int .i64 t, .int .i64 f, .slice a zs.length c]] w fun e w' => e = .returned (.string ⟨(btL s t f zs).toArray⟩) ∧ Keep w w' := by
  obtain ⟨hs, ht, hf, hl, hz⟩ := btOk_facts hok
  have HP := Lib.hid (bdP_len hs ht hf hz)
  have HZ := Lib.hid hz
  have s1 := dtx_size (n := s) (by omega) (by omega)
  have s2 := dtx_size (n := t) (by omega) (by omega)
  have s3 := dtx_size (n := f) (by omega) (by omega)
  have HF : Hid ((⟨#[98]⟩ : ByteArray) ++ dtx s ++ ⟨#[32, 107]⟩ ++ dtx t ++ ⟨#[32, 100]⟩ ++ dtx f = ⟨(bdP s t f zs 0).toArray⟩) := Lib.hid (bytes_eq (by simp [dtx_list, bdP_zero, bdF]))
  have z1 : ¬ 9223372036854775807 < 1 + (dtx s).size := by omega
  have z2 : ¬ 9223372036854775807 < 1 + (dtx s).size + 2 := by omega
  have z3 : ¬ 9223372036854775807 < 1 + (dtx s).size + 2 + (dtx t).size := by omega
  have z4 : ¬ 9223372036854775807 < 1 + (dtx s).size + 2 + (dtx t).size + 2 := by omega
  have z5 : ¬ 9223372036854775807 < 1 + (dtx s).size + 2 + (dtx t).size + 2 + (dtx f).size := by omega
  clear hz hok
  obtain ⟨w1, hw1⟩ : ∃ w1, w1 = w.alloc (.cells #[.int .i64 s, .int .i64 t, .int .i64 f, .slice a zs.length c] 44) := ⟨_, rfl⟩
  have K1 : Keep w w1 := by rw [hw1]; exact (Keep.refl w).alloc _
  have c0 : w1.cell? ⟨w.heap.size, 0, none⟩ = some (.int .i64 s) := by rw [hw1]; exact World.cell?_alloc_new w _ _ 0
  have c1 : w1.cell? ⟨w.heap.size, 1, none⟩ = some (.int .i64 t) := by rw [hw1]; exact World.cell?_alloc_new w _ _ 1
  have c2 : w1.cell? ⟨w.heap.size, 2, none⟩ = some (.int .i64 f) := by rw [hw1]; exact World.cell?_alloc_new w _ _ 2
  have c3 : w1.cell? ⟨w.heap.size, 3, none⟩ = some (.slice a zs.length c) := by rw [hw1]; exact World.cell?_alloc_new w _ _ 3
  have HT := Lib.hid (T.keep K1)
  have HLs := Lib.hid (h.keep K1)
  have K1w := Lib.hid K1
  clear K1 T h
  go_enter Tryd.func22, Tryd.ntmps22
  go_wp2_with fail
  rw [← hw1]
  clear hw1
  generalize w.heap.size = bx at *
  go_region_held3 (fun w' => Keep w1 w' ∧ w'.cell? ⟨bx, 0, none⟩ = some (.int .i64 s) ∧ w'.cell? ⟨bx, 1, none⟩ = some (.int .i64 t) ∧ w'.cell? ⟨bx, 2, none⟩ = some (.int .i64 f))
    ((go_split_ands; refine (fun hK => ⟨hK, hK.cell c0, hK.cell c1, hK.cell c2⟩ : Keep w1 _ → _) ?_; (repeat' (first | with_reducible assumption | with_reducible exact Keep.refl _ | with_reducible refine Keep.drew ?_ | with_reducible refine Keep.drewN ?_ _ | with_reducible refine Keep.alloc ?_ _ | with_reducible refine Keep.trans ?_ hk))))
    (first | (go_at_call 42; refine (itoa_any _ _ (HT.out.keep (by (repeat' (first | with_reducible assumption | with_reducible exact Keep.refl _ | with_reducible refine Keep.drew ?_ | with_reducible refine Keep.drewN ?_ _ | with_reducible refine Keep.alloc ?_ _ | with_reducible refine Keep.trans ?_ hk)))) (by omega) (by omega)).mono ?_; rintro e w' ⟨rfl, hk⟩; go_split_ands; have hK : Keep w1 w' := Keep.trans (by (repeat' (first | with_reducible assumption | with_reducible exact Keep.refl _ | with_reducible refine Keep.drew ?_ | with_reducible refine Keep.drewN ?_ _ | with_reducible refine Keep.alloc ?_ _ | with_reducible refine Keep.trans ?_ hk))) hk))
  all_goals
    have c3' := hK.cell c3
    have HTw := Lib.hid (HT.out.keep hK)
    have HLw := Lib.hid (HLs.out.keep hK)
    have K2 := K1w.out.trans hK
    clear hK HT HLs K1w c0 c1 c2 c3 z1 z2 z3 z4 z5
    go_wp2_with fail
    rw [HF.out]
    go_loopw [3, 23] (fun u i wr => ∃ k : Nat, k ≤ zs.length ∧ i = .int .i64 k ∧ u = .string ⟨(bdP s t f zs k).toArray⟩ ∧ Keep w' wr) (fun _ i _ => zs.length - (RowKit.intOf i).toNat)
    case atStart => exact ⟨0, by omega, rfl, rfl, Keep.refl _⟩
    case round =>
      obtain ⟨k, hk, rfl, rfl, hKr⟩ := hrel
      by_cases hlt : k < zs.length
      · obtain ⟨b, off, hae, hb, hc⟩ := (HLw.out.keep hKr).all (by omega)
        have cz := hc k hlt
        subst hae
        have hzk := HZ.out k hlt
        have HS := Lib.hid (bdP_succ s t f hlt)
        have hpl := HP.out k hk
        have HSZ := bts_size (bdP s t f zs k)
        rw [← HSZ] at hpl
        have HAP := Lib.hid (bts_app (bdP s t f zs k))
        obtain ⟨q, hq⟩ : ∃ q, bdP s t f zs (k + 1) = q := ⟨_, rfl⟩
        have HQ := Lib.hid hq
        rw [hq] at HS
        clear hq
        obtain ⟨p, hp⟩ : ∃ p : ByteArray, (⟨(bdP s t f zs k).toArray⟩ : ByteArray) = p := ⟨_, rfl⟩
        rw [hp] at hpl HAP ⊢
        generalize bdP s t f zs k = pl at *
        generalize zs.getD k 0 = z at *
        have HVW := Lib.hid (vw_impl z wr (HTw.out.keep hKr) (by omega) (by omega))
        have hvl := bdW_len (v := z) (by omega) (by omega)
        have HSW := bts_size (bdW z)
        rw [← HSW] at hvl
        have HE : Hid (p ++ (⟨#[32]⟩ ++ ⟨(bdW z).toArray⟩) = ⟨q.toArray⟩) := Lib.hid (by
          have e1 : (⟨#[32]⟩ ++ ⟨(bdW z).toArray⟩ : ByteArray) = ⟨(32 :: bdW z).toArray⟩ := bytes_eq (by simp)
          rw [e1, HAP.out, HS.out])
        generalize (⟨(bdW z).toArray⟩ : ByteArray) = vz at *
        clear hp HSZ hc HZ HP HSW HS HAP hzk
        go_wp2_with fail
        refine HVW.out.mono ?_
        rintro e w4 ⟨rfl, k4⟩
        go_wp2_with fail
        rw [HE.out]
        go_roundw
        case rel => exact ⟨k + 1, by omega, by go_num, by rw [HQ.out], hKr.trans k4⟩
        case measure => simp [RowKit.intOf]; omega
      · obtain rfl : k = zs.length := by omega
        have h1 := HP.out zs.length (Nat.le_refl _)
        have HB := Lib.hid (bdP_all s t f (Nat.le_refl zs.length))
        rw [bdP_all s t f (Nat.le_refl _)] at h1 ⊢
        have HSZ := bts_size (bdL s t f zs)
        have HLB := bts_list (bdL s t f zs)
        have HAP := Lib.hid (bts_app (bdL s t f zs))
        have HBT : Hid (btL s t f zs = bdL s t f zs ++ 32 :: 61 :: itoa (bsL (bdL s t f zs) : Int)) := Lib.hid rfl
        obtain ⟨p, hp⟩ : ∃ p : ByteArray, (⟨(bdL s t f zs).toArray⟩ : ByteArray) = p := ⟨_, rfl⟩
        rw [hp] at HSZ HLB HAP ⊢
        have hps : p.size ≤ 200 := by omega
        have HSW := Lib.hid (sw_impl p wr (HTw.out.keep hKr) (by omega))
        rw [HLB] at HSW
        have hlt2 := bsL_lt (bdL s t f zs)
        generalize bdL s t f zs = L at *
        generalize bsL L = n at *
        have hsl : (⟨(61 :: itoa (n : Int)).toArray⟩ : ByteArray).size ≤ 7 := by
          rw [bts_size, List.length_cons]
          have := itoa_len (n := (n : Int)) (by omega) (by omega)
          omega
        have HE : Hid (p ++ ⟨#[32]⟩ ++ ⟨(61 :: itoa (n : Int)).toArray⟩ = ⟨(btL s t f zs).toArray⟩) := Lib.hid (by
          have e1 := HAP.out [32]
          have e0 : (⟨[32].toArray⟩ : ByteArray) = ⟨#[32]⟩ := rfl
          rw [e0] at e1
          rw [e1, bts_app, HBT.out]; simp)
        generalize (⟨(61 :: itoa (n : Int)).toArray⟩ : ByteArray) = sw at *
        clear hp HSZ HLB HAP HBT h1 HB HP HZ
        go_wp2_with fail
        refine HSW.out.mono ?_
        rintro e w4 ⟨rfl, k4⟩
        go_wp2
        go_ret
        exact ⟨retS HE.out, (K2.trans hKr).trans k4⟩
set_option maxRecDepth 100000 in
set_option maxHeartbeats 3200000 in
theorem bt_impl (a : Option Addr) (c : Nat) (s t f : Int) (zs : List Int) (w : World) (T : Tabs w) (h : Ls w a zs) (hm : zs.length ≤ 1048576) (hf : -200000 ≤ f ∧ f ≤ 200000) :
    Calls Tryd.prog 7 #[.int .i64 s, .int .i64 t, .int .i64 f, .slice a zs.length c] w fun e w' => e = .returned (.string (btT s t f zs)) ∧ Keep w w' := by
  obtain ⟨w1, hw1⟩ : ∃ w1, w1 = w.alloc (.cells #[.int .i64 s, .int .i64 t, .int .i64 f, .slice a zs.length c] 44) := ⟨_, rfl⟩
  have K1 : Keep w w1 := by rw [hw1]; exact (Keep.refl w).alloc _
  have c0 : w1.cell? ⟨w.heap.size, 0, none⟩ = some (.int .i64 s) := by rw [hw1]; exact World.cell?_alloc_new w _ _ 0
  have c1 : w1.cell? ⟨w.heap.size, 1, none⟩ = some (.int .i64 t) := by rw [hw1]; exact World.cell?_alloc_new w _ _ 1
  have c2 : w1.cell? ⟨w.heap.size, 2, none⟩ = some (.int .i64 f) := by rw [hw1]; exact World.cell?_alloc_new w _ _ 2
  have c3 : w1.cell? ⟨w.heap.size, 3, none⟩ = some (.slice a zs.length c) := by rw [hw1]; exact World.cell?_alloc_new w _ _ 3
  have HV := Lib.hid (bv_impl a c s t f zs w1 (h.keep K1) hm hf)
  have HX := Lib.hid (fun W (hk : Keep w1 W) => bx_impl a c s t f zs W (T.keep (K1.trans hk)) (h.keep (K1.trans hk)))
  obtain ⟨ok, hok⟩ : ∃ x, btOk s t f zs = x := ⟨_, rfl⟩
  rw [hok] at HV HX
  have K1w := Lib.hid K1
  clear T h K1
  cases ok
  · have HT := Lib.hid (btT_no hok)
    clear hok HX
    go_enter Tryd.func7, Tryd.ntmps7
    go_wp2_with fail
    rw [← hw1]
    refine HV.out.mono ?_
    rintro e w2 ⟨rfl, k1⟩
    clear hw1
    go_wp2
    go_ret
    exact ⟨retS HT.out.symm, K1w.out.trans k1⟩
  · have HT := Lib.hid (btT_yes hok)
    clear hok
    go_enter Tryd.func7, Tryd.ntmps7
    go_wp2_with fail
    rw [← hw1]
    refine HV.out.mono ?_
    rintro e w2 ⟨rfl, k1⟩
    clear hw1
    replace c0 := k1.cell c0
    replace c1 := k1.cell c1
    replace c2 := k1.cell c2
    replace c3 := k1.cell c3
    go_wp2_with fail
    refine (HX.out _ k1 (by first | rfl | trivial)).mono ?_
    rintro e w3 ⟨rfl, k3⟩
    go_wp2
    go_ret
    exact ⟨retS HT.out.symm, (K1w.out.trans k1).trans k3⟩
end Go.Proofs.YtpdpcnblpcalaaaDoor
