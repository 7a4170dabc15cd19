/- P152: the differences of two versions are told, each once. -/
import Derived.Test.YtamdfdbhkmgflaaDrDk
import Derived.Test.YtamdfdbhkmgflaaDrSa
import Derived.Test.YtamdfdbhkmgflaaKo
import Derived.Test.YtamdfdbhkmgflaaFr
namespace Go.Proofs.Ytamdfdbhkmgflaa
open Go.RowKit
set_option linter.unusedVariables false

set_option maxRecDepth 100000 in
set_option maxHeartbeats 6400000 in
theorem walk_FnDiff (a0 : Option Addr) (len0 cap0 : Nat) (z0 : List Int) (w : World) (w0 : IsRow .u8 w a0 len0 cap0 z0) :
    Calls Try.prog 3 #[.slice a0 len0 cap0] w fun e w' => e = .returned (.bool true) ∧ Below w.heap.size w w' := by
  have ha := code_of_row w0
  obtain ⟨hl0, hm0⟩ := ha.1
  unfold maxLen at hm0
  clear w0
  by_cases h : len0 ≤ 1048576
  case' neg =>
    have hd : decide (1048576 < (len0 : Int)) = true := by simp; omega
    go_enter Try.func3, Try.ntmps3
    go_wp2
    go_ret
    exact ⟨rfl, Below.refl _ _⟩
  have hd : decide (1048576 < (len0 : Int)) = false := by simp; omega
  go_enter Try.func3, Try.ntmps3
  go_wp2_with fail
  refine (drawDiffOf a0 len0 cap0 _ ha).mono ?_
  rintro e w1 ⟨gg, c, rs, v, u, rfl, hl, hcl, hF, hv, hu, k1⟩
  have hL1 := hF.rs
  clear ha hF hv hu
  have hle := dfL_len rs v u
  have HSV := Lib.hid (fun W (k : Keep w1 W) => sv_spec _ c rs W (hL1.keep k) (by omega))
  go_wp2_with fail
  refine (df_impl _ c rs v u _ hL1 (by omega) hcl).mono ?_
  rintro e w2 ⟨p, q, rfl, hF2, k2⟩
  go_wp2_with fail
  refine (df_spec _ c rs v u _ (hL1.keep k2) (by omega) hcl).mono ?_
  rintro e w3 ⟨p3, q3, rfl, hF3, k3⟩
  have K3 : Keep w1 w3 := k2.trans k3
  have hO := hF2.ks.keep k3
  have hW := hF3.ks
  clear hF2 hF3
  go_wp2_with fail
  refine (sK_same p p3 q q3 (dfL rs v u) _ hO hW (by omega)).mono ?_
  rintro e w4 ⟨rfl, k4⟩
  have K4 := K3.trans k4
  have hO4 := hO.keep k4
  have hW4 := hW.keep k4
  clear hO hW k2 k3 k4 K3
  rcases Bool.eq_false_or_eq_true (stB rs) with hs | hs
  case' inr =>
    have HSV1 := Lib.hid (HSV.out _ K4)
    rw [hs] at HSV1
    clear hs HSV
    go_wp2_with fail
    refine HSV1.out.mono ?_
    rintro e w5 ⟨rfl, k5⟩
    go_wp2_with fail
    refine (sK_same p p3 q q3 (dfL rs v u) _ (hO4.keep k5) (hW4.keep k5) (by omega)).mono ?_
    rintro e w6 ⟨rfl, k6⟩
    go_wp2
    go_ret
    exact ⟨rfl, ((k1.trans K4).trans k5).trans k6⟩
  by_cases hv0 : 0 ≤ v
  case' neg =>
    have HSV1 := Lib.hid (HSV.out _ K4)
    rw [hs] at HSV1
    clear hs HSV
    go_wp2_with fail
    refine HSV1.out.mono ?_
    rintro e w5 ⟨rfl, k5⟩
    go_wp2_with fail
    refine (sK_same p p3 q q3 (dfL rs v u) _ (hO4.keep k5) (hW4.keep k5) (by omega)).mono ?_
    rintro e w6 ⟨rfl, k6⟩
    go_wp2
    go_ret
    exact ⟨rfl, ((k1.trans K4).trans k5).trans k6⟩
  by_cases hu0 : 0 ≤ u
  case' neg =>
    have HSV1 := Lib.hid (HSV.out _ K4)
    rw [hs] at HSV1
    clear hs HSV
    go_wp2_with fail
    refine HSV1.out.mono ?_
    rintro e w5 ⟨rfl, k5⟩
    go_wp2_with fail
    refine (sK_same p p3 q q3 (dfL rs v u) _ (hO4.keep k5) (hW4.keep k5) (by omega)).mono ?_
    rintro e w6 ⟨rfl, k6⟩
    go_wp2
    go_ret
    exact ⟨rfl, ((k1.trans K4).trans k5).trans k6⟩
  by_cases hvl : v ≤ (rs.length : Int)
  case' neg =>
    have HSV1 := Lib.hid (HSV.out _ K4)
    rw [hs] at HSV1
    clear hs HSV
    go_wp2_with fail
    refine HSV1.out.mono ?_
    rintro e w5 ⟨rfl, k5⟩
    go_wp2_with fail
    refine (sK_same p p3 q q3 (dfL rs v u) _ (hO4.keep k5) (hW4.keep k5) (by omega)).mono ?_
    rintro e w6 ⟨rfl, k6⟩
    go_wp2
    go_ret
    exact ⟨rfl, ((k1.trans K4).trans k5).trans k6⟩
  by_cases hul : u ≤ (rs.length : Int)
  case' neg =>
    have HSV1 := Lib.hid (HSV.out _ K4)
    rw [hs] at HSV1
    clear hs HSV
    go_wp2_with fail
    refine HSV1.out.mono ?_
    rintro e w5 ⟨rfl, k5⟩
    go_wp2_with fail
    refine (sK_same p p3 q q3 (dfL rs v u) _ (hO4.keep k5) (hW4.keep k5) (by omega)).mono ?_
    rintro e w6 ⟨rfl, k6⟩
    go_wp2
    go_ret
    exact ⟨rfl, ((k1.trans K4).trans k5).trans k6⟩
  have hiA : inB v 0 rs.length = true := by simp [inB]; omega
  have hiB : inB u 0 rs.length = true := by simp [inB]; omega
  have HO : dfOk rs v u = true := by simp [dfOk, vrB, hs, hiA, hiB]
  have hvA : vrB rs v = true := by simp [vrB, hs, hiA]
  have hvB : vrB rs u = true := by simp [vrB, hs, hiB]
  have HDf : Hid (∀ s d t, dfB rs v.toNat u.toNat (s, d, t) = (svV rs v s d t != svV rs u s d t)) := Lib.hid (fun s d t => by
    obtain ⟨_, _, m1, rfl, _⟩ := vrB_facts hvA
    obtain ⟨_, _, m2, rfl, _⟩ := vrB_facts hvB
    rw [svV_yes hvA, svV_yes hvB]; rfl)
  have HSay : Hid (∀ i, i < rs.length → kcn (dfL rs v u) (rS (rs.getD i r0), rD (rs.getD i r0), rK (rs.getD i r0)) (dfL rs v u).length = if dfB rs v.toNat u.toNat (rS (rs.getD i r0), rD (rs.getD i r0), rK (rs.getD i r0)) then 1 else 0) := Lib.hid (fun i hi => df_says HO hi)
  have HVO := Lib.hid (fun x s d t W (k : Keep w4 W) => vof_any _ c rs x s d t W (hL1.keep (K4.trans k)) (by omega) hcl)
  have HSV1 := Lib.hid (HSV.out _ K4)
  rw [hs] at HSV1
  have HL4 := Lib.hid (hL1.keep K4)
  have HD4 := Lib.hid hO4
  clear hs HSV hiA hiB HO hvA hvB hW4 hO4 hL1
  generalize dfL rs v u = L at *
  go_wp2_with fail
  refine HSV1.out.mono ?_
  rintro e w5 ⟨rfl, k5⟩
  have K5 : Keep w w5 := (k1.trans K4).trans k5
  go_wp2_with fail
  go_loopw [8] (fun i wr => ∃ k : Nat, k ≤ rs.length ∧ i = .int .i64 k ∧ Keep w4 wr ∧ Keep w wr) (fun i _ => rs.length - (intOf i).toNat)
  case atStart => exact ⟨0, by omega, rfl, k5, K5⟩
  case round =>
    obtain ⟨k, hk, rfl, hK, hKw⟩ := hrel
    by_cases hlt : k < rs.length
    · obtain ⟨b, off, hbe, hb, hcc⟩ := (HL4.out.keep hK).at_ hlt
      injection hbe with hbe
      injection hbe with e1 e2
      subst e1
      subst e2
      obtain ⟨c0, c1, c2, c3⟩ := hcc
      have HSy := Lib.hid (HSay.out k hlt)
      generalize rS (rs.getD k r0) = s at *
      generalize rD (rs.getD k r0) = d at *
      generalize rK (rs.getD k r0) = t at *
      clear c3
      rw [Nat.zero_add] at c0 c1 c2
      rw [HDf.out s d t] at HSy
      have HV1 := Lib.hid (HVO.out v s d t)
      have HV2 := Lib.hid (HVO.out u s d t)
      generalize svV rs v s d t = v1 at *
      generalize svV rs u s d t = v2 at *
      have q1 : (0 : Int) ≤ (k : Int) := by omega
      have q2 : (k : Int) < (rs.length : Int) := by omega
      go_wp2_with fail
      have HSc : ∀ W, Keep wr W → (W.cell? ⟨gg, k * 4, none⟩ = some (.int .i64 s) ∧ W.cell? ⟨gg, k * 4 + 1, none⟩ = some (.int .i64 d) ∧ W.cell? ⟨gg, k * 4 + 2, none⟩ = some (.int .i64 t)) := fun W kW => ⟨kW.cell c0, kW.cell c1, kW.cell c2⟩
      go_region_held3 (fun w' => w'.cell? ⟨gg, k * 4, none⟩ = some (.int .i64 s) ∧ w'.cell? ⟨gg, k * 4 + 1, none⟩ = some (.int .i64 d) ∧ w'.cell? ⟨gg, k * 4 + 2, none⟩ = some (.int .i64 t)) ((first | exact HSc _ ((Keep.refl _).drewN 1) | exact HSc _ (((Keep.refl _).drewN 1).alloc _))) (fail)
      obtain ⟨W0, hW0⟩ : ∃ W0, W0 = (wr.alloc (.cells #[.int .i64 s, .int .i64 d, .int .i64 t] 33)).drew := ⟨_, rfl⟩
      have KW0 : Keep wr W0 := by rw [hW0]; exact ((Keep.refl wr).alloc _).drew
      have p0 : W0.cell? ⟨wr.heap.size, 0, none⟩ = some (.int .i64 s) := by rw [hW0]; exact ((Keep.refl (wr.alloc _)).drew).cell (World.cell?_alloc_new wr _ _ 0)
      have p1 : W0.cell? ⟨wr.heap.size, 1, none⟩ = some (.int .i64 d) := by rw [hW0]; exact ((Keep.refl (wr.alloc _)).drew).cell (World.cell?_alloc_new wr _ _ 1)
      have p2 : W0.cell? ⟨wr.heap.size, 2, none⟩ = some (.int .i64 t) := by rw [hW0]; exact ((Keep.refl (wr.alloc _)).drew).cell (World.cell?_alloc_new wr _ _ 2)
      generalize hbk : wr.heap.size = bk at p0 p1 p2
      clear c0 c1 c2 HSc
      go_wp2_with fail
      rw [← hW0]
      clear hW0
      go_loopw [10, 11] (fun nn jj wr2 => ∃ (j N : Nat), j ≤ L.length ∧ N ≤ L.length ∧ jj = .int .i64 j ∧ nn = .int .i64 N ∧ Hid (N = kcn L (s, d, t) j) ∧ Keep W0 wr2) (fun _ jj _ => L.length - (intOf jj).toNat)
      case atStart => exact ⟨0, 0, by omega, by omega, rfl, rfl, Lib.hid (kcn_zero _ _).symm, Keep.refl _⟩
      case round =>
        obtain ⟨j, N, hj, hNl, rfl, rfl, HN, hK2⟩ := hrel
        have z0 := hK2.cell p0
        have z1 := hK2.cell p1
        have z2 := hK2.cell p2
        by_cases hjt : j < L.length
        · obtain ⟨b2, o2, hp2, _, ⟨d0, d1, d2⟩⟩ := (((HD4.out.keep hK).keep KW0).keep hK2).at_ hjt
          subst hp2
          have HS := Lib.hid (kcn_succ (k := (s, d, t)) hjt)
          have hcase := k_case (L.getD j k0) (s, d, t)
          have HX : Hid (L.getD j k0 = (kS (L.getD j k0), kD (L.getD j k0), kT (L.getD j k0))) := Lib.hid rfl
          generalize kS (L.getD j k0) = a0 at *
          generalize kD (L.getD j k0) = a1 at *
          generalize kT (L.getD j k0) = a2 at *
          have r1 : (0 : Int) ≤ (j : Int) := by omega
          have r2 : (j : Int) < (L.length : Int) := by omega
          have hkl := kcn_le L (s, d, t) (j + 1)
          rcases hcase with ⟨hne, e0⟩ | ⟨hne, e0, e1⟩ | ⟨hne, e0, e1, e2⟩ | he
          case' inr.inr.inr =>
            have HN2 : Hid (N + 1 = kcn L (s, d, t) (j + 1)) := Lib.hid (by rw [HS.out, if_pos he, HN.out])
            have hNl2 : N + 1 ≤ L.length := by rw [HN2.out]; exact hkl
            have hx : (a0, a1, a2) = (s, d, t) := HX.out.symm.trans he
            simp only [Prod.mk.injEq] at hx
            obtain ⟨rfl, rfl, rfl⟩ := hx
            clear HS he HX
            go_wp2_with fail
            go_quiet (fail)
            go_wp2
            go_roundw
            case rel => exact ⟨j + 1, N + 1, by omega, by omega, by go_num, by go_num, HN2, hK2.drewN nq⟩
            case measure => simp [intOf]; omega
          all_goals
            have HN2 : Hid (N = kcn L (s, d, t) (j + 1)) := Lib.hid (by rw [HS.out, if_neg hne]; exact HN.out)
            simp only [kS, kD, kT] at *
            clear HS hne HX
            go_wp2_with fail
            go_quiet (fail)
            go_wp2
            go_roundw
            case rel => exact ⟨j + 1, N, by omega, by omega, by go_num, rfl, HN2, hK2.drewN nq⟩
            case measure => simp [intOf]; omega
        · obtain rfl : j = L.length := by omega
          have HNv : Hid (N = if v1 != v2 then 1 else 0) := Lib.hid (HN.out.trans HSy.out)
          have KA : Keep w4 wr := (hK.trans KW0).trans hK2
          have HALL : ∀ W, Keep wr W → (W.cell? ⟨bk, 0, none⟩ = some (.int .i64 s) ∧ W.cell? ⟨bk, 1, none⟩ = some (.int .i64 d) ∧ W.cell? ⟨bk, 2, none⟩ = some (.int .i64 t)) := fun W k => ⟨k.cell z0, k.cell z1, k.cell z2⟩
          have hcv : ((v1 != v2) = true ∧ N = 1) ∨ ((v1 != v2) = false ∧ N = 0) := by
            cases hv : v1 != v2
            · exact .inr ⟨rfl, by rw [HNv.out, hv]; rfl⟩
            · exact .inl ⟨rfl, by rw [HNv.out, hv]; rfl⟩
          clear HNv HN HSy
          rcases hcv with ⟨hv, rfl⟩ | ⟨hv, rfl⟩
          all_goals
            go_wp2_with fail
            go_region_held3 (fun w' => Keep wr w' ∧ w'.cell? ⟨bk, 0, none⟩ = some (.int .i64 s) ∧ w'.cell? ⟨bk, 1, none⟩ = some (.int .i64 d) ∧ w'.cell? ⟨bk, 2, none⟩ = some (.int .i64 t))
              ((go_split_ands; refine (fun hK => ⟨hK, HALL _ hK⟩ : Keep wr _ → _) ?_; (repeat' (first | with_reducible assumption | with_reducible exact Keep.refl _ | with_reducible refine Keep.drew ?_ | with_reducible refine Keep.drewN ?_ _ | with_reducible refine Keep.alloc ?_ _ | with_reducible refine Keep.trans ?_ hk))))
              ((first
                | (go_at_call 11; go_split_ands; (with_reducible refine (HV1.out _ (KA.trans (by (repeat' (first | with_reducible assumption | with_reducible exact Keep.refl _ | with_reducible refine Keep.drew ?_ | with_reducible refine Keep.drewN ?_ _ | with_reducible refine Keep.alloc ?_ _ | with_reducible refine Keep.trans ?_ hk))))).mono ?_); rintro e w' ⟨rfl, hk⟩; go_split_ands; have hKx : Keep wr w' := Keep.trans (by (repeat' (first | with_reducible assumption | with_reducible exact Keep.refl _ | with_reducible refine Keep.drew ?_ | with_reducible refine Keep.drewN ?_ _ | with_reducible refine Keep.alloc ?_ _ | with_reducible refine Keep.trans ?_ hk))) hk)
                | (go_at_call 11; go_split_ands; (with_reducible refine (HV2.out _ (KA.trans (by (repeat' (first | with_reducible assumption | with_reducible exact Keep.refl _ | with_reducible refine Keep.drew ?_ | with_reducible refine Keep.drewN ?_ _ | with_reducible refine Keep.alloc ?_ _ | with_reducible refine Keep.trans ?_ hk))))).mono ?_); rintro e w' ⟨rfl, hk⟩; go_split_ands; have hKx : Keep wr w' := Keep.trans (by (repeat' (first | with_reducible assumption | with_reducible exact Keep.refl _ | with_reducible refine Keep.drew ?_ | with_reducible refine Keep.drewN ?_ _ | with_reducible refine Keep.alloc ?_ _ | with_reducible refine Keep.trans ?_ hk))) hk)))
            all_goals
              have KF : Keep wr _ := hKx
              go_wp2
              go_roundw
              case rel => exact ⟨k + 1, by omega, by go_num, KA.trans KF, ((hKw.trans KW0).trans hK2).trans KF⟩
              case measure => simp [intOf]; omega
    · obtain rfl : k = rs.length := by omega
      go_wp2
      go_ret
      exact ⟨retB (by simp), hKw⟩
end Go.Proofs.Ytamdfdbhkmgflaa
