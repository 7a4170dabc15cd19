/- P151: a history has the values of all versions. -/
import Derived.Test.YtlaajompcbmdoabDrVe
import Derived.Test.YtlaajompcbmdoabVh1
import Derived.Test.YtlaajompcbmdoabVh2
import Derived.Test.YtlaajompcbmdoabVc
import Derived.Test.YtlaajompcbmdoabHi
import Derived.Test.YtlaajompcbmdoabFr
import Derived.LoopTactic
import Derived.IntWalk
import Derived.Deep.QuietTactic
import Derived.BigQuiet
namespace Go.Proofs.Ytlaajompcbmdoab
open Go.RowKit
set_option linter.unusedVariables false

theorem hsL_le (rs : List R4) (s d t : Int) : (hsL rs s d t).length ≤ 40 := by
  cases h : stB rs
  · rw [hsL_no h]; simp
  · rw [hsL_yes h]; exact Nat.le_trans (hsN_len rs s d t _) (stB_facts h).2
set_option maxRecDepth 100000 in
set_option maxHeartbeats 6400000 in
theorem walk_FnHistoryVersions (a0 : Option Addr) (len0 cap0 : Nat) (z0 : List Int) (w : World) (w0 : IsRow .u8 w a0 len0 cap0 z0) :
    Calls Try.prog 5 #[.slice a0 len0 cap0] w fun e w' => e = .returned (.bool true) ∧ Below w.heap.size w w' := by
  have ha := code_of_row w0
  obtain ⟨hl0, hm0⟩ := ha.1
  unfold maxLen at hm0
  clear w0
  by_cases h : len0 ≤ 1048576
  case' neg =>
    have hd : decide (1048576 < (len0 : Int)) = true := by simp; omega
    go_enter Try.func5, Try.ntmps5
    go_wp2
    go_ret
    exact ⟨rfl, Below.refl _ _⟩
  have hd : decide (1048576 < (len0 : Int)) = false := by simp; omega
  go_enter Try.func5, Try.ntmps5
  go_wp2_with fail
  refine (drawHistoryOf a0 len0 cap0 _ ha).mono ?_
  rintro e w1 ⟨gg, c, rs, s, d, t, rfl, hl, hcl, hF, k1⟩
  have hL1 := hF.rs
  clear ha hF
  have hle := hsL_le rs s d t
  have HV := Lib.hid (fun v W (k : Keep w1 W) => vof_any _ c rs v s d t W (hL1.keep k) (by omega) hcl)
  have HSV := Lib.hid (fun W (k : Keep w1 W) => sv_spec _ c rs W (hL1.keep k) (by omega))
  have HSC := Lib.hid (fun W (k : Keep w1 W) => sc_impl _ c rs W (hL1.keep k) (by omega))
  have HR1 := Lib.hid hL1
  go_wp2_with fail
  refine (hs_impl _ c rs s d t _ (hL1.alloc _) (by omega)).mono ?_
  rintro e w2 ⟨p, q, rfl, hF2, k2⟩
  have p0 := k2.cell (b := w1.heap.size) (o := 0) (v := .int .i64 s) (by go_simp)
  have p1 := k2.cell (b := w1.heap.size) (o := 1) (v := .int .i64 d) (by go_simp)
  have p2 := k2.cell (b := w1.heap.size) (o := 2) (v := .int .i64 t) (by go_simp)
  have K2 : Keep w1 w2 := ((Keep.refl w1).alloc _).trans k2
  go_wp2_with fail
  refine (hs_spec _ c rs s d t _ (hL1.keep K2) (by omega) hcl).mono ?_
  rintro e w3 ⟨p3, q3, rfl, hF3, k3⟩
  replace p0 := k3.cell p0
  replace p1 := k3.cell p1
  replace p2 := k3.cell p2
  have K3 : Keep w1 w3 := K2.trans k3
  have hO := hF2.ls.keep k3
  have hW := hF3.ls
  clear hF2 hF3 k2 k3 K2
  rcases Bool.eq_false_or_eq_true (stB rs) with hs | hs
  case' inr =>
    rw [hs] at HSV
    generalize hsL rs s d t = L at *
    clear hs
    go_wp2_with fail
    refine (sI_same p p3 q q3 L _ hO hW (by omega)).mono ?_
    rintro e w4 ⟨rfl, k4⟩
    go_wp2_with fail
    refine (HSV.out _ (K3.trans k4)).mono ?_
    rintro e w5 ⟨rfl, k5⟩
    go_wp2_with fail
    refine (sI_same p p3 q q3 L _ ((hO.keep k4).keep k5) ((hW.keep k4).keep k5) (by omega)).mono ?_
    rintro e w6 ⟨rfl, k6⟩
    go_wp2
    go_ret
    exact ⟨rfl, (((k1.trans K3).trans k4).trans k5).trans k6⟩
  rw [hs] at HSV
  obtain ⟨hall, hl40⟩ := stB_facts hs
  have hvv : svV rs (rs.length : Nat) s d t = vN rs s d t rs.length := svV_yes (by simp [vrB, hs, inB]) s d t
  have HVl := Lib.hid (HV.out (rs.length : Nat))
  rw [hvv] at HVl
  have hLy := hsL_yes hs s d t
  rw [hLy] at hO hW hle ⊢
  have HMem := Lib.hid (fun i (hi : i ≤ rs.length) => hs_mem hall s d t rs.length (Nat.le_refl _) i hi)
  have HCnt := Lib.hid (hs_count hall s d t rs.length (Nat.le_refl _))
  have HKs := Lib.hid (kc_step rs s d t)
  have HKl := Lib.hid (kcN_le rs s d t)
  have HSL := Lib.hid (scL_yes hs)
  have HSm := Lib.hid (fun i => mem_sc rs i rs.length)
  have HVj : Hid (∀ (j : Nat) (hj : j ≤ rs.length) W (k : Keep w1 W), Calls Try.prog 28 #[.slice (some ⟨gg, 0, none⟩) rs.length c, .int .i64 (j : Int), .agg #[.int .i64 s, .int .i64 d, .int .i64 t]] W fun e w' => e = .returned (.int .i64 (vN rs s d t j)) ∧ Keep W w') := Lib.hid (fun j hj W k => by rw [← svV_yes (show vrB rs (j : Nat) = true by simp [vrB, hs, inB, hj]) s d t]; exact HV.out j W k)
  have hscl := scL_len rs
  clear hs hLy hvv hall
  generalize hsN rs s d t rs.length = L at *
  clear HV HVl
  go_wp2_with fail
  refine (sI_same p p3 q q3 L _ hO hW (by omega)).mono ?_
  rintro e w4 ⟨rfl, k4⟩
  replace p0 := k4.cell p0
  replace p1 := k4.cell p1
  replace p2 := k4.cell p2
  go_wp2_with fail
  refine (HSV.out _ (K3.trans k4)).mono ?_
  rintro e w5 ⟨rfl, k5⟩
  replace p0 := k5.cell p0
  replace p1 := k5.cell p1
  replace p2 := k5.cell p2
  have hO5 := (hO.keep k4).keep k5
  have K5 : Keep w1 w5 := (K3.trans k4).trans k5
  clear hO hW K3 k4 k5 HSV hL1
  go_wp2_with fail
  refine (HSC.out _ K5).mono ?_
  rintro e w6 ⟨ps, qs, rfl, hFs, k6⟩
  replace p0 := k6.cell p0
  replace p1 := k6.cell p1
  replace p2 := k6.cell p2
  have HO6 := Lib.hid (hO5.keep k6)
  have HC6 := Lib.hid hFs.ls
  have K6 := K5.trans k6
  clear hO5 hFs K5 k6 HSC
  go_wp2_with fail
  go_loopw [7, 9] (fun n i wr => ∃ j : Nat, j ≤ rs.length ∧ i = .int .i64 (j : Int) ∧ n = .int .i64 (kcN rs s d t j : Int) ∧ Keep w6 wr) (fun _ i _ => rs.length - (intOf i).toNat)
  case atStart => exact ⟨0, by omega, rfl, rfl, Keep.refl _⟩
  case round =>
    obtain ⟨j, hj, rfl, rfl, hKr⟩ := hrel
    have P0 := hKr.cell p0
    have P1 := hKr.cell p1
    have P2 := hKr.cell p2
    have hkj := HKl.out j
    by_cases hlt : j < rs.length
    · obtain ⟨i, hi⟩ : ∃ i, j + 1 = i := ⟨_, rfl⟩
      have jw : IntKind.i64.wrap ((j : Int) + 1) = (i : Int) := by rw [show (j : Int) + 1 = (i : Int) by omega]; exact IntWalk.i64_in _ ⟨by omega, by omega⟩
      have HVi := Lib.hid (HVj.out i (by omega) _ (K6.trans hKr))
      have HMi := Lib.hid (HMem.out i (by omega))
      have HK1 := Lib.hid (HKs.out j)
      rw [hi] at HK1
      have HJ := Lib.hid hi
      have hiL : (i : Int) ≤ 40 := by omega
      have hiL0 : (0 : Int) ≤ (i : Int) := by omega
      clear hi
      obtain ⟨X, hX⟩ : ∃ X, vN rs s d t i = X := ⟨_, rfl⟩
      rw [hX] at HVi HMi
      clear hX
      go_wp2_with fail
      refine HVi.out.mono ?_
      rintro e w7 ⟨rfl, k7⟩
      have Q0 := k7.cell P0
      have Q1 := k7.cell P1
      have Q2 := k7.cell P2
      obtain ⟨b, off, hbo, hb, ⟨c0, c1, c2, c3⟩⟩ := (HR1.out.keep (K6.trans (hKr.trans k7))).at_ hlt
      injection hbo with hbo
      injection hbo with hg0 hq0 _
      subst hg0
      subst hq0
      rw [Nat.zero_add] at c0 c1 c2 c3
      have hRj : (rs.getD j r0) = (rS (rs.getD j r0), rD (rs.getD j r0), rK (rs.getD j r0), rV (rs.getD j r0)) := rfl
      have HIj := Lib.hid (fun n => hasI_any ps qs (scL rs) (j : Int) (w7.drewN n) (((HC6.out.keep hKr).keep k7).keep ((Keep.refl w7).drewN n)) (by omega))
      have hmem : ((j : Int) ∈ scL rs) ↔ chB rs j = true := by
        have := HSm.out j
        rw [HSL.out, this]
        exact ⟨fun h => h.2, fun h => ⟨hlt, h⟩⟩
      generalize rS (rs.getD j r0) = y0 at *
      generalize rD (rs.getD j r0) = y1 at *
      generalize rK (rs.getD j r0) = y2 at *
      generalize rV (rs.getD j r0) = y3 at *
      clear hRj
      have HO7 := Lib.hid ((HO6.out.keep hKr).keep k7)
      have hin : X = -9999 ∨ ((X != -9999) = true ∧ X ∈ L) := by
        by_cases h : X = -9999
        · exact .inl h
        · exact .inr ⟨bne_iff_ne.2 h, HMi.out h⟩
      rcases hin with rfl | ⟨hX9, hXm⟩
      case' inr =>
        have HIX := Lib.hid (hasI_any p q L X w7 HO7.out (by omega))
        rw [decide_eq_true hXm] at HIX
        go_wp2_with fail
        refine HIX.out.mono ?_
        rintro e w' ⟨rfl, rfl⟩
      all_goals
        rcases Bool.eq_false_or_eq_true (chB rs j) with hcb | hcb
        case' inr =>
          rw [decide_eq_false (by rw [hmem, hcb]; simp)] at HIj
          have HE : Hid (kcN rs s d t i = kcN rs s d t j) := Lib.hid (by rw [HK1.out, if_neg (by rw [hcb]; simp)])
        case' inl =>
          rw [decide_eq_true (hmem.2 hcb)] at HIj
          by_cases e0 : y0 = s
          case' neg =>
            have HE : Hid (kcN rs s d t i = kcN rs s d t j) := Lib.hid (by rw [HK1.out, if_neg (fun h => e0 h.2.1)])
            have f0 : (y0 == s) = false := beq_eq_false_iff_ne.2 e0
          case' pos =>
            by_cases e1 : y1 = d
            case' neg =>
              have HE : Hid (kcN rs s d t i = kcN rs s d t j) := Lib.hid (by rw [HK1.out, if_neg (fun h => e1 h.2.2.1)])
              have f1 : (y1 == d) = false := beq_eq_false_iff_ne.2 e1
            case' pos =>
              by_cases e2 : y2 = t
              case' neg =>
                have HE : Hid (kcN rs s d t i = kcN rs s d t j) := Lib.hid (by rw [HK1.out, if_neg (fun h => e2 h.2.2.2)])
                have f2 : (y2 == t) = false := beq_eq_false_iff_ne.2 e2
              case' pos =>
                have HE : Hid (kcN rs s d t i = kcN rs s d t j + 1) := Lib.hid (by rw [HK1.out, if_pos ⟨hcb, e0, e1, e2⟩])
                have f0 : (y0 == s) = true := beq_iff_eq.2 e0
                have f1 : (y1 == d) = true := beq_iff_eq.2 e1
                have f2 : (y2 == t) = true := beq_iff_eq.2 e2
        all_goals
          clear hmem hcb HK1
          generalize kcN rs s d t j = kj at *
          go_wp2_with fail
          go_quiet ((go_at_call 30; exact quietT (HIj.out _)))
          go_wp2
          go_roundw
          case rel => exact ⟨i, by have := HJ.out; omega, by have := HJ.out; go_num, by have := HE.out; rw [this]; try go_num, (hKr.trans k7).drewN _⟩
          case measure => have := HJ.out; simp [intOf]; omega
    · obtain rfl : j = rs.length := by omega
      have hC := HCnt.out
      have hLl : L.length ≤ 40 := hle
      rcases hC with ⟨h1, h2⟩ | h1
      · rw [h2]
        have d0 : ((L.length : Int) == 0) = true := beq_iff_eq.2 (by omega)
        have d1 : (L.length = 0) = True := eq_true h1
        clear HMem HCnt HKs HKl
        go_wp2
        go_ret
        exact ⟨rfl, (k1.trans K6).trans hKr⟩
      · have hw : IntKind.i64.wrap ((kcN rs s d t rs.length : Int) + 1) = (L.length : Int) := by rw [show (kcN rs s d t rs.length : Int) + 1 = (L.length : Int) by omega]; exact IntWalk.i64_in _ ⟨by omega, by omega⟩
        have d0 : ((L.length : Int) == 0) = false := beq_eq_false_iff_ne.2 (by omega)
        have d1 : ¬ (L = []) := fun e => by rw [e] at h1; simp at h1
        have LL : ((L.length : Int) == (L.length : Int)) = true := beq_self_eq_true _
        clear HMem HCnt HKs HKl h1
        generalize kcN rs s d t rs.length = kk at *
        go_wp2
        go_ret
        exact ⟨rfl, (k1.trans K6).trans hKr⟩

end Go.Proofs.Ytlaajompcbmdoab
