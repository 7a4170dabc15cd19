/- P150: a history ends with the value. -/
import Derived.Test.YtlaajompcbmdoabDrVe
import Derived.Test.YtlaajompcbmdoabVh1
import Derived.Test.YtlaajompcbmdoabVh2
import Derived.Test.YtlaajompcbmdoabFr
import Derived.LoopTactic
import Derived.IntWalk
import Derived.Deep.QuietTactic
import Derived.BigQuiet
namespace Go.Proofs.Ytlaajompcbmdoab
open Go.RowKit
set_option linter.unusedVariables false

theorem hsL_le (rs : List R4) (s d t : Int) : (hsL rs s d t).length ≤ 40 := by
  cases h : stB rs
  · rw [hsL_no h]; simp
  · rw [hsL_yes h]; exact Nat.le_trans (hsN_len rs s d t _) (stB_facts h).2
set_option maxRecDepth 100000 in
set_option maxHeartbeats 6400000 in
theorem walk_FnHistory (a0 : Option Addr) (len0 cap0 : Nat) (z0 : List Int) (w : World) (w0 : IsRow .u8 w a0 len0 cap0 z0) :
    Calls Try.prog 4 #[.slice a0 len0 cap0] w fun e w' => e = .returned (.bool true) ∧ Below w.heap.size w w' := by
  have ha := code_of_row w0
  obtain ⟨hl0, hm0⟩ := ha.1
  unfold maxLen at hm0
  clear w0
  by_cases h : len0 ≤ 1048576
  case' neg =>
    have hd : decide (1048576 < (len0 : Int)) = true := by simp; omega
    go_enter Try.func4, Try.ntmps4
    go_wp2
    go_ret
    exact ⟨rfl, Below.refl _ _⟩
  have hd : decide (1048576 < (len0 : Int)) = false := by simp; omega
  go_enter Try.func4, Try.ntmps4
  go_wp2_with fail
  refine (drawHistoryOf a0 len0 cap0 _ ha).mono ?_
  rintro e w1 ⟨gg, c, rs, s, d, t, rfl, hl, hcl, hF, k1⟩
  have hL1 := hF.rs
  clear ha hF
  have hle := hsL_le rs s d t
  have HV := Lib.hid (fun v W (k : Keep w1 W) => vof_any _ c rs v s d t W (hL1.keep k) (by omega) hcl)
  have HSV := Lib.hid (fun W (k : Keep w1 W) => sv_spec _ c rs W (hL1.keep k) (by omega))
  go_wp2_with fail
  refine (hs_impl _ c rs s d t _ (hL1.alloc _) (by omega)).mono ?_
  rintro e w2 ⟨p, q, rfl, hF2, k2⟩
  have p0 := k2.cell (b := w1.heap.size) (o := 0) (v := .int .i64 s) (by go_simp)
  have p1 := k2.cell (b := w1.heap.size) (o := 1) (v := .int .i64 d) (by go_simp)
  have p2 := k2.cell (b := w1.heap.size) (o := 2) (v := .int .i64 t) (by go_simp)
  have K2 : Keep w1 w2 := ((Keep.refl w1).alloc _).trans k2
  go_wp2_with fail
  refine (hs_spec _ c rs s d t _ (hL1.keep K2) (by omega) hcl).mono ?_
  rintro e w3 ⟨p3, q3, rfl, hF3, k3⟩
  replace p0 := k3.cell p0
  replace p1 := k3.cell p1
  replace p2 := k3.cell p2
  have K3 : Keep w1 w3 := K2.trans k3
  have hO := hF2.ls.keep k3
  have hW := hF3.ls
  clear hF2 hF3 k2 k3 K2
  rcases Bool.eq_false_or_eq_true (stB rs) with hs | hs
  case' inr =>
    rw [hs] at HSV
    generalize hsL rs s d t = L at *
    clear hs
    go_wp2_with fail
    refine (sI_same p p3 q q3 L _ hO hW (by omega)).mono ?_
    rintro e w4 ⟨rfl, k4⟩
    go_wp2_with fail
    refine (HSV.out _ (K3.trans k4)).mono ?_
    rintro e w5 ⟨rfl, k5⟩
    go_wp2_with fail
    refine (sI_same p p3 q q3 L _ ((hO.keep k4).keep k5) ((hW.keep k4).keep k5) (by omega)).mono ?_
    rintro e w6 ⟨rfl, k6⟩
    go_wp2
    go_ret
    exact ⟨rfl, (((k1.trans K3).trans k4).trans k5).trans k6⟩
  rw [hs] at HSV
  obtain ⟨hall, hl40⟩ := stB_facts hs
  have hvv : svV rs (rs.length : Nat) s d t = vN rs s d t rs.length := svV_yes (by simp [vrB, hs, inB]) s d t
  have HVl := Lib.hid (HV.out (rs.length : Nat))
  rw [hvv] at HVl
  have hLy := hsL_yes hs s d t
  rw [hLy] at hO hW hle ⊢
  have HAdj := Lib.hid (hs_adj hall s d t rs.length (Nat.le_refl _))
  have HNil := Lib.hid (hs_nil hall s d t (Nat.le_refl rs.length))
  have HEnd := Lib.hid (hs_end hall s d t (Nat.le_refl rs.length))
  clear hs hLy hvv hall
  generalize hsN rs s d t rs.length = L at *
  generalize vN rs s d t rs.length = X at *
  clear HV
  go_wp2_with fail
  refine (sI_same p p3 q q3 L _ hO hW (by omega)).mono ?_
  rintro e w4 ⟨rfl, k4⟩
  replace p0 := k4.cell p0
  replace p1 := k4.cell p1
  replace p2 := k4.cell p2
  go_wp2_with fail
  refine (HSV.out _ (K3.trans k4)).mono ?_
  rintro e w5 ⟨rfl, k5⟩
  replace p0 := k5.cell p0
  replace p1 := k5.cell p1
  replace p2 := k5.cell p2
  go_wp2_with fail
  refine (HVl.out _ ((K3.trans k4).trans k5)).mono ?_
  rintro e w6 ⟨rfl, k6⟩
  have hO6 := Lib.hid (((hO.keep k4).keep k5).keep k6)
  have K6 : Keep w w6 := (((k1.trans K3).trans k4).trans k5).trans k6
  clear hO hW K3 k4 k5 k6 HSV HVl p0 p1 p2
  go_wp2_with fail
  go_loopw [8] (fun i wr => ∃ (j q : Nat), j ≤ L.length - 1 ∧ i = .int .i64 ((j : Int) + 1) ∧ wr = w6.drewN q) (fun i _ => L.length + 1 - (intOf i).toNat)
  case atStart => exact ⟨0, 0, by omega, rfl, rfl⟩
  case round =>
    obtain ⟨j, qq, hj, rfl, rfl⟩ := hrel
    by_cases hlt : j + 1 < L.length
    · obtain ⟨b, off, rfl, hb, hc⟩ := hO6.out.all (by omega)
      have c0 := hc j (by omega)
      have c1 := hc (j + 1) hlt
      have hne := HAdj.out (j + 1) (by omega) hlt
      rw [Nat.add_sub_cancel] at hne
      clear hc
      obtain ⟨i, hi⟩ : ∃ i, i = j + 1 := ⟨_, rfl⟩
      rw [← hi] at c1 hne
      have hiI : (j : Int) + 1 = (i : Int) := by omega
      have kw : IntKind.i64.wrap ((i : Int) - 1) = (j : Int) := by rw [show (i : Int) - 1 = (j : Int) by omega]; exact IntWalk.i64_in _ ⟨by omega, by omega⟩
      have i0 : (0 : Int) ≤ (i : Int) := by omega
      have iL : (i : Int) < (L.length : Int) := by omega
      have j0 : (0 : Int) ≤ (j : Int) := by omega
      have jL : (j : Int) < (L.length : Int) := by omega
      rw [hiI]
      have HI2 := Lib.hid hi
      have nn : (L.getD i 0 == L.getD j 0) = false := beq_eq_false_iff_ne.2 hne
      generalize L.getD i 0 = y at *
      generalize L.getD j 0 = z at *
      clear hi hiI hne hlt
      go_wp2_with fail
      go_quiet (fail)
      go_wp2
      go_roundw
      case rel => exact ⟨j + 1, qq + nq, by have := HI2.out; omega, by have := HI2.out; rw [show ((j + 1 : Nat) : Int) = (i : Int) by omega], rfl⟩
      case measure => have := HI2.out; simp [intOf]; omega
    · have hnl : ¬ ((j : Int) + 1 < (L.length : Int)) := by omega
      by_cases h0 : L.length = 0
      · have hX := HNil.out.1 h0
        subst hX
        have d0 : ((L.length : Int) == 0) = true := beq_iff_eq.2 (by omega)
        have d1 : (L.length = 0) = True := eq_true h0
        clear HNil HEnd HAdj
        go_wp2
        go_ret
        exact ⟨rfl, K6.drewN _⟩
      · have d0 : ((L.length : Int) == 0) = false := beq_eq_false_iff_ne.2 (by omega)
        have d1 : ¬ (L = []) := fun e => h0 (by rw [e]; rfl)
        obtain ⟨b, off, rfl, hb, hc⟩ := hO6.out.all (by omega)
        obtain ⟨m, hm⟩ : ∃ m, L.length - 1 = m := ⟨_, rfl⟩
        have cm := hc m (by omega)
        have hE := HEnd.out (by omega)
        rw [hm] at hE
        rw [hE] at cm
        have kw : IntKind.i64.wrap ((L.length : Int) - 1) = (m : Int) := by rw [show (L.length : Int) - 1 = (m : Int) by omega]; exact IntWalk.i64_in _ ⟨by omega, by omega⟩
        have m0 : (0 : Int) ≤ (m : Int) := by omega
        have mL : (m : Int) < (L.length : Int) := by omega
        have XX : (X == X) = true := beq_self_eq_true X
        clear hc hm HNil HEnd HAdj hE
        go_wp2
        go_ret
        exact ⟨rfl, by first | exact K6.drewN _ | exact (K6.drewN _).drewN _⟩

end Go.Proofs.Ytlaajompcbmdoab
