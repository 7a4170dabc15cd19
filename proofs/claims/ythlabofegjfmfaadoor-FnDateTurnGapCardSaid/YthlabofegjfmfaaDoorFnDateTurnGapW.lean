/- P23: the calendars drift apart. -/
import Derived.Test.YthlabofegjfmfaaDoorIu
import Derived.Test.YthlabofegjfmfaaDoorCu
import Derived.Test.YthlabofegjfmfaaDoorDrCc
namespace Go.Proofs.YthlabofegjfmfaaDoor
open Go.RowKit
set_option linter.unusedVariables false

theorem gap_facts {y m d : Int} (h : dv y m d 2 = true) (hy : 1583 ≤ y) :
    -2 ≤ dOut y m d 1 ∧ dOut y m d 1 ≤ 1000000 ∧ ((dv y m d 1 = true ∧ 10 ≤ dn y m d 2 - dOut y m d 1 ∧ dn y m d 2 - dOut y m d 1 ≤ 16 ∧ True) ∨ dv y m d 1 = false) := by
  obtain ⟨hc, y1, y2, m1, m2, d1, d2⟩ := dv_facts h
  rcases Bool.eq_false_or_eq_true (dv y m d 1) with hv | hv
  · have e := dOut_yes hv
    have b := dn_bd hv
    have f := drift (d := d) hy y2 m1
    rw [e]
    exact ⟨b.1, b.2, .inl ⟨hv, by omega, by omega, trivial⟩⟩
  · have e := dOut_no hv
    rw [e]
    exact ⟨by omega, by omega, .inr hv⟩

set_option maxRecDepth 100000 in
set_option maxHeartbeats 3200000 in
theorem walk_FnDateTurnGap (a0 : Option Addr) (len0 cap0 : Nat) (z0 : List Int) (w : World) (w0 : IsRow .u8 w a0 len0 cap0 z0) (T : Tabs w) :
    Calls Tryd.prog 10 #[.slice a0 len0 cap0] w fun e w' => e = .returned (.bool true) ∧ Below w.heap.size w w' := by
  have ha := code_of_row w0
  obtain ⟨hl, hm⟩ := ha.1
  unfold maxLen at hm
  clear w0
  by_cases h : len0 ≤ 1048576
  case' neg =>
    have hd : decide (1048576 < (len0 : Int)) = true := by simp; omega
    go_enter Tryd.func10, Tryd.ntmps10
    go_wp2
    go_ret
    exact ⟨rfl, Below.refl _ _⟩
  have hd : decide (1048576 < (len0 : Int)) = false := by simp; omega
  go_enter Tryd.func10, Tryd.ntmps10
  have HT := Lib.hid T
  clear T
  go_wp2_with fail
  refine (drawDateTurn a0 len0 cap0 _ ha).mono ?_
  rintro e w1 ⟨y, m, d, c, rfl, hy, hm, hd, hc, k1⟩
  have c1 : Keep w w1 := Keep.trans (by repeat' (first | with_reducible assumption | with_reducible exact Keep.refl _ | with_reducible refine Keep.setCell ?_ (by omega) _ | with_reducible refine Keep.drew ?_ | with_reducible refine Keep.drewN ?_ _ | with_reducible refine Keep.alloc ?_ _)) k1
  have z1 : w.heap.size ≤ w1.heap.size := c1.size
  clear hy hm hd hc
  rcases Bool.eq_false_or_eq_true (dv y m d c) with hv | hv
  case' inl => have hcc := cOne_cases (dv_facts hv).1
  case' inl => rcases hcc with rfl | rfl
  case' inl.inl => have hk0 := Bool.eq_false_or_eq_true (dayOk (dn y m d 1) 2)
  case' inl.inr => have hk0 := Bool.eq_false_or_eq_true (dayOk (dn y m d 2) 1)
  case' inl.inl => rcases hk0 with hk | hk
  case' inl.inr => rcases hk0 with hk | hk
  case inl.inl.inl =>
    have HV := Lib.hid hv
    clear hv
    have HK : Hid (dayOk (dn y m d 1) (3 - 1) = true) := Lib.hid hk
    clear hk
    go_wp2_with fail
    refine (turn_impl_yes y m d 1 _ (HT.out.keep (by repeat' (first | with_reducible assumption | with_reducible exact Keep.refl _ | with_reducible refine Keep.setCell ?_ (by omega) _ | with_reducible refine Keep.drew ?_ | with_reducible refine Keep.drewN ?_ _ | with_reducible refine Keep.alloc ?_ _))) HV.out HK.out).mono ?_
    rintro e w2 ⟨y', m', d', rfl, hd1, hd2, k2⟩
    have c2 : Keep w w2 := Keep.trans (by repeat' (first | with_reducible assumption | with_reducible exact Keep.refl _ | with_reducible refine Keep.setCell ?_ (by omega) _ | with_reducible refine Keep.drew ?_ | with_reducible refine Keep.drewN ?_ _ | with_reducible refine Keep.alloc ?_ _)) k2
    have z2 : w.heap.size ≤ w2.heap.size := c2.size
    have x2_0 : w2.cell? ⟨w1.heap.size, 0, none⟩ = some (.int .i64 y) := k2.cell (by first | exact x1_0 | go_simp)
    have x2f0 : w2.frozen? ⟨w1.heap.size, 0, none⟩ = false := k2.still (v := .int .i64 y) (by first | exact x1_0 | go_simp) (by first | exact x1f0 | go_simp)
    have x2_1 : w2.cell? ⟨w1.heap.size, 1, none⟩ = some (.int .i64 m) := k2.cell (by first | exact x1_1 | go_simp)
    have x2f1 : w2.frozen? ⟨w1.heap.size, 1, none⟩ = false := k2.still (v := .int .i64 m) (by first | exact x1_1 | go_simp) (by first | exact x1f1 | go_simp)
    have x2_2 : w2.cell? ⟨w1.heap.size, 2, none⟩ = some (.int .i64 d) := k2.cell (by first | exact x1_2 | go_simp)
    have x2f2 : w2.frozen? ⟨w1.heap.size, 2, none⟩ = false := k2.still (v := .int .i64 d) (by first | exact x1_2 | go_simp) (by first | exact x1f2 | go_simp)
    have xz2 : w1.heap.size < w2.heap.size := World.block_lt_of_cell? w2 _ x2_0
    have HD1 : Hid (dv y' m' d' 2 = true) := Lib.hid hd1
    have HD2 : Hid (dn y' m' d' 2 = dn y m d 1) := Lib.hid hd2
    clear hd1 hd2
    go_wp2_with fail
    refine (turn_spec_yes y m d 1 _ HV.out HK.out).mono ?_
    rintro e w3 ⟨y2', m2', d2', rfl, hd1, hd2, k3⟩
    have c3 : Keep w w3 := Keep.trans (by repeat' (first | with_reducible assumption | with_reducible exact Keep.refl _ | with_reducible refine Keep.setCell ?_ (by omega) _ | with_reducible refine Keep.drew ?_ | with_reducible refine Keep.drewN ?_ _ | with_reducible refine Keep.alloc ?_ _)) k3
    have z3 : w.heap.size ≤ w3.heap.size := c3.size
    have x3_0 : w3.cell? ⟨w1.heap.size, 0, none⟩ = some (.int .i64 y) := k3.cell (by first | exact x2_0 | go_simp)
    have x3f0 : w3.frozen? ⟨w1.heap.size, 0, none⟩ = false := k3.still (v := .int .i64 y) (by first | exact x2_0 | go_simp) (by first | exact x2f0 | go_simp)
    have x3_1 : w3.cell? ⟨w1.heap.size, 1, none⟩ = some (.int .i64 m) := k3.cell (by first | exact x2_1 | go_simp)
    have x3f1 : w3.frozen? ⟨w1.heap.size, 1, none⟩ = false := k3.still (v := .int .i64 m) (by first | exact x2_1 | go_simp) (by first | exact x2f1 | go_simp)
    have x3_2 : w3.cell? ⟨w1.heap.size, 2, none⟩ = some (.int .i64 d) := k3.cell (by first | exact x2_2 | go_simp)
    have x3f2 : w3.frozen? ⟨w1.heap.size, 2, none⟩ = false := k3.still (v := .int .i64 d) (by first | exact x2_2 | go_simp) (by first | exact x2f2 | go_simp)
    have xz3 : w1.heap.size < w3.heap.size := World.block_lt_of_cell? w3 _ x3_0
    have o3_0 : w3.cell? ⟨w2.heap.size, 0, none⟩ = some (.int .i64 y') := k3.cell (by first | exact o2_0 | go_simp)
    have o3f0 : w3.frozen? ⟨w2.heap.size, 0, none⟩ = false := k3.still (v := .int .i64 y') (by first | exact o2_0 | go_simp) (by first | exact o2f0 | go_simp)
    have o3_1 : w3.cell? ⟨w2.heap.size, 1, none⟩ = some (.int .i64 m') := k3.cell (by first | exact o2_1 | go_simp)
    have o3f1 : w3.frozen? ⟨w2.heap.size, 1, none⟩ = false := k3.still (v := .int .i64 m') (by first | exact o2_1 | go_simp) (by first | exact o2f1 | go_simp)
    have o3_2 : w3.cell? ⟨w2.heap.size, 2, none⟩ = some (.int .i64 d') := k3.cell (by first | exact o2_2 | go_simp)
    have o3f2 : w3.frozen? ⟨w2.heap.size, 2, none⟩ = false := k3.still (v := .int .i64 d') (by first | exact o2_2 | go_simp) (by first | exact o2f2 | go_simp)
    have oz3 : w2.heap.size < w3.heap.size := World.block_lt_of_cell? w3 _ o3_0
    obtain ⟨e0, e1, e2⟩ := dn_inj hd1 HD1.out (hd2.trans HD2.out.symm)
    clear hd1 hd2
    subst e0 e1 e2
    go_wp2
    go_ret
    exact ⟨rfl, show Keep w _ from (by repeat' (first | with_reducible assumption | with_reducible exact Keep.refl _ | with_reducible refine Keep.setCell ?_ (by omega) _ | with_reducible refine Keep.drew ?_ | with_reducible refine Keep.drewN ?_ _ | with_reducible refine Keep.alloc ?_ _))⟩
  case inl.inl.inr =>
    have HV := Lib.hid hv
    clear hv
    have HK : Hid (dayOk (dn y m d 1) (3 - 1) = false) := Lib.hid hk
    clear hk
    go_wp2_with fail
    refine (turn_impl_no y m d 1 _ (HT.out.keep (by repeat' (first | with_reducible assumption | with_reducible exact Keep.refl _ | with_reducible refine Keep.setCell ?_ (by omega) _ | with_reducible refine Keep.drew ?_ | with_reducible refine Keep.drewN ?_ _ | with_reducible refine Keep.alloc ?_ _))) HV.out HK.out).mono ?_
    rintro e w2 ⟨rfl, k2⟩
    have c2 : Keep w w2 := Keep.trans (by repeat' (first | with_reducible assumption | with_reducible exact Keep.refl _ | with_reducible refine Keep.setCell ?_ (by omega) _ | with_reducible refine Keep.drew ?_ | with_reducible refine Keep.drewN ?_ _ | with_reducible refine Keep.alloc ?_ _)) k2
    have z2 : w.heap.size ≤ w2.heap.size := c2.size
    have x2_0 : w2.cell? ⟨w1.heap.size, 0, none⟩ = some (.int .i64 y) := k2.cell (by first | exact x1_0 | go_simp)
    have x2f0 : w2.frozen? ⟨w1.heap.size, 0, none⟩ = false := k2.still (v := .int .i64 y) (by first | exact x1_0 | go_simp) (by first | exact x1f0 | go_simp)
    have x2_1 : w2.cell? ⟨w1.heap.size, 1, none⟩ = some (.int .i64 m) := k2.cell (by first | exact x1_1 | go_simp)
    have x2f1 : w2.frozen? ⟨w1.heap.size, 1, none⟩ = false := k2.still (v := .int .i64 m) (by first | exact x1_1 | go_simp) (by first | exact x1f1 | go_simp)
    have x2_2 : w2.cell? ⟨w1.heap.size, 2, none⟩ = some (.int .i64 d) := k2.cell (by first | exact x1_2 | go_simp)
    have x2f2 : w2.frozen? ⟨w1.heap.size, 2, none⟩ = false := k2.still (v := .int .i64 d) (by first | exact x1_2 | go_simp) (by first | exact x1f2 | go_simp)
    have xz2 : w1.heap.size < w2.heap.size := World.block_lt_of_cell? w2 _ x2_0
    go_wp2_with fail
    refine (turn_spec_no y m d 1 _ HV.out HK.out).mono ?_
    rintro e w3 ⟨rfl, k3⟩
    have c3 : Keep w w3 := Keep.trans (by repeat' (first | with_reducible assumption | with_reducible exact Keep.refl _ | with_reducible refine Keep.setCell ?_ (by omega) _ | with_reducible refine Keep.drew ?_ | with_reducible refine Keep.drewN ?_ _ | with_reducible refine Keep.alloc ?_ _)) k3
    have z3 : w.heap.size ≤ w3.heap.size := c3.size
    have x3_0 : w3.cell? ⟨w1.heap.size, 0, none⟩ = some (.int .i64 y) := k3.cell (by first | exact x2_0 | go_simp)
    have x3f0 : w3.frozen? ⟨w1.heap.size, 0, none⟩ = false := k3.still (v := .int .i64 y) (by first | exact x2_0 | go_simp) (by first | exact x2f0 | go_simp)
    have x3_1 : w3.cell? ⟨w1.heap.size, 1, none⟩ = some (.int .i64 m) := k3.cell (by first | exact x2_1 | go_simp)
    have x3f1 : w3.frozen? ⟨w1.heap.size, 1, none⟩ = false := k3.still (v := .int .i64 m) (by first | exact x2_1 | go_simp) (by first | exact x2f1 | go_simp)
    have x3_2 : w3.cell? ⟨w1.heap.size, 2, none⟩ = some (.int .i64 d) := k3.cell (by first | exact x2_2 | go_simp)
    have x3f2 : w3.frozen? ⟨w1.heap.size, 2, none⟩ = false := k3.still (v := .int .i64 d) (by first | exact x2_2 | go_simp) (by first | exact x2f2 | go_simp)
    have xz3 : w1.heap.size < w3.heap.size := World.block_lt_of_cell? w3 _ x3_0
    have o3_0 : w3.cell? ⟨w2.heap.size, 0, none⟩ = some (.int .i64 0) := k3.cell (by first | exact o2_0 | go_simp)
    have o3f0 : w3.frozen? ⟨w2.heap.size, 0, none⟩ = false := k3.still (v := .int .i64 0) (by first | exact o2_0 | go_simp) (by first | exact o2f0 | go_simp)
    have o3_1 : w3.cell? ⟨w2.heap.size, 1, none⟩ = some (.int .i64 0) := k3.cell (by first | exact o2_1 | go_simp)
    have o3f1 : w3.frozen? ⟨w2.heap.size, 1, none⟩ = false := k3.still (v := .int .i64 0) (by first | exact o2_1 | go_simp) (by first | exact o2f1 | go_simp)
    have o3_2 : w3.cell? ⟨w2.heap.size, 2, none⟩ = some (.int .i64 0) := k3.cell (by first | exact o2_2 | go_simp)
    have o3f2 : w3.frozen? ⟨w2.heap.size, 2, none⟩ = false := k3.still (v := .int .i64 0) (by first | exact o2_2 | go_simp) (by first | exact o2f2 | go_simp)
    have oz3 : w2.heap.size < w3.heap.size := World.block_lt_of_cell? w3 _ o3_0
    go_wp2
    go_ret
    exact ⟨rfl, show Keep w _ from (by repeat' (first | with_reducible assumption | with_reducible exact Keep.refl _ | with_reducible refine Keep.setCell ?_ (by omega) _ | with_reducible refine Keep.drew ?_ | with_reducible refine Keep.drewN ?_ _ | with_reducible refine Keep.alloc ?_ _))⟩
  case inl.inr.inl =>
    have HV := Lib.hid hv
    clear hv
    have HK : Hid (dayOk (dn y m d 2) (3 - 2) = true) := Lib.hid hk
    clear hk
    go_wp2_with fail
    refine (turn_impl_yes y m d 2 _ (HT.out.keep (by repeat' (first | with_reducible assumption | with_reducible exact Keep.refl _ | with_reducible refine Keep.setCell ?_ (by omega) _ | with_reducible refine Keep.drew ?_ | with_reducible refine Keep.drewN ?_ _ | with_reducible refine Keep.alloc ?_ _))) HV.out HK.out).mono ?_
    rintro e w2 ⟨y', m', d', rfl, hd1, hd2, k2⟩
    have c2 : Keep w w2 := Keep.trans (by repeat' (first | with_reducible assumption | with_reducible exact Keep.refl _ | with_reducible refine Keep.setCell ?_ (by omega) _ | with_reducible refine Keep.drew ?_ | with_reducible refine Keep.drewN ?_ _ | with_reducible refine Keep.alloc ?_ _)) k2
    have z2 : w.heap.size ≤ w2.heap.size := c2.size
    have x2_0 : w2.cell? ⟨w1.heap.size, 0, none⟩ = some (.int .i64 y) := k2.cell (by first | exact x1_0 | go_simp)
    have x2f0 : w2.frozen? ⟨w1.heap.size, 0, none⟩ = false := k2.still (v := .int .i64 y) (by first | exact x1_0 | go_simp) (by first | exact x1f0 | go_simp)
    have x2_1 : w2.cell? ⟨w1.heap.size, 1, none⟩ = some (.int .i64 m) := k2.cell (by first | exact x1_1 | go_simp)
    have x2f1 : w2.frozen? ⟨w1.heap.size, 1, none⟩ = false := k2.still (v := .int .i64 m) (by first | exact x1_1 | go_simp) (by first | exact x1f1 | go_simp)
    have x2_2 : w2.cell? ⟨w1.heap.size, 2, none⟩ = some (.int .i64 d) := k2.cell (by first | exact x1_2 | go_simp)
    have x2f2 : w2.frozen? ⟨w1.heap.size, 2, none⟩ = false := k2.still (v := .int .i64 d) (by first | exact x1_2 | go_simp) (by first | exact x1f2 | go_simp)
    have xz2 : w1.heap.size < w2.heap.size := World.block_lt_of_cell? w2 _ x2_0
    have HD1 : Hid (dv y' m' d' 1 = true) := Lib.hid hd1
    have HD2 : Hid (dn y' m' d' 1 = dn y m d 2) := Lib.hid hd2
    clear hd1 hd2
    go_wp2_with fail
    refine (turn_spec_yes y m d 2 _ HV.out HK.out).mono ?_
    rintro e w3 ⟨y2', m2', d2', rfl, hd1, hd2, k3⟩
    have c3 : Keep w w3 := Keep.trans (by repeat' (first | with_reducible assumption | with_reducible exact Keep.refl _ | with_reducible refine Keep.setCell ?_ (by omega) _ | with_reducible refine Keep.drew ?_ | with_reducible refine Keep.drewN ?_ _ | with_reducible refine Keep.alloc ?_ _)) k3
    have z3 : w.heap.size ≤ w3.heap.size := c3.size
    have x3_0 : w3.cell? ⟨w1.heap.size, 0, none⟩ = some (.int .i64 y) := k3.cell (by first | exact x2_0 | go_simp)
    have x3f0 : w3.frozen? ⟨w1.heap.size, 0, none⟩ = false := k3.still (v := .int .i64 y) (by first | exact x2_0 | go_simp) (by first | exact x2f0 | go_simp)
    have x3_1 : w3.cell? ⟨w1.heap.size, 1, none⟩ = some (.int .i64 m) := k3.cell (by first | exact x2_1 | go_simp)
    have x3f1 : w3.frozen? ⟨w1.heap.size, 1, none⟩ = false := k3.still (v := .int .i64 m) (by first | exact x2_1 | go_simp) (by first | exact x2f1 | go_simp)
    have x3_2 : w3.cell? ⟨w1.heap.size, 2, none⟩ = some (.int .i64 d) := k3.cell (by first | exact x2_2 | go_simp)
    have x3f2 : w3.frozen? ⟨w1.heap.size, 2, none⟩ = false := k3.still (v := .int .i64 d) (by first | exact x2_2 | go_simp) (by first | exact x2f2 | go_simp)
    have xz3 : w1.heap.size < w3.heap.size := World.block_lt_of_cell? w3 _ x3_0
    have o3_0 : w3.cell? ⟨w2.heap.size, 0, none⟩ = some (.int .i64 y') := k3.cell (by first | exact o2_0 | go_simp)
    have o3f0 : w3.frozen? ⟨w2.heap.size, 0, none⟩ = false := k3.still (v := .int .i64 y') (by first | exact o2_0 | go_simp) (by first | exact o2f0 | go_simp)
    have o3_1 : w3.cell? ⟨w2.heap.size, 1, none⟩ = some (.int .i64 m') := k3.cell (by first | exact o2_1 | go_simp)
    have o3f1 : w3.frozen? ⟨w2.heap.size, 1, none⟩ = false := k3.still (v := .int .i64 m') (by first | exact o2_1 | go_simp) (by first | exact o2f1 | go_simp)
    have o3_2 : w3.cell? ⟨w2.heap.size, 2, none⟩ = some (.int .i64 d') := k3.cell (by first | exact o2_2 | go_simp)
    have o3f2 : w3.frozen? ⟨w2.heap.size, 2, none⟩ = false := k3.still (v := .int .i64 d') (by first | exact o2_2 | go_simp) (by first | exact o2f2 | go_simp)
    have oz3 : w2.heap.size < w3.heap.size := World.block_lt_of_cell? w3 _ o3_0
    obtain ⟨e0, e1, e2⟩ := dn_inj hd1 HD1.out (hd2.trans HD2.out.symm)
    clear hd1 hd2
    subst e0 e1 e2
    by_cases hyy : y < 1583
    case pos =>
      have hyd : decide (y < 1583) = true := decide_eq_true hyy
      go_wp2
      go_ret
      exact ⟨rfl, show Keep w _ from (by repeat' (first | with_reducible assumption | with_reducible exact Keep.refl _ | with_reducible refine Keep.setCell ?_ (by omega) _ | with_reducible refine Keep.drew ?_ | with_reducible refine Keep.drewN ?_ _ | with_reducible refine Keep.alloc ?_ _))⟩
    case neg =>
      have hyd : decide (y < 1583) = false := decide_eq_false hyy
      have E2 : dOut y2' m2' d2' 1 = dn y m d 2 := (dOut_yes HD1.out).trans HD2.out
      have HDD := HD1.out
      obtain ⟨n1, n2⟩ := dn_bd HV.out
      obtain ⟨g1, g2, g3⟩ := gap_facts HV.out (by omega)
      generalize dn y m d 2 = n at *
      rcases g3 with ⟨f1, f2, f3, f4⟩ | f1
      case inl =>
        go_wp2_with fail
        refine (dayof_impl y m d 1 _ (HT.out.keep (by repeat' (first | with_reducible assumption | with_reducible exact Keep.refl _ | with_reducible refine Keep.setCell ?_ (by omega) _ | with_reducible refine Keep.drew ?_ | with_reducible refine Keep.drewN ?_ _ | with_reducible refine Keep.alloc ?_ _)))).mono ?_
        rintro e w4 ⟨rfl, k4⟩
        have c4 : Keep w w4 := Keep.trans (by repeat' (first | with_reducible assumption | with_reducible exact Keep.refl _ | with_reducible refine Keep.setCell ?_ (by omega) _ | with_reducible refine Keep.drew ?_ | with_reducible refine Keep.drewN ?_ _ | with_reducible refine Keep.alloc ?_ _)) k4
        have z4 : w.heap.size ≤ w4.heap.size := c4.size
        have x4_0 : w4.cell? ⟨w1.heap.size, 0, none⟩ = some (.int .i64 y) := k4.cell (by first | exact x3_0 | go_simp)
        have x4f0 : w4.frozen? ⟨w1.heap.size, 0, none⟩ = false := k4.still (v := .int .i64 y) (by first | exact x3_0 | go_simp) (by first | exact x3f0 | go_simp)
        have x4_1 : w4.cell? ⟨w1.heap.size, 1, none⟩ = some (.int .i64 m) := k4.cell (by first | exact x3_1 | go_simp)
        have x4f1 : w4.frozen? ⟨w1.heap.size, 1, none⟩ = false := k4.still (v := .int .i64 m) (by first | exact x3_1 | go_simp) (by first | exact x3f1 | go_simp)
        have x4_2 : w4.cell? ⟨w1.heap.size, 2, none⟩ = some (.int .i64 d) := k4.cell (by first | exact x3_2 | go_simp)
        have x4f2 : w4.frozen? ⟨w1.heap.size, 2, none⟩ = false := k4.still (v := .int .i64 d) (by first | exact x3_2 | go_simp) (by first | exact x3f2 | go_simp)
        have xz4 : w1.heap.size < w4.heap.size := World.block_lt_of_cell? w4 _ x4_0
        have o4_0 : w4.cell? ⟨w2.heap.size, 0, none⟩ = some (.int .i64 y2') := k4.cell (by first | exact o3_0 | go_simp)
        have o4f0 : w4.frozen? ⟨w2.heap.size, 0, none⟩ = false := k4.still (v := .int .i64 y2') (by first | exact o3_0 | go_simp) (by first | exact o3f0 | go_simp)
        have o4_1 : w4.cell? ⟨w2.heap.size, 1, none⟩ = some (.int .i64 m2') := k4.cell (by first | exact o3_1 | go_simp)
        have o4f1 : w4.frozen? ⟨w2.heap.size, 1, none⟩ = false := k4.still (v := .int .i64 m2') (by first | exact o3_1 | go_simp) (by first | exact o3f1 | go_simp)
        have o4_2 : w4.cell? ⟨w2.heap.size, 2, none⟩ = some (.int .i64 d2') := k4.cell (by first | exact o3_2 | go_simp)
        have o4f2 : w4.frozen? ⟨w2.heap.size, 2, none⟩ = false := k4.still (v := .int .i64 d2') (by first | exact o3_2 | go_simp) (by first | exact o3f2 | go_simp)
        have oz4 : w2.heap.size < w4.heap.size := World.block_lt_of_cell? w4 _ o4_0
        go_wp2_with fail
        refine (dayof_impl y2' m2' d2' 1 _ (HT.out.keep (by repeat' (first | with_reducible assumption | with_reducible exact Keep.refl _ | with_reducible refine Keep.setCell ?_ (by omega) _ | with_reducible refine Keep.drew ?_ | with_reducible refine Keep.drewN ?_ _ | with_reducible refine Keep.alloc ?_ _)))).mono ?_
        rintro e w5 ⟨rfl, k5⟩
        have c5 : Keep w w5 := Keep.trans (by repeat' (first | with_reducible assumption | with_reducible exact Keep.refl _ | with_reducible refine Keep.setCell ?_ (by omega) _ | with_reducible refine Keep.drew ?_ | with_reducible refine Keep.drewN ?_ _ | with_reducible refine Keep.alloc ?_ _)) k5
        have z5 : w.heap.size ≤ w5.heap.size := c5.size
        have o5_0 : w5.cell? ⟨w2.heap.size, 0, none⟩ = some (.int .i64 y2') := k5.cell (by first | exact o4_0 | go_simp)
        have o5f0 : w5.frozen? ⟨w2.heap.size, 0, none⟩ = false := k5.still (v := .int .i64 y2') (by first | exact o4_0 | go_simp) (by first | exact o4f0 | go_simp)
        have o5_1 : w5.cell? ⟨w2.heap.size, 1, none⟩ = some (.int .i64 m2') := k5.cell (by first | exact o4_1 | go_simp)
        have o5f1 : w5.frozen? ⟨w2.heap.size, 1, none⟩ = false := k5.still (v := .int .i64 m2') (by first | exact o4_1 | go_simp) (by first | exact o4f1 | go_simp)
        have o5_2 : w5.cell? ⟨w2.heap.size, 2, none⟩ = some (.int .i64 d2') := k5.cell (by first | exact o4_2 | go_simp)
        have o5f2 : w5.frozen? ⟨w2.heap.size, 2, none⟩ = false := k5.still (v := .int .i64 d2') (by first | exact o4_2 | go_simp) (by first | exact o4f2 | go_simp)
        have oz5 : w2.heap.size < w5.heap.size := World.block_lt_of_cell? w5 _ o5_0
        go_wp2
        all_goals
          first | (go_ret; exact ⟨rfl, show Keep w _ from (by repeat' (first | with_reducible assumption | with_reducible exact Keep.refl _ | with_reducible refine Keep.setCell ?_ (by omega) _ | with_reducible refine Keep.drew ?_ | with_reducible refine Keep.drewN ?_ _ | with_reducible refine Keep.alloc ?_ _))⟩) | go_outline
      case inr =>
        go_wp2_with fail
        refine (dayof_impl y m d 1 _ (HT.out.keep (by repeat' (first | with_reducible assumption | with_reducible exact Keep.refl _ | with_reducible refine Keep.setCell ?_ (by omega) _ | with_reducible refine Keep.drew ?_ | with_reducible refine Keep.drewN ?_ _ | with_reducible refine Keep.alloc ?_ _)))).mono ?_
        rintro e w4 ⟨rfl, k4⟩
        have c4 : Keep w w4 := Keep.trans (by repeat' (first | with_reducible assumption | with_reducible exact Keep.refl _ | with_reducible refine Keep.setCell ?_ (by omega) _ | with_reducible refine Keep.drew ?_ | with_reducible refine Keep.drewN ?_ _ | with_reducible refine Keep.alloc ?_ _)) k4
        have z4 : w.heap.size ≤ w4.heap.size := c4.size
        have x4_0 : w4.cell? ⟨w1.heap.size, 0, none⟩ = some (.int .i64 y) := k4.cell (by first | exact x3_0 | go_simp)
        have x4f0 : w4.frozen? ⟨w1.heap.size, 0, none⟩ = false := k4.still (v := .int .i64 y) (by first | exact x3_0 | go_simp) (by first | exact x3f0 | go_simp)
        have x4_1 : w4.cell? ⟨w1.heap.size, 1, none⟩ = some (.int .i64 m) := k4.cell (by first | exact x3_1 | go_simp)
        have x4f1 : w4.frozen? ⟨w1.heap.size, 1, none⟩ = false := k4.still (v := .int .i64 m) (by first | exact x3_1 | go_simp) (by first | exact x3f1 | go_simp)
        have x4_2 : w4.cell? ⟨w1.heap.size, 2, none⟩ = some (.int .i64 d) := k4.cell (by first | exact x3_2 | go_simp)
        have x4f2 : w4.frozen? ⟨w1.heap.size, 2, none⟩ = false := k4.still (v := .int .i64 d) (by first | exact x3_2 | go_simp) (by first | exact x3f2 | go_simp)
        have xz4 : w1.heap.size < w4.heap.size := World.block_lt_of_cell? w4 _ x4_0
        have o4_0 : w4.cell? ⟨w2.heap.size, 0, none⟩ = some (.int .i64 y2') := k4.cell (by first | exact o3_0 | go_simp)
        have o4f0 : w4.frozen? ⟨w2.heap.size, 0, none⟩ = false := k4.still (v := .int .i64 y2') (by first | exact o3_0 | go_simp) (by first | exact o3f0 | go_simp)
        have o4_1 : w4.cell? ⟨w2.heap.size, 1, none⟩ = some (.int .i64 m2') := k4.cell (by first | exact o3_1 | go_simp)
        have o4f1 : w4.frozen? ⟨w2.heap.size, 1, none⟩ = false := k4.still (v := .int .i64 m2') (by first | exact o3_1 | go_simp) (by first | exact o3f1 | go_simp)
        have o4_2 : w4.cell? ⟨w2.heap.size, 2, none⟩ = some (.int .i64 d2') := k4.cell (by first | exact o3_2 | go_simp)
        have o4f2 : w4.frozen? ⟨w2.heap.size, 2, none⟩ = false := k4.still (v := .int .i64 d2') (by first | exact o3_2 | go_simp) (by first | exact o3f2 | go_simp)
        have oz4 : w2.heap.size < w4.heap.size := World.block_lt_of_cell? w4 _ o4_0
        go_wp2_with fail
        refine (dayof_impl y2' m2' d2' 1 _ (HT.out.keep (by repeat' (first | with_reducible assumption | with_reducible exact Keep.refl _ | with_reducible refine Keep.setCell ?_ (by omega) _ | with_reducible refine Keep.drew ?_ | with_reducible refine Keep.drewN ?_ _ | with_reducible refine Keep.alloc ?_ _)))).mono ?_
        rintro e w5 ⟨rfl, k5⟩
        have c5 : Keep w w5 := Keep.trans (by repeat' (first | with_reducible assumption | with_reducible exact Keep.refl _ | with_reducible refine Keep.setCell ?_ (by omega) _ | with_reducible refine Keep.drew ?_ | with_reducible refine Keep.drewN ?_ _ | with_reducible refine Keep.alloc ?_ _)) k5
        have z5 : w.heap.size ≤ w5.heap.size := c5.size
        have o5_0 : w5.cell? ⟨w2.heap.size, 0, none⟩ = some (.int .i64 y2') := k5.cell (by first | exact o4_0 | go_simp)
        have o5f0 : w5.frozen? ⟨w2.heap.size, 0, none⟩ = false := k5.still (v := .int .i64 y2') (by first | exact o4_0 | go_simp) (by first | exact o4f0 | go_simp)
        have o5_1 : w5.cell? ⟨w2.heap.size, 1, none⟩ = some (.int .i64 m2') := k5.cell (by first | exact o4_1 | go_simp)
        have o5f1 : w5.frozen? ⟨w2.heap.size, 1, none⟩ = false := k5.still (v := .int .i64 m2') (by first | exact o4_1 | go_simp) (by first | exact o4f1 | go_simp)
        have o5_2 : w5.cell? ⟨w2.heap.size, 2, none⟩ = some (.int .i64 d2') := k5.cell (by first | exact o4_2 | go_simp)
        have o5f2 : w5.frozen? ⟨w2.heap.size, 2, none⟩ = false := k5.still (v := .int .i64 d2') (by first | exact o4_2 | go_simp) (by first | exact o4f2 | go_simp)
        have oz5 : w2.heap.size < w5.heap.size := World.block_lt_of_cell? w5 _ o5_0
        go_wp2
        all_goals
          first | (go_ret; exact ⟨rfl, show Keep w _ from (by repeat' (first | with_reducible assumption | with_reducible exact Keep.refl _ | with_reducible refine Keep.setCell ?_ (by omega) _ | with_reducible refine Keep.drew ?_ | with_reducible refine Keep.drewN ?_ _ | with_reducible refine Keep.alloc ?_ _))⟩) | go_outline
  case inl.inr.inr =>
    have HV := Lib.hid hv
    clear hv
    have HK : Hid (dayOk (dn y m d 2) (3 - 2) = false) := Lib.hid hk
    clear hk
    go_wp2_with fail
    refine (turn_impl_no y m d 2 _ (HT.out.keep (by repeat' (first | with_reducible assumption | with_reducible exact Keep.refl _ | with_reducible refine Keep.setCell ?_ (by omega) _ | with_reducible refine Keep.drew ?_ | with_reducible refine Keep.drewN ?_ _ | with_reducible refine Keep.alloc ?_ _))) HV.out HK.out).mono ?_
    rintro e w2 ⟨rfl, k2⟩
    have c2 : Keep w w2 := Keep.trans (by repeat' (first | with_reducible assumption | with_reducible exact Keep.refl _ | with_reducible refine Keep.setCell ?_ (by omega) _ | with_reducible refine Keep.drew ?_ | with_reducible refine Keep.drewN ?_ _ | with_reducible refine Keep.alloc ?_ _)) k2
    have z2 : w.heap.size ≤ w2.heap.size := c2.size
    have x2_0 : w2.cell? ⟨w1.heap.size, 0, none⟩ = some (.int .i64 y) := k2.cell (by first | exact x1_0 | go_simp)
    have x2f0 : w2.frozen? ⟨w1.heap.size, 0, none⟩ = false := k2.still (v := .int .i64 y) (by first | exact x1_0 | go_simp) (by first | exact x1f0 | go_simp)
    have x2_1 : w2.cell? ⟨w1.heap.size, 1, none⟩ = some (.int .i64 m) := k2.cell (by first | exact x1_1 | go_simp)
    have x2f1 : w2.frozen? ⟨w1.heap.size, 1, none⟩ = false := k2.still (v := .int .i64 m) (by first | exact x1_1 | go_simp) (by first | exact x1f1 | go_simp)
    have x2_2 : w2.cell? ⟨w1.heap.size, 2, none⟩ = some (.int .i64 d) := k2.cell (by first | exact x1_2 | go_simp)
    have x2f2 : w2.frozen? ⟨w1.heap.size, 2, none⟩ = false := k2.still (v := .int .i64 d) (by first | exact x1_2 | go_simp) (by first | exact x1f2 | go_simp)
    have xz2 : w1.heap.size < w2.heap.size := World.block_lt_of_cell? w2 _ x2_0
    go_wp2_with fail
    refine (turn_spec_no y m d 2 _ HV.out HK.out).mono ?_
    rintro e w3 ⟨rfl, k3⟩
    have c3 : Keep w w3 := Keep.trans (by repeat' (first | with_reducible assumption | with_reducible exact Keep.refl _ | with_reducible refine Keep.setCell ?_ (by omega) _ | with_reducible refine Keep.drew ?_ | with_reducible refine Keep.drewN ?_ _ | with_reducible refine Keep.alloc ?_ _)) k3
    have z3 : w.heap.size ≤ w3.heap.size := c3.size
    have x3_0 : w3.cell? ⟨w1.heap.size, 0, none⟩ = some (.int .i64 y) := k3.cell (by first | exact x2_0 | go_simp)
    have x3f0 : w3.frozen? ⟨w1.heap.size, 0, none⟩ = false := k3.still (v := .int .i64 y) (by first | exact x2_0 | go_simp) (by first | exact x2f0 | go_simp)
    have x3_1 : w3.cell? ⟨w1.heap.size, 1, none⟩ = some (.int .i64 m) := k3.cell (by first | exact x2_1 | go_simp)
    have x3f1 : w3.frozen? ⟨w1.heap.size, 1, none⟩ = false := k3.still (v := .int .i64 m) (by first | exact x2_1 | go_simp) (by first | exact x2f1 | go_simp)
    have x3_2 : w3.cell? ⟨w1.heap.size, 2, none⟩ = some (.int .i64 d) := k3.cell (by first | exact x2_2 | go_simp)
    have x3f2 : w3.frozen? ⟨w1.heap.size, 2, none⟩ = false := k3.still (v := .int .i64 d) (by first | exact x2_2 | go_simp) (by first | exact x2f2 | go_simp)
    have xz3 : w1.heap.size < w3.heap.size := World.block_lt_of_cell? w3 _ x3_0
    have o3_0 : w3.cell? ⟨w2.heap.size, 0, none⟩ = some (.int .i64 0) := k3.cell (by first | exact o2_0 | go_simp)
    have o3f0 : w3.frozen? ⟨w2.heap.size, 0, none⟩ = false := k3.still (v := .int .i64 0) (by first | exact o2_0 | go_simp) (by first | exact o2f0 | go_simp)
    have o3_1 : w3.cell? ⟨w2.heap.size, 1, none⟩ = some (.int .i64 0) := k3.cell (by first | exact o2_1 | go_simp)
    have o3f1 : w3.frozen? ⟨w2.heap.size, 1, none⟩ = false := k3.still (v := .int .i64 0) (by first | exact o2_1 | go_simp) (by first | exact o2f1 | go_simp)
    have o3_2 : w3.cell? ⟨w2.heap.size, 2, none⟩ = some (.int .i64 0) := k3.cell (by first | exact o2_2 | go_simp)
    have o3f2 : w3.frozen? ⟨w2.heap.size, 2, none⟩ = false := k3.still (v := .int .i64 0) (by first | exact o2_2 | go_simp) (by first | exact o2f2 | go_simp)
    have oz3 : w2.heap.size < w3.heap.size := World.block_lt_of_cell? w3 _ o3_0
    go_wp2
    go_ret
    exact ⟨rfl, show Keep w _ from (by repeat' (first | with_reducible assumption | with_reducible exact Keep.refl _ | with_reducible refine Keep.setCell ?_ (by omega) _ | with_reducible refine Keep.drew ?_ | with_reducible refine Keep.drewN ?_ _ | with_reducible refine Keep.alloc ?_ _))⟩
  case inr =>
    have HV := Lib.hid hv
    clear hv
    go_wp2_with fail
    refine (turn_impl_bad y m d c _ (HT.out.keep (by repeat' (first | with_reducible assumption | with_reducible exact Keep.refl _ | with_reducible refine Keep.setCell ?_ (by omega) _ | with_reducible refine Keep.drew ?_ | with_reducible refine Keep.drewN ?_ _ | with_reducible refine Keep.alloc ?_ _))) HV.out).mono ?_
    rintro e w2 ⟨rfl, k2⟩
    have c2 : Keep w w2 := Keep.trans (by repeat' (first | with_reducible assumption | with_reducible exact Keep.refl _ | with_reducible refine Keep.setCell ?_ (by omega) _ | with_reducible refine Keep.drew ?_ | with_reducible refine Keep.drewN ?_ _ | with_reducible refine Keep.alloc ?_ _)) k2
    have z2 : w.heap.size ≤ w2.heap.size := c2.size
    have x2_0 : w2.cell? ⟨w1.heap.size, 0, none⟩ = some (.int .i64 y) := k2.cell (by first | exact x1_0 | go_simp)
    have x2f0 : w2.frozen? ⟨w1.heap.size, 0, none⟩ = false := k2.still (v := .int .i64 y) (by first | exact x1_0 | go_simp) (by first | exact x1f0 | go_simp)
    have x2_1 : w2.cell? ⟨w1.heap.size, 1, none⟩ = some (.int .i64 m) := k2.cell (by first | exact x1_1 | go_simp)
    have x2f1 : w2.frozen? ⟨w1.heap.size, 1, none⟩ = false := k2.still (v := .int .i64 m) (by first | exact x1_1 | go_simp) (by first | exact x1f1 | go_simp)
    have x2_2 : w2.cell? ⟨w1.heap.size, 2, none⟩ = some (.int .i64 d) := k2.cell (by first | exact x1_2 | go_simp)
    have x2f2 : w2.frozen? ⟨w1.heap.size, 2, none⟩ = false := k2.still (v := .int .i64 d) (by first | exact x1_2 | go_simp) (by first | exact x1f2 | go_simp)
    have xz2 : w1.heap.size < w2.heap.size := World.block_lt_of_cell? w2 _ x2_0
    go_wp2_with fail
    refine (turn_spec_bad y m d c _ HV.out).mono ?_
    rintro e w3 ⟨rfl, k3⟩
    have c3 : Keep w w3 := Keep.trans (by repeat' (first | with_reducible assumption | with_reducible exact Keep.refl _ | with_reducible refine Keep.setCell ?_ (by omega) _ | with_reducible refine Keep.drew ?_ | with_reducible refine Keep.drewN ?_ _ | with_reducible refine Keep.alloc ?_ _)) k3
    have z3 : w.heap.size ≤ w3.heap.size := c3.size
    have x3_0 : w3.cell? ⟨w1.heap.size, 0, none⟩ = some (.int .i64 y) := k3.cell (by first | exact x2_0 | go_simp)
    have x3f0 : w3.frozen? ⟨w1.heap.size, 0, none⟩ = false := k3.still (v := .int .i64 y) (by first | exact x2_0 | go_simp) (by first | exact x2f0 | go_simp)
    have x3_1 : w3.cell? ⟨w1.heap.size, 1, none⟩ = some (.int .i64 m) := k3.cell (by first | exact x2_1 | go_simp)
    have x3f1 : w3.frozen? ⟨w1.heap.size, 1, none⟩ = false := k3.still (v := .int .i64 m) (by first | exact x2_1 | go_simp) (by first | exact x2f1 | go_simp)
    have x3_2 : w3.cell? ⟨w1.heap.size, 2, none⟩ = some (.int .i64 d) := k3.cell (by first | exact x2_2 | go_simp)
    have x3f2 : w3.frozen? ⟨w1.heap.size, 2, none⟩ = false := k3.still (v := .int .i64 d) (by first | exact x2_2 | go_simp) (by first | exact x2f2 | go_simp)
    have xz3 : w1.heap.size < w3.heap.size := World.block_lt_of_cell? w3 _ x3_0
    have o3_0 : w3.cell? ⟨w2.heap.size, 0, none⟩ = some (.int .i64 0) := k3.cell (by first | exact o2_0 | go_simp)
    have o3f0 : w3.frozen? ⟨w2.heap.size, 0, none⟩ = false := k3.still (v := .int .i64 0) (by first | exact o2_0 | go_simp) (by first | exact o2f0 | go_simp)
    have o3_1 : w3.cell? ⟨w2.heap.size, 1, none⟩ = some (.int .i64 0) := k3.cell (by first | exact o2_1 | go_simp)
    have o3f1 : w3.frozen? ⟨w2.heap.size, 1, none⟩ = false := k3.still (v := .int .i64 0) (by first | exact o2_1 | go_simp) (by first | exact o2f1 | go_simp)
    have o3_2 : w3.cell? ⟨w2.heap.size, 2, none⟩ = some (.int .i64 0) := k3.cell (by first | exact o2_2 | go_simp)
    have o3f2 : w3.frozen? ⟨w2.heap.size, 2, none⟩ = false := k3.still (v := .int .i64 0) (by first | exact o2_2 | go_simp) (by first | exact o2f2 | go_simp)
    have oz3 : w2.heap.size < w3.heap.size := World.block_lt_of_cell? w3 _ o3_0
    go_wp2
    go_ret
    exact ⟨rfl, show Keep w _ from (by repeat' (first | with_reducible assumption | with_reducible exact Keep.refl _ | with_reducible refine Keep.setCell ?_ (by omega) _ | with_reducible refine Keep.drew ?_ | with_reducible refine Keep.drewN ?_ _ | with_reducible refine Keep.alloc ?_ _))⟩
end Go.Proofs.YthlabofegjfmfaaDoor
