/- DateTurn: the program answers as its model. -/
import Derived.Test.YthlabofegjfmfaaDoorIu
import Derived.Test.YthlabofegjfmfaaDoorCu
import Derived.Test.YthlabofegjfmfaaDoorCz
import Derived.Test.YthlabofegjfmfaaDoorFr
namespace Go.Proofs.YthlabofegjfmfaaDoor
open Go.RowKit
set_option linter.unusedVariables false

set_option maxRecDepth 100000 in
set_option maxHeartbeats 1000000 in
theorem walk_FnExactDateTurn (z0 : Nat → Int) (a1 : Int) (w : World) (w0 : ∀ j, j < 3 → (Lit.int .i64 (z0 j)).wf = true) (w1 : (Lit.int .i64 a1).wf = true) (T : Tabs w) :
    Calls Tryd.prog 15 #[.agg #[.int .i64 (z0 0), .int .i64 (z0 1), .int .i64 (z0 2)], .int .i64 a1] w fun e w' => e = .returned (.bool true) ∧ Below w.heap.size w w' := by
  clear w0 w1
  generalize z0 0 = y, z0 1 = m, z0 2 = d
  have HT := Lib.hid T
  clear T
  rcases Bool.eq_false_or_eq_true (dv y m d a1) with hv | hv
  case' inl => rcases Bool.eq_false_or_eq_true (dayOk (dn y m d a1) (3 - a1)) with hk | hk
  case inl.inl =>
    have HV := Lib.hid hv
    clear hv
    have HK := Lib.hid hk
    clear hk
    go_enter Tryd.func15, Tryd.ntmps15
    go_wp2_with fail
    refine (toDate_any y m d _).mono ?_
    rintro e w1 ⟨rfl, k1⟩
    have c1 : Keep w w1 := Keep.trans (by repeat' (first | with_reducible assumption | with_reducible exact Keep.refl _ | with_reducible refine Keep.setCell ?_ (by omega) _ | with_reducible refine Keep.drew ?_ | with_reducible refine Keep.drewN ?_ _ | with_reducible refine Keep.alloc ?_ _)) k1
    have z1 : w.heap.size ≤ w1.heap.size := c1.size
    have x1_0 : w1.cell? ⟨w.heap.size, 0, none⟩ = some (.int .i64 y) := k1.cell (by first | exact x0_0 | go_simp)
    have x1f0 : w1.frozen? ⟨w.heap.size, 0, none⟩ = false := k1.still (v := .int .i64 y) (by first | exact x0_0 | go_simp) (by first | exact x0f0 | go_simp)
    have x1_1 : w1.cell? ⟨w.heap.size, 1, none⟩ = some (.int .i64 m) := k1.cell (by first | exact x0_1 | go_simp)
    have x1f1 : w1.frozen? ⟨w.heap.size, 1, none⟩ = false := k1.still (v := .int .i64 m) (by first | exact x0_1 | go_simp) (by first | exact x0f1 | go_simp)
    have x1_2 : w1.cell? ⟨w.heap.size, 2, none⟩ = some (.int .i64 d) := k1.cell (by first | exact x0_2 | go_simp)
    have x1f2 : w1.frozen? ⟨w.heap.size, 2, none⟩ = false := k1.still (v := .int .i64 d) (by first | exact x0_2 | go_simp) (by first | exact x0f2 | go_simp)
    have xz1 : w.heap.size < w1.heap.size := World.block_lt_of_cell? w1 _ x1_0
    go_wp2_with fail
    refine (turn_spec_yes y m d a1 _ HV.out HK.out).mono ?_
    rintro e w2 ⟨y1, m1, d1, rfl, hd1, hd2, k2⟩
    have c2 : Keep w w2 := Keep.trans (by repeat' (first | with_reducible assumption | with_reducible exact Keep.refl _ | with_reducible refine Keep.setCell ?_ (by omega) _ | with_reducible refine Keep.drew ?_ | with_reducible refine Keep.drewN ?_ _ | with_reducible refine Keep.alloc ?_ _)) k2
    have z2 : w.heap.size ≤ w2.heap.size := c2.size
    have x2_0 : w2.cell? ⟨w.heap.size, 0, none⟩ = some (.int .i64 y) := k2.cell (by first | exact x1_0 | go_simp)
    have x2f0 : w2.frozen? ⟨w.heap.size, 0, none⟩ = false := k2.still (v := .int .i64 y) (by first | exact x1_0 | go_simp) (by first | exact x1f0 | go_simp)
    have x2_1 : w2.cell? ⟨w.heap.size, 1, none⟩ = some (.int .i64 m) := k2.cell (by first | exact x1_1 | go_simp)
    have x2f1 : w2.frozen? ⟨w.heap.size, 1, none⟩ = false := k2.still (v := .int .i64 m) (by first | exact x1_1 | go_simp) (by first | exact x1f1 | go_simp)
    have x2_2 : w2.cell? ⟨w.heap.size, 2, none⟩ = some (.int .i64 d) := k2.cell (by first | exact x1_2 | go_simp)
    have x2f2 : w2.frozen? ⟨w.heap.size, 2, none⟩ = false := k2.still (v := .int .i64 d) (by first | exact x1_2 | go_simp) (by first | exact x1f2 | go_simp)
    have xz2 : w.heap.size < w2.heap.size := World.block_lt_of_cell? w2 _ x2_0
    have HD1 := Lib.hid hd1
    have HD2 := Lib.hid hd2
    clear hd1 hd2
    go_wp2_with fail
    refine (toDate_any y m d _).mono ?_
    rintro e w3 ⟨rfl, k3⟩
    have c3 : Keep w w3 := Keep.trans (by repeat' (first | with_reducible assumption | with_reducible exact Keep.refl _ | with_reducible refine Keep.setCell ?_ (by omega) _ | with_reducible refine Keep.drew ?_ | with_reducible refine Keep.drewN ?_ _ | with_reducible refine Keep.alloc ?_ _)) k3
    have z3 : w.heap.size ≤ w3.heap.size := c3.size
    have u3_0 : w3.cell? ⟨w2.heap.size, 0, none⟩ = some (.int .i64 y1) := k3.cell (by first | exact u2_0 | go_simp)
    have u3f0 : w3.frozen? ⟨w2.heap.size, 0, none⟩ = false := k3.still (v := .int .i64 y1) (by first | exact u2_0 | go_simp) (by first | exact u2f0 | go_simp)
    have u3_1 : w3.cell? ⟨w2.heap.size, 1, none⟩ = some (.int .i64 m1) := k3.cell (by first | exact u2_1 | go_simp)
    have u3f1 : w3.frozen? ⟨w2.heap.size, 1, none⟩ = false := k3.still (v := .int .i64 m1) (by first | exact u2_1 | go_simp) (by first | exact u2f1 | go_simp)
    have u3_2 : w3.cell? ⟨w2.heap.size, 2, none⟩ = some (.int .i64 d1) := k3.cell (by first | exact u2_2 | go_simp)
    have u3f2 : w3.frozen? ⟨w2.heap.size, 2, none⟩ = false := k3.still (v := .int .i64 d1) (by first | exact u2_2 | go_simp) (by first | exact u2f2 | go_simp)
    have uz3 : w2.heap.size < w3.heap.size := World.block_lt_of_cell? w3 _ u3_0
    go_wp2_with fail
    refine (turn_impl_yes y m d a1 _ (HT.out.keep (by repeat' (first | with_reducible assumption | with_reducible exact Keep.refl _ | with_reducible refine Keep.setCell ?_ (by omega) _ | with_reducible refine Keep.drew ?_ | with_reducible refine Keep.drewN ?_ _ | with_reducible refine Keep.alloc ?_ _))) HV.out HK.out).mono ?_
    rintro e w4 ⟨y', m', d', rfl, hd1, hd2, k4⟩
    have c4 : Keep w w4 := Keep.trans (by repeat' (first | with_reducible assumption | with_reducible exact Keep.refl _ | with_reducible refine Keep.setCell ?_ (by omega) _ | with_reducible refine Keep.drew ?_ | with_reducible refine Keep.drewN ?_ _ | with_reducible refine Keep.alloc ?_ _)) k4
    have z4 : w.heap.size ≤ w4.heap.size := c4.size
    have u4_0 : w4.cell? ⟨w2.heap.size, 0, none⟩ = some (.int .i64 y1) := k4.cell (by first | exact u3_0 | go_simp)
    have u4f0 : w4.frozen? ⟨w2.heap.size, 0, none⟩ = false := k4.still (v := .int .i64 y1) (by first | exact u3_0 | go_simp) (by first | exact u3f0 | go_simp)
    have u4_1 : w4.cell? ⟨w2.heap.size, 1, none⟩ = some (.int .i64 m1) := k4.cell (by first | exact u3_1 | go_simp)
    have u4f1 : w4.frozen? ⟨w2.heap.size, 1, none⟩ = false := k4.still (v := .int .i64 m1) (by first | exact u3_1 | go_simp) (by first | exact u3f1 | go_simp)
    have u4_2 : w4.cell? ⟨w2.heap.size, 2, none⟩ = some (.int .i64 d1) := k4.cell (by first | exact u3_2 | go_simp)
    have u4f2 : w4.frozen? ⟨w2.heap.size, 2, none⟩ = false := k4.still (v := .int .i64 d1) (by first | exact u3_2 | go_simp) (by first | exact u3f2 | go_simp)
    have uz4 : w2.heap.size < w4.heap.size := World.block_lt_of_cell? w4 _ u4_0
    obtain ⟨rfl, rfl, rfl⟩ := dn_inj hd1 HD1.out (hd2.trans HD2.out.symm)
    clear hd1 hd2 HD2
    go_wp2_with fail
    refine (eqDate_same y' m' d' _).mono ?_
    rintro e w5 ⟨rfl, k5⟩
    have c5 : Keep w w5 := Keep.trans (by repeat' (first | with_reducible assumption | with_reducible exact Keep.refl _ | with_reducible refine Keep.setCell ?_ (by omega) _ | with_reducible refine Keep.drew ?_ | with_reducible refine Keep.drewN ?_ _ | with_reducible refine Keep.alloc ?_ _)) k5
    have z5 : w.heap.size ≤ w5.heap.size := c5.size
    go_wp2
    go_ret
    exact ⟨rfl, show Keep w _ from (by repeat' (first | with_reducible assumption | with_reducible exact Keep.refl _ | with_reducible refine Keep.setCell ?_ (by omega) _ | with_reducible refine Keep.drew ?_ | with_reducible refine Keep.drewN ?_ _ | with_reducible refine Keep.alloc ?_ _))⟩
  case inl.inr =>
    have HV := Lib.hid hv
    clear hv
    have HK := Lib.hid hk
    clear hk
    go_enter Tryd.func15, Tryd.ntmps15
    go_wp2_with fail
    refine (toDate_any y m d _).mono ?_
    rintro e w1 ⟨rfl, k1⟩
    have c1 : Keep w w1 := Keep.trans (by repeat' (first | with_reducible assumption | with_reducible exact Keep.refl _ | with_reducible refine Keep.setCell ?_ (by omega) _ | with_reducible refine Keep.drew ?_ | with_reducible refine Keep.drewN ?_ _ | with_reducible refine Keep.alloc ?_ _)) k1
    have z1 : w.heap.size ≤ w1.heap.size := c1.size
    have x1_0 : w1.cell? ⟨w.heap.size, 0, none⟩ = some (.int .i64 y) := k1.cell (by first | exact x0_0 | go_simp)
    have x1f0 : w1.frozen? ⟨w.heap.size, 0, none⟩ = false := k1.still (v := .int .i64 y) (by first | exact x0_0 | go_simp) (by first | exact x0f0 | go_simp)
    have x1_1 : w1.cell? ⟨w.heap.size, 1, none⟩ = some (.int .i64 m) := k1.cell (by first | exact x0_1 | go_simp)
    have x1f1 : w1.frozen? ⟨w.heap.size, 1, none⟩ = false := k1.still (v := .int .i64 m) (by first | exact x0_1 | go_simp) (by first | exact x0f1 | go_simp)
    have x1_2 : w1.cell? ⟨w.heap.size, 2, none⟩ = some (.int .i64 d) := k1.cell (by first | exact x0_2 | go_simp)
    have x1f2 : w1.frozen? ⟨w.heap.size, 2, none⟩ = false := k1.still (v := .int .i64 d) (by first | exact x0_2 | go_simp) (by first | exact x0f2 | go_simp)
    have xz1 : w.heap.size < w1.heap.size := World.block_lt_of_cell? w1 _ x1_0
    go_wp2_with fail
    refine (turn_spec_no y m d a1 _ HV.out HK.out).mono ?_
    rintro e w2 ⟨rfl, k2⟩
    have c2 : Keep w w2 := Keep.trans (by repeat' (first | with_reducible assumption | with_reducible exact Keep.refl _ | with_reducible refine Keep.setCell ?_ (by omega) _ | with_reducible refine Keep.drew ?_ | with_reducible refine Keep.drewN ?_ _ | with_reducible refine Keep.alloc ?_ _)) k2
    have z2 : w.heap.size ≤ w2.heap.size := c2.size
    have x2_0 : w2.cell? ⟨w.heap.size, 0, none⟩ = some (.int .i64 y) := k2.cell (by first | exact x1_0 | go_simp)
    have x2f0 : w2.frozen? ⟨w.heap.size, 0, none⟩ = false := k2.still (v := .int .i64 y) (by first | exact x1_0 | go_simp) (by first | exact x1f0 | go_simp)
    have x2_1 : w2.cell? ⟨w.heap.size, 1, none⟩ = some (.int .i64 m) := k2.cell (by first | exact x1_1 | go_simp)
    have x2f1 : w2.frozen? ⟨w.heap.size, 1, none⟩ = false := k2.still (v := .int .i64 m) (by first | exact x1_1 | go_simp) (by first | exact x1f1 | go_simp)
    have x2_2 : w2.cell? ⟨w.heap.size, 2, none⟩ = some (.int .i64 d) := k2.cell (by first | exact x1_2 | go_simp)
    have x2f2 : w2.frozen? ⟨w.heap.size, 2, none⟩ = false := k2.still (v := .int .i64 d) (by first | exact x1_2 | go_simp) (by first | exact x1f2 | go_simp)
    have xz2 : w.heap.size < w2.heap.size := World.block_lt_of_cell? w2 _ x2_0
    go_wp2_with fail
    refine (toDate_any y m d _).mono ?_
    rintro e w3 ⟨rfl, k3⟩
    have c3 : Keep w w3 := Keep.trans (by repeat' (first | with_reducible assumption | with_reducible exact Keep.refl _ | with_reducible refine Keep.setCell ?_ (by omega) _ | with_reducible refine Keep.drew ?_ | with_reducible refine Keep.drewN ?_ _ | with_reducible refine Keep.alloc ?_ _)) k3
    have z3 : w.heap.size ≤ w3.heap.size := c3.size
    have u3_0 : w3.cell? ⟨w2.heap.size, 0, none⟩ = some (.int .i64 0) := k3.cell (by first | exact u2_0 | go_simp)
    have u3f0 : w3.frozen? ⟨w2.heap.size, 0, none⟩ = false := k3.still (v := .int .i64 0) (by first | exact u2_0 | go_simp) (by first | exact u2f0 | go_simp)
    have u3_1 : w3.cell? ⟨w2.heap.size, 1, none⟩ = some (.int .i64 0) := k3.cell (by first | exact u2_1 | go_simp)
    have u3f1 : w3.frozen? ⟨w2.heap.size, 1, none⟩ = false := k3.still (v := .int .i64 0) (by first | exact u2_1 | go_simp) (by first | exact u2f1 | go_simp)
    have u3_2 : w3.cell? ⟨w2.heap.size, 2, none⟩ = some (.int .i64 0) := k3.cell (by first | exact u2_2 | go_simp)
    have u3f2 : w3.frozen? ⟨w2.heap.size, 2, none⟩ = false := k3.still (v := .int .i64 0) (by first | exact u2_2 | go_simp) (by first | exact u2f2 | go_simp)
    have uz3 : w2.heap.size < w3.heap.size := World.block_lt_of_cell? w3 _ u3_0
    go_wp2_with fail
    refine (turn_impl_no y m d a1 _ (HT.out.keep (by repeat' (first | with_reducible assumption | with_reducible exact Keep.refl _ | with_reducible refine Keep.setCell ?_ (by omega) _ | with_reducible refine Keep.drew ?_ | with_reducible refine Keep.drewN ?_ _ | with_reducible refine Keep.alloc ?_ _))) HV.out HK.out).mono ?_
    rintro e w4 ⟨rfl, k4⟩
    have c4 : Keep w w4 := Keep.trans (by repeat' (first | with_reducible assumption | with_reducible exact Keep.refl _ | with_reducible refine Keep.setCell ?_ (by omega) _ | with_reducible refine Keep.drew ?_ | with_reducible refine Keep.drewN ?_ _ | with_reducible refine Keep.alloc ?_ _)) k4
    have z4 : w.heap.size ≤ w4.heap.size := c4.size
    have u4_0 : w4.cell? ⟨w2.heap.size, 0, none⟩ = some (.int .i64 0) := k4.cell (by first | exact u3_0 | go_simp)
    have u4f0 : w4.frozen? ⟨w2.heap.size, 0, none⟩ = false := k4.still (v := .int .i64 0) (by first | exact u3_0 | go_simp) (by first | exact u3f0 | go_simp)
    have u4_1 : w4.cell? ⟨w2.heap.size, 1, none⟩ = some (.int .i64 0) := k4.cell (by first | exact u3_1 | go_simp)
    have u4f1 : w4.frozen? ⟨w2.heap.size, 1, none⟩ = false := k4.still (v := .int .i64 0) (by first | exact u3_1 | go_simp) (by first | exact u3f1 | go_simp)
    have u4_2 : w4.cell? ⟨w2.heap.size, 2, none⟩ = some (.int .i64 0) := k4.cell (by first | exact u3_2 | go_simp)
    have u4f2 : w4.frozen? ⟨w2.heap.size, 2, none⟩ = false := k4.still (v := .int .i64 0) (by first | exact u3_2 | go_simp) (by first | exact u3f2 | go_simp)
    have uz4 : w2.heap.size < w4.heap.size := World.block_lt_of_cell? w4 _ u4_0
    go_wp2_with fail
    refine (eqDate_same 0 0 0 _).mono ?_
    rintro e w5 ⟨rfl, k5⟩
    have c5 : Keep w w5 := Keep.trans (by repeat' (first | with_reducible assumption | with_reducible exact Keep.refl _ | with_reducible refine Keep.setCell ?_ (by omega) _ | with_reducible refine Keep.drew ?_ | with_reducible refine Keep.drewN ?_ _ | with_reducible refine Keep.alloc ?_ _)) k5
    have z5 : w.heap.size ≤ w5.heap.size := c5.size
    go_wp2
    go_ret
    exact ⟨rfl, show Keep w _ from (by repeat' (first | with_reducible assumption | with_reducible exact Keep.refl _ | with_reducible refine Keep.setCell ?_ (by omega) _ | with_reducible refine Keep.drew ?_ | with_reducible refine Keep.drewN ?_ _ | with_reducible refine Keep.alloc ?_ _))⟩
  case inr =>
    have HV := Lib.hid hv
    clear hv
    go_enter Tryd.func15, Tryd.ntmps15
    go_wp2_with fail
    refine (toDate_any y m d _).mono ?_
    rintro e w1 ⟨rfl, k1⟩
    have c1 : Keep w w1 := Keep.trans (by repeat' (first | with_reducible assumption | with_reducible exact Keep.refl _ | with_reducible refine Keep.setCell ?_ (by omega) _ | with_reducible refine Keep.drew ?_ | with_reducible refine Keep.drewN ?_ _ | with_reducible refine Keep.alloc ?_ _)) k1
    have z1 : w.heap.size ≤ w1.heap.size := c1.size
    have x1_0 : w1.cell? ⟨w.heap.size, 0, none⟩ = some (.int .i64 y) := k1.cell (by first | exact x0_0 | go_simp)
    have x1f0 : w1.frozen? ⟨w.heap.size, 0, none⟩ = false := k1.still (v := .int .i64 y) (by first | exact x0_0 | go_simp) (by first | exact x0f0 | go_simp)
    have x1_1 : w1.cell? ⟨w.heap.size, 1, none⟩ = some (.int .i64 m) := k1.cell (by first | exact x0_1 | go_simp)
    have x1f1 : w1.frozen? ⟨w.heap.size, 1, none⟩ = false := k1.still (v := .int .i64 m) (by first | exact x0_1 | go_simp) (by first | exact x0f1 | go_simp)
    have x1_2 : w1.cell? ⟨w.heap.size, 2, none⟩ = some (.int .i64 d) := k1.cell (by first | exact x0_2 | go_simp)
    have x1f2 : w1.frozen? ⟨w.heap.size, 2, none⟩ = false := k1.still (v := .int .i64 d) (by first | exact x0_2 | go_simp) (by first | exact x0f2 | go_simp)
    have xz1 : w.heap.size < w1.heap.size := World.block_lt_of_cell? w1 _ x1_0
    go_wp2_with fail
    refine (turn_spec_bad y m d a1 _ HV.out).mono ?_
    rintro e w2 ⟨rfl, k2⟩
    have c2 : Keep w w2 := Keep.trans (by repeat' (first | with_reducible assumption | with_reducible exact Keep.refl _ | with_reducible refine Keep.setCell ?_ (by omega) _ | with_reducible refine Keep.drew ?_ | with_reducible refine Keep.drewN ?_ _ | with_reducible refine Keep.alloc ?_ _)) k2
    have z2 : w.heap.size ≤ w2.heap.size := c2.size
    have x2_0 : w2.cell? ⟨w.heap.size, 0, none⟩ = some (.int .i64 y) := k2.cell (by first | exact x1_0 | go_simp)
    have x2f0 : w2.frozen? ⟨w.heap.size, 0, none⟩ = false := k2.still (v := .int .i64 y) (by first | exact x1_0 | go_simp) (by first | exact x1f0 | go_simp)
    have x2_1 : w2.cell? ⟨w.heap.size, 1, none⟩ = some (.int .i64 m) := k2.cell (by first | exact x1_1 | go_simp)
    have x2f1 : w2.frozen? ⟨w.heap.size, 1, none⟩ = false := k2.still (v := .int .i64 m) (by first | exact x1_1 | go_simp) (by first | exact x1f1 | go_simp)
    have x2_2 : w2.cell? ⟨w.heap.size, 2, none⟩ = some (.int .i64 d) := k2.cell (by first | exact x1_2 | go_simp)
    have x2f2 : w2.frozen? ⟨w.heap.size, 2, none⟩ = false := k2.still (v := .int .i64 d) (by first | exact x1_2 | go_simp) (by first | exact x1f2 | go_simp)
    have xz2 : w.heap.size < w2.heap.size := World.block_lt_of_cell? w2 _ x2_0
    go_wp2_with fail
    refine (toDate_any y m d _).mono ?_
    rintro e w3 ⟨rfl, k3⟩
    have c3 : Keep w w3 := Keep.trans (by repeat' (first | with_reducible assumption | with_reducible exact Keep.refl _ | with_reducible refine Keep.setCell ?_ (by omega) _ | with_reducible refine Keep.drew ?_ | with_reducible refine Keep.drewN ?_ _ | with_reducible refine Keep.alloc ?_ _)) k3
    have z3 : w.heap.size ≤ w3.heap.size := c3.size
    have u3_0 : w3.cell? ⟨w2.heap.size, 0, none⟩ = some (.int .i64 0) := k3.cell (by first | exact u2_0 | go_simp)
    have u3f0 : w3.frozen? ⟨w2.heap.size, 0, none⟩ = false := k3.still (v := .int .i64 0) (by first | exact u2_0 | go_simp) (by first | exact u2f0 | go_simp)
    have u3_1 : w3.cell? ⟨w2.heap.size, 1, none⟩ = some (.int .i64 0) := k3.cell (by first | exact u2_1 | go_simp)
    have u3f1 : w3.frozen? ⟨w2.heap.size, 1, none⟩ = false := k3.still (v := .int .i64 0) (by first | exact u2_1 | go_simp) (by first | exact u2f1 | go_simp)
    have u3_2 : w3.cell? ⟨w2.heap.size, 2, none⟩ = some (.int .i64 0) := k3.cell (by first | exact u2_2 | go_simp)
    have u3f2 : w3.frozen? ⟨w2.heap.size, 2, none⟩ = false := k3.still (v := .int .i64 0) (by first | exact u2_2 | go_simp) (by first | exact u2f2 | go_simp)
    have uz3 : w2.heap.size < w3.heap.size := World.block_lt_of_cell? w3 _ u3_0
    go_wp2_with fail
    refine (turn_impl_bad y m d a1 _ (HT.out.keep (by repeat' (first | with_reducible assumption | with_reducible exact Keep.refl _ | with_reducible refine Keep.setCell ?_ (by omega) _ | with_reducible refine Keep.drew ?_ | with_reducible refine Keep.drewN ?_ _ | with_reducible refine Keep.alloc ?_ _))) HV.out).mono ?_
    rintro e w4 ⟨rfl, k4⟩
    have c4 : Keep w w4 := Keep.trans (by repeat' (first | with_reducible assumption | with_reducible exact Keep.refl _ | with_reducible refine Keep.setCell ?_ (by omega) _ | with_reducible refine Keep.drew ?_ | with_reducible refine Keep.drewN ?_ _ | with_reducible refine Keep.alloc ?_ _)) k4
    have z4 : w.heap.size ≤ w4.heap.size := c4.size
    have u4_0 : w4.cell? ⟨w2.heap.size, 0, none⟩ = some (.int .i64 0) := k4.cell (by first | exact u3_0 | go_simp)
    have u4f0 : w4.frozen? ⟨w2.heap.size, 0, none⟩ = false := k4.still (v := .int .i64 0) (by first | exact u3_0 | go_simp) (by first | exact u3f0 | go_simp)
    have u4_1 : w4.cell? ⟨w2.heap.size, 1, none⟩ = some (.int .i64 0) := k4.cell (by first | exact u3_1 | go_simp)
    have u4f1 : w4.frozen? ⟨w2.heap.size, 1, none⟩ = false := k4.still (v := .int .i64 0) (by first | exact u3_1 | go_simp) (by first | exact u3f1 | go_simp)
    have u4_2 : w4.cell? ⟨w2.heap.size, 2, none⟩ = some (.int .i64 0) := k4.cell (by first | exact u3_2 | go_simp)
    have u4f2 : w4.frozen? ⟨w2.heap.size, 2, none⟩ = false := k4.still (v := .int .i64 0) (by first | exact u3_2 | go_simp) (by first | exact u3f2 | go_simp)
    have uz4 : w2.heap.size < w4.heap.size := World.block_lt_of_cell? w4 _ u4_0
    go_wp2_with fail
    refine (eqDate_same 0 0 0 _).mono ?_
    rintro e w5 ⟨rfl, k5⟩
    have c5 : Keep w w5 := Keep.trans (by repeat' (first | with_reducible assumption | with_reducible exact Keep.refl _ | with_reducible refine Keep.setCell ?_ (by omega) _ | with_reducible refine Keep.drew ?_ | with_reducible refine Keep.drewN ?_ _ | with_reducible refine Keep.alloc ?_ _)) k5
    have z5 : w.heap.size ≤ w5.heap.size := c5.size
    go_wp2
    go_ret
    exact ⟨rfl, show Keep w _ from (by repeat' (first | with_reducible assumption | with_reducible exact Keep.refl _ | with_reducible refine Keep.setCell ?_ (by omega) _ | with_reducible refine Keep.drew ?_ | with_reducible refine Keep.drewN ?_ _ | with_reducible refine Keep.alloc ?_ _))⟩
end Go.Proofs.YthlabofegjfmfaaDoor
