/- DateOf: the program answers as its model. -/
import Derived.Test.YthlabofegjfmfaaDoorIu
import Derived.Test.YthlabofegjfmfaaDoorCu
import Derived.Test.YthlabofegjfmfaaDoorCz
import Derived.Test.YthlabofegjfmfaaDoorFr
namespace Go.Proofs.YthlabofegjfmfaaDoor
open Go.RowKit
set_option linter.unusedVariables false

set_option maxRecDepth 100000 in
set_option maxHeartbeats 1000000 in
theorem walk_FnExactDateOf (a0 : Int) (a1 : Int) (w : World) (w0 : (Lit.int .i64 a0).wf = true) (w1 : (Lit.int .i64 a1).wf = true) (T : Tabs w) :
    Calls Tryd.prog 14 #[.int .i64 a0, .int .i64 a1] w fun e w' => e = .returned (.bool true) ∧ Below w.heap.size w w' := by
  clear w0 w1
  have HT := Lib.hid T
  clear T
  rcases Bool.eq_false_or_eq_true (dayOk a0 a1) with hk | hk
  case inl =>
    have HK := Lib.hid hk
    clear hk
    go_enter Tryd.func14, Tryd.ntmps14
    go_wp2_with fail
    refine (dateof_spec_yes a0 a1 _ HK.out).mono ?_
    rintro e w1 ⟨y, m, d, rfl, hd1, hd2, k1⟩
    have c1 : Keep w w1 := Keep.trans (by repeat' (first | with_reducible assumption | with_reducible exact Keep.refl _ | with_reducible refine Keep.setCell ?_ (by omega) _ | with_reducible refine Keep.drew ?_ | with_reducible refine Keep.drewN ?_ _ | with_reducible refine Keep.alloc ?_ _)) k1
    have z1 : w.heap.size ≤ w1.heap.size := c1.size
    have HD1 := Lib.hid hd1
    have HD2 := Lib.hid hd2
    clear hd1 hd2
    go_wp2_with fail
    refine (dateof_impl_yes a0 a1 _ (HT.out.keep (by repeat' (first | with_reducible assumption | with_reducible exact Keep.refl _ | with_reducible refine Keep.setCell ?_ (by omega) _ | with_reducible refine Keep.drew ?_ | with_reducible refine Keep.drewN ?_ _ | with_reducible refine Keep.alloc ?_ _))) HK.out).mono ?_
    rintro e w2 ⟨y', m', d', rfl, hd1, hd2, k2⟩
    have c2 : Keep w w2 := Keep.trans (by repeat' (first | with_reducible assumption | with_reducible exact Keep.refl _ | with_reducible refine Keep.setCell ?_ (by omega) _ | with_reducible refine Keep.drew ?_ | with_reducible refine Keep.drewN ?_ _ | with_reducible refine Keep.alloc ?_ _)) k2
    have z2 : w.heap.size ≤ w2.heap.size := c2.size
    have u2_0 : w2.cell? ⟨w1.heap.size, 0, none⟩ = some (.int .i64 y) := k2.cell (by first | exact u1_0 | go_simp)
    have u2f0 : w2.frozen? ⟨w1.heap.size, 0, none⟩ = false := k2.still (v := .int .i64 y) (by first | exact u1_0 | go_simp) (by first | exact u1f0 | go_simp)
    have u2_1 : w2.cell? ⟨w1.heap.size, 1, none⟩ = some (.int .i64 m) := k2.cell (by first | exact u1_1 | go_simp)
    have u2f1 : w2.frozen? ⟨w1.heap.size, 1, none⟩ = false := k2.still (v := .int .i64 m) (by first | exact u1_1 | go_simp) (by first | exact u1f1 | go_simp)
    have u2_2 : w2.cell? ⟨w1.heap.size, 2, none⟩ = some (.int .i64 d) := k2.cell (by first | exact u1_2 | go_simp)
    have u2f2 : w2.frozen? ⟨w1.heap.size, 2, none⟩ = false := k2.still (v := .int .i64 d) (by first | exact u1_2 | go_simp) (by first | exact u1f2 | go_simp)
    have uz2 : w1.heap.size < w2.heap.size := World.block_lt_of_cell? w2 _ u2_0
    obtain ⟨rfl, rfl, rfl⟩ := dn_inj hd1 HD1.out (hd2.trans HD2.out.symm)
    clear hd1 hd2 HD2
    go_wp2_with fail
    refine (eqDate_same y' m' d' _).mono ?_
    rintro e w3 ⟨rfl, k3⟩
    have c3 : Keep w w3 := Keep.trans (by repeat' (first | with_reducible assumption | with_reducible exact Keep.refl _ | with_reducible refine Keep.setCell ?_ (by omega) _ | with_reducible refine Keep.drew ?_ | with_reducible refine Keep.drewN ?_ _ | with_reducible refine Keep.alloc ?_ _)) k3
    have z3 : w.heap.size ≤ w3.heap.size := c3.size
    go_wp2
    go_ret
    exact ⟨rfl, show Keep w _ from (by repeat' (first | with_reducible assumption | with_reducible exact Keep.refl _ | with_reducible refine Keep.setCell ?_ (by omega) _ | with_reducible refine Keep.drew ?_ | with_reducible refine Keep.drewN ?_ _ | with_reducible refine Keep.alloc ?_ _))⟩
  case inr =>
    have HK := Lib.hid hk
    clear hk
    go_enter Tryd.func14, Tryd.ntmps14
    go_wp2_with fail
    refine (dateof_spec_no a0 a1 _ HK.out).mono ?_
    rintro e w1 ⟨rfl, k1⟩
    have c1 : Keep w w1 := Keep.trans (by repeat' (first | with_reducible assumption | with_reducible exact Keep.refl _ | with_reducible refine Keep.setCell ?_ (by omega) _ | with_reducible refine Keep.drew ?_ | with_reducible refine Keep.drewN ?_ _ | with_reducible refine Keep.alloc ?_ _)) k1
    have z1 : w.heap.size ≤ w1.heap.size := c1.size
    go_wp2_with fail
    refine (dateof_impl_no a0 a1 _ (HT.out.keep (by repeat' (first | with_reducible assumption | with_reducible exact Keep.refl _ | with_reducible refine Keep.setCell ?_ (by omega) _ | with_reducible refine Keep.drew ?_ | with_reducible refine Keep.drewN ?_ _ | with_reducible refine Keep.alloc ?_ _))) HK.out).mono ?_
    rintro e w2 ⟨rfl, k2⟩
    have c2 : Keep w w2 := Keep.trans (by repeat' (first | with_reducible assumption | with_reducible exact Keep.refl _ | with_reducible refine Keep.setCell ?_ (by omega) _ | with_reducible refine Keep.drew ?_ | with_reducible refine Keep.drewN ?_ _ | with_reducible refine Keep.alloc ?_ _)) k2
    have z2 : w.heap.size ≤ w2.heap.size := c2.size
    have u2_0 : w2.cell? ⟨w1.heap.size, 0, none⟩ = some (.int .i64 0) := k2.cell (by first | exact u1_0 | go_simp)
    have u2f0 : w2.frozen? ⟨w1.heap.size, 0, none⟩ = false := k2.still (v := .int .i64 0) (by first | exact u1_0 | go_simp) (by first | exact u1f0 | go_simp)
    have u2_1 : w2.cell? ⟨w1.heap.size, 1, none⟩ = some (.int .i64 0) := k2.cell (by first | exact u1_1 | go_simp)
    have u2f1 : w2.frozen? ⟨w1.heap.size, 1, none⟩ = false := k2.still (v := .int .i64 0) (by first | exact u1_1 | go_simp) (by first | exact u1f1 | go_simp)
    have u2_2 : w2.cell? ⟨w1.heap.size, 2, none⟩ = some (.int .i64 0) := k2.cell (by first | exact u1_2 | go_simp)
    have u2f2 : w2.frozen? ⟨w1.heap.size, 2, none⟩ = false := k2.still (v := .int .i64 0) (by first | exact u1_2 | go_simp) (by first | exact u1f2 | go_simp)
    have uz2 : w1.heap.size < w2.heap.size := World.block_lt_of_cell? w2 _ u2_0
    go_wp2_with fail
    refine (eqDate_same 0 0 0 _).mono ?_
    rintro e w3 ⟨rfl, k3⟩
    have c3 : Keep w w3 := Keep.trans (by repeat' (first | with_reducible assumption | with_reducible exact Keep.refl _ | with_reducible refine Keep.setCell ?_ (by omega) _ | with_reducible refine Keep.drew ?_ | with_reducible refine Keep.drewN ?_ _ | with_reducible refine Keep.alloc ?_ _)) k3
    have z3 : w.heap.size ≤ w3.heap.size := c3.size
    go_wp2
    go_ret
    exact ⟨rfl, show Keep w _ from (by repeat' (first | with_reducible assumption | with_reducible exact Keep.refl _ | with_reducible refine Keep.setCell ?_ (by omega) _ | with_reducible refine Keep.drew ?_ | with_reducible refine Keep.drewN ?_ _ | with_reducible refine Keep.alloc ?_ _))⟩
end Go.Proofs.YthlabofegjfmfaaDoor
