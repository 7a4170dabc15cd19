/- P15: a day has one date. -/
import Derived.Test.YthlabofegjfmfaaDoorIu
import Derived.Test.YthlabofegjfmfaaDoorCu
import Derived.Test.YthlabofegjfmfaaDoorDrCc
namespace Go.Proofs.YthlabofegjfmfaaDoor
open Go.RowKit
set_option linter.unusedVariables false

set_option maxRecDepth 100000 in
set_option maxHeartbeats 3200000 in
theorem walk_FnDayOf (a0 : Option Addr) (len0 cap0 : Nat) (z0 : List Int) (w : World) (w0 : IsRow .u8 w a0 len0 cap0 z0) (T : Tabs w) :
    Calls Tryd.prog 3 #[.slice a0 len0 cap0] w fun e w' => e = .returned (.bool true) ∧ Below w.heap.size w w' := by
  have ha := code_of_row w0
  obtain ⟨hl, hm⟩ := ha.1
  unfold maxLen at hm
  clear w0
  by_cases h : len0 ≤ 1048576
  case' neg =>
    have hd : decide (1048576 < (len0 : Int)) = true := by simp; omega
    go_enter Tryd.func3, Tryd.ntmps3
    go_wp2
    go_ret
    exact ⟨rfl, Below.refl _ _⟩
  have hd : decide (1048576 < (len0 : Int)) = false := by simp; omega
  go_enter Tryd.func3, Tryd.ntmps3
  have HT := Lib.hid T
  clear T
  go_wp2_with fail
  refine (drawDayOf a0 len0 cap0 _ ha).mono ?_
  rintro e w1 ⟨y, m, d, c, rfl, hy, hm, hd, hc, k1⟩
  have c1 : Keep w w1 := Keep.trans (by repeat' (first | with_reducible assumption | with_reducible exact Keep.refl _ | with_reducible refine Keep.setCell ?_ (by omega) _ | with_reducible refine Keep.drew ?_ | with_reducible refine Keep.drewN ?_ _ | with_reducible refine Keep.alloc ?_ _)) k1
  have z1 : w.heap.size ≤ w1.heap.size := c1.size
  clear hy hm hd hc
  go_wp2_with fail
  refine (dayof_impl y m d c _ (HT.out.keep (by repeat' (first | with_reducible assumption | with_reducible exact Keep.refl _ | with_reducible refine Keep.setCell ?_ (by omega) _ | with_reducible refine Keep.drew ?_ | with_reducible refine Keep.drewN ?_ _ | with_reducible refine Keep.alloc ?_ _)))).mono ?_
  rintro e w2 ⟨rfl, k2⟩
  have c2 : Keep w w2 := Keep.trans (by repeat' (first | with_reducible assumption | with_reducible exact Keep.refl _ | with_reducible refine Keep.setCell ?_ (by omega) _ | with_reducible refine Keep.drew ?_ | with_reducible refine Keep.drewN ?_ _ | with_reducible refine Keep.alloc ?_ _)) k2
  have z2 : w.heap.size ≤ w2.heap.size := c2.size
  have x2_0 : w2.cell? ⟨w1.heap.size, 0, none⟩ = some (.int .i64 y) := k2.cell (by first | exact x1_0 | go_simp)
  have x2f0 : w2.frozen? ⟨w1.heap.size, 0, none⟩ = false := k2.still (v := .int .i64 y) (by first | exact x1_0 | go_simp) (by first | exact x1f0 | go_simp)
  have x2_1 : w2.cell? ⟨w1.heap.size, 1, none⟩ = some (.int .i64 m) := k2.cell (by first | exact x1_1 | go_simp)
  have x2f1 : w2.frozen? ⟨w1.heap.size, 1, none⟩ = false := k2.still (v := .int .i64 m) (by first | exact x1_1 | go_simp) (by first | exact x1f1 | go_simp)
  have x2_2 : w2.cell? ⟨w1.heap.size, 2, none⟩ = some (.int .i64 d) := k2.cell (by first | exact x1_2 | go_simp)
  have x2f2 : w2.frozen? ⟨w1.heap.size, 2, none⟩ = false := k2.still (v := .int .i64 d) (by first | exact x1_2 | go_simp) (by first | exact x1f2 | go_simp)
  have xz2 : w1.heap.size < w2.heap.size := World.block_lt_of_cell? w2 _ x2_0
  go_wp2_with fail
  refine (dayof_spec y m d c _).mono ?_
  rintro e w3 ⟨rfl, k3⟩
  have c3 : Keep w w3 := Keep.trans (by repeat' (first | with_reducible assumption | with_reducible exact Keep.refl _ | with_reducible refine Keep.setCell ?_ (by omega) _ | with_reducible refine Keep.drew ?_ | with_reducible refine Keep.drewN ?_ _ | with_reducible refine Keep.alloc ?_ _)) k3
  have z3 : w.heap.size ≤ w3.heap.size := c3.size
  have x3_0 : w3.cell? ⟨w1.heap.size, 0, none⟩ = some (.int .i64 y) := k3.cell (by first | exact x2_0 | go_simp)
  have x3f0 : w3.frozen? ⟨w1.heap.size, 0, none⟩ = false := k3.still (v := .int .i64 y) (by first | exact x2_0 | go_simp) (by first | exact x2f0 | go_simp)
  have x3_1 : w3.cell? ⟨w1.heap.size, 1, none⟩ = some (.int .i64 m) := k3.cell (by first | exact x2_1 | go_simp)
  have x3f1 : w3.frozen? ⟨w1.heap.size, 1, none⟩ = false := k3.still (v := .int .i64 m) (by first | exact x2_1 | go_simp) (by first | exact x2f1 | go_simp)
  have x3_2 : w3.cell? ⟨w1.heap.size, 2, none⟩ = some (.int .i64 d) := k3.cell (by first | exact x2_2 | go_simp)
  have x3f2 : w3.frozen? ⟨w1.heap.size, 2, none⟩ = false := k3.still (v := .int .i64 d) (by first | exact x2_2 | go_simp) (by first | exact x2f2 | go_simp)
  have xz3 : w1.heap.size < w3.heap.size := World.block_lt_of_cell? w3 _ x3_0
  rcases Bool.eq_false_or_eq_true (dv y m d c) with hv | hv
  case inl =>
    have E := dOut_yes hv
    have HV := Lib.hid hv
    have HO := Lib.hid (dn_ok hv)
    obtain ⟨b1, b2⟩ := dn_bd hv
    generalize hn : dn y m d c = n at *
    have HN := Lib.hid hn
    clear hn
    go_wp2_with fail
    refine (dateof_impl_yes n c _ (HT.out.keep (by repeat' (first | with_reducible assumption | with_reducible exact Keep.refl _ | with_reducible refine Keep.setCell ?_ (by omega) _ | with_reducible refine Keep.drew ?_ | with_reducible refine Keep.drewN ?_ _ | with_reducible refine Keep.alloc ?_ _))) HO.out).mono ?_
    rintro e w4 ⟨y', m', d', rfl, hd1, hd2, k4⟩
    have c4 : Keep w w4 := Keep.trans (by repeat' (first | with_reducible assumption | with_reducible exact Keep.refl _ | with_reducible refine Keep.setCell ?_ (by omega) _ | with_reducible refine Keep.drew ?_ | with_reducible refine Keep.drewN ?_ _ | with_reducible refine Keep.alloc ?_ _)) k4
    have z4 : w.heap.size ≤ w4.heap.size := c4.size
    have x4_0 : w4.cell? ⟨w1.heap.size, 0, none⟩ = some (.int .i64 y) := k4.cell (by first | exact x3_0 | go_simp)
    have x4f0 : w4.frozen? ⟨w1.heap.size, 0, none⟩ = false := k4.still (v := .int .i64 y) (by first | exact x3_0 | go_simp) (by first | exact x3f0 | go_simp)
    have x4_1 : w4.cell? ⟨w1.heap.size, 1, none⟩ = some (.int .i64 m) := k4.cell (by first | exact x3_1 | go_simp)
    have x4f1 : w4.frozen? ⟨w1.heap.size, 1, none⟩ = false := k4.still (v := .int .i64 m) (by first | exact x3_1 | go_simp) (by first | exact x3f1 | go_simp)
    have x4_2 : w4.cell? ⟨w1.heap.size, 2, none⟩ = some (.int .i64 d) := k4.cell (by first | exact x3_2 | go_simp)
    have x4f2 : w4.frozen? ⟨w1.heap.size, 2, none⟩ = false := k4.still (v := .int .i64 d) (by first | exact x3_2 | go_simp) (by first | exact x3f2 | go_simp)
    have xz4 : w1.heap.size < w4.heap.size := World.block_lt_of_cell? w4 _ x4_0
    obtain ⟨rfl, rfl, rfl⟩ := dn_inj hd1 HV.out (hd2.trans HN.out.symm)
    clear hd1 hd2 HN
    go_wp2
    go_ret
    exact ⟨rfl, show Keep w _ from (by repeat' (first | with_reducible assumption | with_reducible exact Keep.refl _ | with_reducible refine Keep.setCell ?_ (by omega) _ | with_reducible refine Keep.drew ?_ | with_reducible refine Keep.drewN ?_ _ | with_reducible refine Keep.alloc ?_ _))⟩
  case inr =>
    have E := dOut_no hv
    go_wp2
    go_ret
    exact ⟨rfl, show Keep w _ from (by repeat' (first | with_reducible assumption | with_reducible exact Keep.refl _ | with_reducible refine Keep.setCell ?_ (by omega) _ | with_reducible refine Keep.drew ?_ | with_reducible refine Keep.drewN ?_ _ | with_reducible refine Keep.alloc ?_ _))⟩
end Go.Proofs.YthlabofegjfmfaaDoor
