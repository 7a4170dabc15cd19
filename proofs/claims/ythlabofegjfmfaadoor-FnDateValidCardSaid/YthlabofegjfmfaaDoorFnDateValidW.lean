/- P21: a month ends. -/
import Derived.Test.YthlabofegjfmfaaDoorDrCb
import Derived.Test.YthlabofegjfmfaaDoorCv
import Derived.Test.YthlabofegjfmfaaDoorCw
namespace Go.Proofs.YthlabofegjfmfaaDoor
open Go.RowKit
set_option linter.unusedVariables false

theorem date_ends (y m d c : Int) (h : dv y m d c = true) : dv y m 1 c = true ∧ dv y m 32 c = false ∧ dv y m 0 c = false := by
  obtain ⟨hc, y1, y2, m1, m2, d1, d2⟩ := dv_facts h
  have b := mlen_bd y m c m1 m2
  refine ⟨dv_mk ⟨hc, y1, y2, m1, m2, by omega, by omega⟩, ?_, ?_⟩
  · simp [dv, inB]; omega
  · simp [dv, inB]

set_option maxRecDepth 100000 in
set_option maxHeartbeats 3200000 in
theorem walk_FnDateValid (a0 : Option Addr) (len0 cap0 : Nat) (z0 : List Int) (w : World) (w0 : IsRow .u8 w a0 len0 cap0 z0) (T : Tabs w) :
    Calls Tryd.prog 8 #[.slice a0 len0 cap0] w fun e w' => e = .returned (.bool true) ∧ Below w.heap.size w w' := by
  have ha := code_of_row w0
  obtain ⟨hl, hm⟩ := ha.1
  unfold maxLen at hm
  clear w0
  by_cases h : len0 ≤ 1048576
  case' neg =>
    have hd : decide (1048576 < (len0 : Int)) = true := by simp; omega
    go_enter Tryd.func8, Tryd.ntmps8
    go_wp2
    go_ret
    exact ⟨rfl, Below.refl _ _⟩
  have hd : decide (1048576 < (len0 : Int)) = false := by simp; omega
  go_enter Tryd.func8, Tryd.ntmps8
  have HT := Lib.hid T
  clear T
  go_wp2_with fail
  refine (drawDateValid a0 len0 cap0 _ ha).mono ?_
  rintro e w1 ⟨y, m, d, c, rfl, hy, hm, hd, hc, k1⟩
  have c1 : Keep w w1 := Keep.trans (by repeat' (first | with_reducible assumption | with_reducible exact Keep.refl _ | with_reducible refine Keep.setCell ?_ (by omega) _ | with_reducible refine Keep.drew ?_ | with_reducible refine Keep.drewN ?_ _ | with_reducible refine Keep.alloc ?_ _)) k1
  have z1 : w.heap.size ≤ w1.heap.size := c1.size
  have F := date_ends y m d c
  clear hy hm hd hc
  go_wp2_with fail
  refine (dv_impl y m d c _ (HT.out.keep (by repeat' (first | with_reducible assumption | with_reducible exact Keep.refl _ | with_reducible refine Keep.setCell ?_ (by omega) _ | with_reducible refine Keep.drew ?_ | with_reducible refine Keep.drewN ?_ _ | with_reducible refine Keep.alloc ?_ _)))).mono ?_
  rintro e w2 ⟨rfl, k2⟩
  have c2 : Keep w w2 := Keep.trans (by repeat' (first | with_reducible assumption | with_reducible exact Keep.refl _ | with_reducible refine Keep.setCell ?_ (by omega) _ | with_reducible refine Keep.drew ?_ | with_reducible refine Keep.drewN ?_ _ | with_reducible refine Keep.alloc ?_ _)) k2
  have z2 : w.heap.size ≤ w2.heap.size := c2.size
  have x2_0 : w2.cell? ⟨w1.heap.size, 0, none⟩ = some (.int .i64 y) := k2.cell (by first | exact x1_0 | go_simp)
  have x2f0 : w2.frozen? ⟨w1.heap.size, 0, none⟩ = false := k2.still (v := .int .i64 y) (by first | exact x1_0 | go_simp) (by first | exact x1f0 | go_simp)
  have x2_1 : w2.cell? ⟨w1.heap.size, 1, none⟩ = some (.int .i64 m) := k2.cell (by first | exact x1_1 | go_simp)
  have x2f1 : w2.frozen? ⟨w1.heap.size, 1, none⟩ = false := k2.still (v := .int .i64 m) (by first | exact x1_1 | go_simp) (by first | exact x1f1 | go_simp)
  have x2_2 : w2.cell? ⟨w1.heap.size, 2, none⟩ = some (.int .i64 d) := k2.cell (by first | exact x1_2 | go_simp)
  have x2f2 : w2.frozen? ⟨w1.heap.size, 2, none⟩ = false := k2.still (v := .int .i64 d) (by first | exact x1_2 | go_simp) (by first | exact x1f2 | go_simp)
  have xz2 : w1.heap.size < w2.heap.size := World.block_lt_of_cell? w2 _ x2_0
  go_wp2_with fail
  refine (dv_spec y m d c _).mono ?_
  rintro e w3 ⟨rfl, k3⟩
  have c3 : Keep w w3 := Keep.trans (by repeat' (first | with_reducible assumption | with_reducible exact Keep.refl _ | with_reducible refine Keep.setCell ?_ (by omega) _ | with_reducible refine Keep.drew ?_ | with_reducible refine Keep.drewN ?_ _ | with_reducible refine Keep.alloc ?_ _)) k3
  have z3 : w.heap.size ≤ w3.heap.size := c3.size
  have x3_0 : w3.cell? ⟨w1.heap.size, 0, none⟩ = some (.int .i64 y) := k3.cell (by first | exact x2_0 | go_simp)
  have x3f0 : w3.frozen? ⟨w1.heap.size, 0, none⟩ = false := k3.still (v := .int .i64 y) (by first | exact x2_0 | go_simp) (by first | exact x2f0 | go_simp)
  have x3_1 : w3.cell? ⟨w1.heap.size, 1, none⟩ = some (.int .i64 m) := k3.cell (by first | exact x2_1 | go_simp)
  have x3f1 : w3.frozen? ⟨w1.heap.size, 1, none⟩ = false := k3.still (v := .int .i64 m) (by first | exact x2_1 | go_simp) (by first | exact x2f1 | go_simp)
  have x3_2 : w3.cell? ⟨w1.heap.size, 2, none⟩ = some (.int .i64 d) := k3.cell (by first | exact x2_2 | go_simp)
  have x3f2 : w3.frozen? ⟨w1.heap.size, 2, none⟩ = false := k3.still (v := .int .i64 d) (by first | exact x2_2 | go_simp) (by first | exact x2f2 | go_simp)
  have xz3 : w1.heap.size < w3.heap.size := World.block_lt_of_cell? w3 _ x3_0
  cases hv : dv y m d c
  case false =>
    go_wp2
    go_ret
    exact ⟨rfl, show Keep w _ from (by repeat' (first | with_reducible assumption | with_reducible exact Keep.refl _ | with_reducible refine Keep.setCell ?_ (by omega) _ | with_reducible refine Keep.drew ?_ | with_reducible refine Keep.drewN ?_ _ | with_reducible refine Keep.alloc ?_ _))⟩
  case true =>
    obtain ⟨E1, E2, E3⟩ := F hv
    clear F hv
    go_wp2_with fail
    refine (dv_impl y m 1 c _ (HT.out.keep (by repeat' (first | with_reducible assumption | with_reducible exact Keep.refl _ | with_reducible refine Keep.setCell ?_ (by omega) _ | with_reducible refine Keep.drew ?_ | with_reducible refine Keep.drewN ?_ _ | with_reducible refine Keep.alloc ?_ _)))).mono ?_
    rintro e w4 ⟨rfl, k4⟩
    have c4 : Keep w w4 := Keep.trans (by repeat' (first | with_reducible assumption | with_reducible exact Keep.refl _ | with_reducible refine Keep.setCell ?_ (by omega) _ | with_reducible refine Keep.drew ?_ | with_reducible refine Keep.drewN ?_ _ | with_reducible refine Keep.alloc ?_ _)) k4
    have z4 : w.heap.size ≤ w4.heap.size := c4.size
    have a4_0 : w4.cell? ⟨w3.heap.size, 0, none⟩ = some (.int .i64 y) := k4.cell (by first | exact a3_0 | go_simp)
    have a4f0 : w4.frozen? ⟨w3.heap.size, 0, none⟩ = false := k4.still (v := .int .i64 y) (by first | exact a3_0 | go_simp) (by first | exact a3f0 | go_simp)
    have a4_1 : w4.cell? ⟨w3.heap.size, 1, none⟩ = some (.int .i64 m) := k4.cell (by first | exact a3_1 | go_simp)
    have a4f1 : w4.frozen? ⟨w3.heap.size, 1, none⟩ = false := k4.still (v := .int .i64 m) (by first | exact a3_1 | go_simp) (by first | exact a3f1 | go_simp)
    have a4_2 : w4.cell? ⟨w3.heap.size, 2, none⟩ = some (.int .i64 1) := k4.cell (by first | exact a3_2 | go_simp)
    have a4f2 : w4.frozen? ⟨w3.heap.size, 2, none⟩ = false := k4.still (v := .int .i64 1) (by first | exact a3_2 | go_simp) (by first | exact a3f2 | go_simp)
    have az4 : w3.heap.size < w4.heap.size := World.block_lt_of_cell? w4 _ a4_0
    have b4_0 : w4.cell? ⟨w3.heap.size + 1, 0, none⟩ = some (.int .i64 y) := k4.cell (by first | exact b3_0 | go_simp)
    have b4f0 : w4.frozen? ⟨w3.heap.size + 1, 0, none⟩ = false := k4.still (v := .int .i64 y) (by first | exact b3_0 | go_simp) (by first | exact b3f0 | go_simp)
    have b4_1 : w4.cell? ⟨w3.heap.size + 1, 1, none⟩ = some (.int .i64 m) := k4.cell (by first | exact b3_1 | go_simp)
    have b4f1 : w4.frozen? ⟨w3.heap.size + 1, 1, none⟩ = false := k4.still (v := .int .i64 m) (by first | exact b3_1 | go_simp) (by first | exact b3f1 | go_simp)
    have b4_2 : w4.cell? ⟨w3.heap.size + 1, 2, none⟩ = some (.int .i64 32) := k4.cell (by first | exact b3_2 | go_simp)
    have b4f2 : w4.frozen? ⟨w3.heap.size + 1, 2, none⟩ = false := k4.still (v := .int .i64 32) (by first | exact b3_2 | go_simp) (by first | exact b3f2 | go_simp)
    have bz4 : w3.heap.size + 1 < w4.heap.size := World.block_lt_of_cell? w4 _ b4_0
    have c4_0 : w4.cell? ⟨w3.heap.size + 2, 0, none⟩ = some (.int .i64 y) := k4.cell (by first | exact c3_0 | go_simp)
    have c4f0 : w4.frozen? ⟨w3.heap.size + 2, 0, none⟩ = false := k4.still (v := .int .i64 y) (by first | exact c3_0 | go_simp) (by first | exact c3f0 | go_simp)
    have c4_1 : w4.cell? ⟨w3.heap.size + 2, 1, none⟩ = some (.int .i64 m) := k4.cell (by first | exact c3_1 | go_simp)
    have c4f1 : w4.frozen? ⟨w3.heap.size + 2, 1, none⟩ = false := k4.still (v := .int .i64 m) (by first | exact c3_1 | go_simp) (by first | exact c3f1 | go_simp)
    have c4_2 : w4.cell? ⟨w3.heap.size + 2, 2, none⟩ = some (.int .i64 0) := k4.cell (by first | exact c3_2 | go_simp)
    have c4f2 : w4.frozen? ⟨w3.heap.size + 2, 2, none⟩ = false := k4.still (v := .int .i64 0) (by first | exact c3_2 | go_simp) (by first | exact c3f2 | go_simp)
    have cz4 : w3.heap.size + 2 < w4.heap.size := World.block_lt_of_cell? w4 _ c4_0
    go_wp2_with fail
    refine (dv_impl y m 32 c _ (HT.out.keep (by repeat' (first | with_reducible assumption | with_reducible exact Keep.refl _ | with_reducible refine Keep.setCell ?_ (by omega) _ | with_reducible refine Keep.drew ?_ | with_reducible refine Keep.drewN ?_ _ | with_reducible refine Keep.alloc ?_ _)))).mono ?_
    rintro e w5 ⟨rfl, k5⟩
    have c5 : Keep w w5 := Keep.trans (by repeat' (first | with_reducible assumption | with_reducible exact Keep.refl _ | with_reducible refine Keep.setCell ?_ (by omega) _ | with_reducible refine Keep.drew ?_ | with_reducible refine Keep.drewN ?_ _ | with_reducible refine Keep.alloc ?_ _)) k5
    have z5 : w.heap.size ≤ w5.heap.size := c5.size
    have b5_0 : w5.cell? ⟨w3.heap.size + 1, 0, none⟩ = some (.int .i64 y) := k5.cell (by first | exact b4_0 | go_simp)
    have b5f0 : w5.frozen? ⟨w3.heap.size + 1, 0, none⟩ = false := k5.still (v := .int .i64 y) (by first | exact b4_0 | go_simp) (by first | exact b4f0 | go_simp)
    have b5_1 : w5.cell? ⟨w3.heap.size + 1, 1, none⟩ = some (.int .i64 m) := k5.cell (by first | exact b4_1 | go_simp)
    have b5f1 : w5.frozen? ⟨w3.heap.size + 1, 1, none⟩ = false := k5.still (v := .int .i64 m) (by first | exact b4_1 | go_simp) (by first | exact b4f1 | go_simp)
    have b5_2 : w5.cell? ⟨w3.heap.size + 1, 2, none⟩ = some (.int .i64 32) := k5.cell (by first | exact b4_2 | go_simp)
    have b5f2 : w5.frozen? ⟨w3.heap.size + 1, 2, none⟩ = false := k5.still (v := .int .i64 32) (by first | exact b4_2 | go_simp) (by first | exact b4f2 | go_simp)
    have bz5 : w3.heap.size + 1 < w5.heap.size := World.block_lt_of_cell? w5 _ b5_0
    have c5_0 : w5.cell? ⟨w3.heap.size + 2, 0, none⟩ = some (.int .i64 y) := k5.cell (by first | exact c4_0 | go_simp)
    have c5f0 : w5.frozen? ⟨w3.heap.size + 2, 0, none⟩ = false := k5.still (v := .int .i64 y) (by first | exact c4_0 | go_simp) (by first | exact c4f0 | go_simp)
    have c5_1 : w5.cell? ⟨w3.heap.size + 2, 1, none⟩ = some (.int .i64 m) := k5.cell (by first | exact c4_1 | go_simp)
    have c5f1 : w5.frozen? ⟨w3.heap.size + 2, 1, none⟩ = false := k5.still (v := .int .i64 m) (by first | exact c4_1 | go_simp) (by first | exact c4f1 | go_simp)
    have c5_2 : w5.cell? ⟨w3.heap.size + 2, 2, none⟩ = some (.int .i64 0) := k5.cell (by first | exact c4_2 | go_simp)
    have c5f2 : w5.frozen? ⟨w3.heap.size + 2, 2, none⟩ = false := k5.still (v := .int .i64 0) (by first | exact c4_2 | go_simp) (by first | exact c4f2 | go_simp)
    have cz5 : w3.heap.size + 2 < w5.heap.size := World.block_lt_of_cell? w5 _ c5_0
    go_wp2_with fail
    refine (dv_impl y m 0 c _ (HT.out.keep (by repeat' (first | with_reducible assumption | with_reducible exact Keep.refl _ | with_reducible refine Keep.setCell ?_ (by omega) _ | with_reducible refine Keep.drew ?_ | with_reducible refine Keep.drewN ?_ _ | with_reducible refine Keep.alloc ?_ _)))).mono ?_
    rintro e w6 ⟨rfl, k6⟩
    have c6 : Keep w w6 := Keep.trans (by repeat' (first | with_reducible assumption | with_reducible exact Keep.refl _ | with_reducible refine Keep.setCell ?_ (by omega) _ | with_reducible refine Keep.drew ?_ | with_reducible refine Keep.drewN ?_ _ | with_reducible refine Keep.alloc ?_ _)) k6
    have z6 : w.heap.size ≤ w6.heap.size := c6.size
    have c6_0 : w6.cell? ⟨w3.heap.size + 2, 0, none⟩ = some (.int .i64 y) := k6.cell (by first | exact c5_0 | go_simp)
    have c6f0 : w6.frozen? ⟨w3.heap.size + 2, 0, none⟩ = false := k6.still (v := .int .i64 y) (by first | exact c5_0 | go_simp) (by first | exact c5f0 | go_simp)
    have c6_1 : w6.cell? ⟨w3.heap.size + 2, 1, none⟩ = some (.int .i64 m) := k6.cell (by first | exact c5_1 | go_simp)
    have c6f1 : w6.frozen? ⟨w3.heap.size + 2, 1, none⟩ = false := k6.still (v := .int .i64 m) (by first | exact c5_1 | go_simp) (by first | exact c5f1 | go_simp)
    have c6_2 : w6.cell? ⟨w3.heap.size + 2, 2, none⟩ = some (.int .i64 0) := k6.cell (by first | exact c5_2 | go_simp)
    have c6f2 : w6.frozen? ⟨w3.heap.size + 2, 2, none⟩ = false := k6.still (v := .int .i64 0) (by first | exact c5_2 | go_simp) (by first | exact c5f2 | go_simp)
    have cz6 : w3.heap.size + 2 < w6.heap.size := World.block_lt_of_cell? w6 _ c6_0
    go_wp2
    go_ret
    exact ⟨rfl, show Keep w _ from (by repeat' (first | with_reducible assumption | with_reducible exact Keep.refl _ | with_reducible refine Keep.setCell ?_ (by omega) _ | with_reducible refine Keep.drew ?_ | with_reducible refine Keep.drewN ?_ _ | with_reducible refine Keep.alloc ?_ _))⟩
end Go.Proofs.YthlabofegjfmfaaDoor
