/- DayOf: the program answers as its model. -/
import Derived.Test.YthlabofegjfmfaaDoorIu
import Derived.Test.YthlabofegjfmfaaDoorCu
import Derived.Test.YthlabofegjfmfaaDoorCz
import Derived.Test.YthlabofegjfmfaaDoorFr
namespace Go.Proofs.YthlabofegjfmfaaDoor
open Go.RowKit
set_option linter.unusedVariables false

set_option maxRecDepth 100000 in
set_option maxHeartbeats 1000000 in
theorem walk_FnExactDayOf (z0 : Nat → Int) (a1 : Int) (w : World) (w0 : ∀ j, j < 3 → (Lit.int .i64 (z0 j)).wf = true) (w1 : (Lit.int .i64 a1).wf = true) (T : Tabs w) :
    Calls Tryd.prog 13 #[.agg #[.int .i64 (z0 0), .int .i64 (z0 1), .int .i64 (z0 2)], .int .i64 a1] w fun e w' => e = .returned (.bool true) ∧ Below w.heap.size w w' := by
  clear w0 w1
  generalize z0 0 = y, z0 1 = m, z0 2 = d
  have HT := Lib.hid T
  clear T
  go_enter Tryd.func13, Tryd.ntmps13
  go_wp2_with fail
  refine (toDate_any y m d _).mono ?_
  rintro e w1 ⟨rfl, k1⟩
  have c1 : Keep w w1 := Keep.trans (by repeat' (first | with_reducible assumption | with_reducible exact Keep.refl _ | with_reducible refine Keep.setCell ?_ (by omega) _ | with_reducible refine Keep.drew ?_ | with_reducible refine Keep.drewN ?_ _ | with_reducible refine Keep.alloc ?_ _)) k1
  have z1 : w.heap.size ≤ w1.heap.size := c1.size
  have x1_0 : w1.cell? ⟨w.heap.size, 0, none⟩ = some (.int .i64 y) := k1.cell (by first | exact x0_0 | go_simp)
  have x1f0 : w1.frozen? ⟨w.heap.size, 0, none⟩ = false := k1.still (v := .int .i64 y) (by first | exact x0_0 | go_simp) (by first | exact x0f0 | go_simp)
  have x1_1 : w1.cell? ⟨w.heap.size, 1, none⟩ = some (.int .i64 m) := k1.cell (by first | exact x0_1 | go_simp)
  have x1f1 : w1.frozen? ⟨w.heap.size, 1, none⟩ = false := k1.still (v := .int .i64 m) (by first | exact x0_1 | go_simp) (by first | exact x0f1 | go_simp)
  have x1_2 : w1.cell? ⟨w.heap.size, 2, none⟩ = some (.int .i64 d) := k1.cell (by first | exact x0_2 | go_simp)
  have x1f2 : w1.frozen? ⟨w.heap.size, 2, none⟩ = false := k1.still (v := .int .i64 d) (by first | exact x0_2 | go_simp) (by first | exact x0f2 | go_simp)
  have xz1 : w.heap.size < w1.heap.size := World.block_lt_of_cell? w1 _ x1_0
  go_wp2_with fail
  refine (dayof_spec y m d a1 _).mono ?_
  rintro e w2 ⟨rfl, k2⟩
  have c2 : Keep w w2 := Keep.trans (by repeat' (first | with_reducible assumption | with_reducible exact Keep.refl _ | with_reducible refine Keep.setCell ?_ (by omega) _ | with_reducible refine Keep.drew ?_ | with_reducible refine Keep.drewN ?_ _ | with_reducible refine Keep.alloc ?_ _)) k2
  have z2 : w.heap.size ≤ w2.heap.size := c2.size
  have x2_0 : w2.cell? ⟨w.heap.size, 0, none⟩ = some (.int .i64 y) := k2.cell (by first | exact x1_0 | go_simp)
  have x2f0 : w2.frozen? ⟨w.heap.size, 0, none⟩ = false := k2.still (v := .int .i64 y) (by first | exact x1_0 | go_simp) (by first | exact x1f0 | go_simp)
  have x2_1 : w2.cell? ⟨w.heap.size, 1, none⟩ = some (.int .i64 m) := k2.cell (by first | exact x1_1 | go_simp)
  have x2f1 : w2.frozen? ⟨w.heap.size, 1, none⟩ = false := k2.still (v := .int .i64 m) (by first | exact x1_1 | go_simp) (by first | exact x1f1 | go_simp)
  have x2_2 : w2.cell? ⟨w.heap.size, 2, none⟩ = some (.int .i64 d) := k2.cell (by first | exact x1_2 | go_simp)
  have x2f2 : w2.frozen? ⟨w.heap.size, 2, none⟩ = false := k2.still (v := .int .i64 d) (by first | exact x1_2 | go_simp) (by first | exact x1f2 | go_simp)
  have xz2 : w.heap.size < w2.heap.size := World.block_lt_of_cell? w2 _ x2_0
  go_wp2_with fail
  refine (toDate_any y m d _).mono ?_
  rintro e w3 ⟨rfl, k3⟩
  have c3 : Keep w w3 := Keep.trans (by repeat' (first | with_reducible assumption | with_reducible exact Keep.refl _ | with_reducible refine Keep.setCell ?_ (by omega) _ | with_reducible refine Keep.drew ?_ | with_reducible refine Keep.drewN ?_ _ | with_reducible refine Keep.alloc ?_ _)) k3
  have z3 : w.heap.size ≤ w3.heap.size := c3.size
  have x3_0 : w3.cell? ⟨w.heap.size, 0, none⟩ = some (.int .i64 y) := k3.cell (by first | exact x2_0 | go_simp)
  have x3f0 : w3.frozen? ⟨w.heap.size, 0, none⟩ = false := k3.still (v := .int .i64 y) (by first | exact x2_0 | go_simp) (by first | exact x2f0 | go_simp)
  have x3_1 : w3.cell? ⟨w.heap.size, 1, none⟩ = some (.int .i64 m) := k3.cell (by first | exact x2_1 | go_simp)
  have x3f1 : w3.frozen? ⟨w.heap.size, 1, none⟩ = false := k3.still (v := .int .i64 m) (by first | exact x2_1 | go_simp) (by first | exact x2f1 | go_simp)
  have x3_2 : w3.cell? ⟨w.heap.size, 2, none⟩ = some (.int .i64 d) := k3.cell (by first | exact x2_2 | go_simp)
  have x3f2 : w3.frozen? ⟨w.heap.size, 2, none⟩ = false := k3.still (v := .int .i64 d) (by first | exact x2_2 | go_simp) (by first | exact x2f2 | go_simp)
  have xz3 : w.heap.size < w3.heap.size := World.block_lt_of_cell? w3 _ x3_0
  go_wp2_with fail
  refine (dayof_impl y m d a1 _ (HT.out.keep (by repeat' (first | with_reducible assumption | with_reducible exact Keep.refl _ | with_reducible refine Keep.setCell ?_ (by omega) _ | with_reducible refine Keep.drew ?_ | with_reducible refine Keep.drewN ?_ _ | with_reducible refine Keep.alloc ?_ _)))).mono ?_
  rintro e w4 ⟨rfl, k4⟩
  have c4 : Keep w w4 := Keep.trans (by repeat' (first | with_reducible assumption | with_reducible exact Keep.refl _ | with_reducible refine Keep.setCell ?_ (by omega) _ | with_reducible refine Keep.drew ?_ | with_reducible refine Keep.drewN ?_ _ | with_reducible refine Keep.alloc ?_ _)) k4
  have z4 : w.heap.size ≤ w4.heap.size := c4.size
  go_wp2
  go_ret
  exact ⟨rfl, show Keep w _ from (by repeat' (first | with_reducible assumption | with_reducible exact Keep.refl _ | with_reducible refine Keep.setCell ?_ (by omega) _ | with_reducible refine Keep.drew ?_ | with_reducible refine Keep.drewN ?_ _ | with_reducible refine Keep.alloc ?_ _))⟩
end Go.Proofs.YthlabofegjfmfaaDoor
