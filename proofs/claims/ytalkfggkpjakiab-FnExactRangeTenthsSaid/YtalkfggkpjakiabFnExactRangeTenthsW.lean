/- The walk of the law on the tenths of a range: the program and its model answer the same range. -/
import Derived.Test.YtalkfggkpjakiabRt
namespace Go.Proofs.Ytalkfggkpjakiab
open Go.RowKit
set_option linter.unusedVariables false

set_option maxHeartbeats 1000000 in
theorem walk_FnExactRangeTenths (z0 : Nat → Int) (w : World) (w0 : ∀ j, j < 2 → (Lit.int .i64 (z0 j)).wf = true) :
    Calls Try.prog 13 #[.agg #[.int .i64 (z0 0), .int .i64 (z0 1)]] w fun e w' => e = .returned (.bool true) ∧ Below w.heap.size w w' := by
  clear w0
  generalize z0 0 = a, z0 1 = b
  go_enter Try.func13, Try.ntmps13
  go_wp2_with fail
  refine (toRg a b _).mono ?_
  rintro e w1 ⟨rfl, k1⟩
  have p1_0 : w1.cell? ⟨w.heap.size, 0, none⟩ = some (.int .i64 a) := k1.cell (by first | go_simp)
  have p1_1 : w1.cell? ⟨w.heap.size, 1, none⟩ = some (.int .i64 b) := k1.cell (by first | go_simp)
  go_wp2_with fail
  refine (rt_spec a b _).mono ?_
  rintro e w2 ⟨rfl, k2⟩
  have p2_0 : w2.cell? ⟨w.heap.size, 0, none⟩ = some (.int .i64 a) := k2.cell (by first | exact p1_0 | go_simp)
  have p2_1 : w2.cell? ⟨w.heap.size, 1, none⟩ = some (.int .i64 b) := k2.cell (by first | exact p1_1 | go_simp)
  have hz : w.heap.size < w2.heap.size := World.block_lt_of_cell? w2 _ p2_0
  go_wp2_with fail
  refine (toRg a b _).mono ?_
  rintro e w3 ⟨rfl, k3⟩
  have p3_0 : w3.cell? ⟨w.heap.size, 0, none⟩ = some (.int .i64 a) := k3.cell (by first | exact p2_0 | go_simp)
  have p3_1 : w3.cell? ⟨w.heap.size, 1, none⟩ = some (.int .i64 b) := k3.cell (by first | exact p2_1 | go_simp)
  have x3_0 : w3.cell? ⟨w2.heap.size, 0, none⟩ = some (.int .i64 (tLo a b)) := k3.cell (by first | go_simp)
  have x3_1 : w3.cell? ⟨w2.heap.size, 1, none⟩ = some (.int .i64 (tHi a b)) := k3.cell (by first | go_simp)
  go_wp2_with fail
  refine (rt_impl a b _).mono ?_
  rintro e w4 ⟨rfl, k4⟩
  have p4_0 : w4.cell? ⟨w.heap.size, 0, none⟩ = some (.int .i64 a) := k4.cell (by first | exact p3_0 | go_simp)
  have p4_1 : w4.cell? ⟨w.heap.size, 1, none⟩ = some (.int .i64 b) := k4.cell (by first | exact p3_1 | go_simp)
  have x4_0 : w4.cell? ⟨w2.heap.size, 0, none⟩ = some (.int .i64 (tLo a b)) := k4.cell (by first | exact x3_0 | go_simp)
  have x4_1 : w4.cell? ⟨w2.heap.size, 1, none⟩ = some (.int .i64 (tHi a b)) := k4.cell (by first | exact x3_1 | go_simp)
  have hz4 : w2.heap.size < w4.heap.size := World.block_lt_of_cell? w4 _ x4_0
  go_wp2_with fail
  refine (eqRg (tLo a b) (tHi a b) _).mono ?_
  rintro e w5 ⟨rfl, k5⟩
  go_wp2
  go_ret
  exact ⟨rfl, ((((((((Keep.refl _).alloc _).trans k1).trans k2).alloc _).trans k3).trans k4).alloc _).trans k5⟩
end Go.Proofs.Ytalkfggkpjakiab
