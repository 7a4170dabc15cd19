/- SumMean: the program answers as its model. -/
import Derived.Test.YtdccpdclpidnbaaSmn
import Derived.Test.YtdccpdclpidnbaaFr
namespace Go.Proofs.Ytdccpdclpidnbaa
open Go.RowKit
set_option linter.unusedVariables false

set_option maxHeartbeats 1000000 in
theorem walk_FnExactSumMean (z0 : Nat → Int) (w : World) (w0 : ∀ j, j < 2 → (Lit.int .i64 (z0 j)).wf = true) :
    Calls Try.prog 17 #[.agg #[.int .i64 (z0 0), .int .i64 (z0 1)]] w fun e w' => e = .returned (.bool true) ∧ Below w.heap.size w w' := by
  clear w0
  generalize z0 0 = a, z0 1 = b
  go_enter Try.func17, Try.ntmps17
  go_wp2_with fail
  refine (toSm a b _).mono ?_
  rintro e w1 ⟨rfl, k1⟩
  have p1_0 : w1.cell? ⟨w.heap.size, 0, none⟩ = some (.int .i64 a) := k1.cell (by first | go_simp)
  have p1_1 : w1.cell? ⟨w.heap.size, 1, none⟩ = some (.int .i64 b) := k1.cell (by first | go_simp)
  go_wp2_with fail
  refine (smn_spec a b _).mono ?_
  rintro e w2 ⟨rfl, k2⟩
  have p2_0 : w2.cell? ⟨w.heap.size, 0, none⟩ = some (.int .i64 a) := k2.cell (by first | exact p1_0 | go_simp)
  have p2_1 : w2.cell? ⟨w.heap.size, 1, none⟩ = some (.int .i64 b) := k2.cell (by first | exact p1_1 | go_simp)
  go_wp2_with fail
  refine (toSm a b _).mono ?_
  rintro e w3 ⟨rfl, k3⟩
  have p3_0 : w3.cell? ⟨w.heap.size, 0, none⟩ = some (.int .i64 a) := k3.cell (by first | exact p2_0 | go_simp)
  have p3_1 : w3.cell? ⟨w.heap.size, 1, none⟩ = some (.int .i64 b) := k3.cell (by first | exact p2_1 | go_simp)
  go_wp2_with fail
  refine (smn_impl a b _).mono ?_
  rintro e w4 ⟨rfl, k4⟩
  generalize ro a b = v
  generalize roOk a b = u
  go_wp2
  go_ret
  exact ⟨rfl, (((((Keep.refl _).alloc _).trans k1).trans k2).trans k3).trans k4⟩
end Go.Proofs.Ytdccpdclpidnbaa
