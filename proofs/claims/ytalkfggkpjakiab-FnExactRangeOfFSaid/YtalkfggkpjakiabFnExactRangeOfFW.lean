/- The walk of the law: the program and its model answer the same range. -/
import Derived.Test.YtalkfggkpjakiabRg
import Derived.Test.YtalkfggkpjakiabRt
namespace Go.Proofs.Ytalkfggkpjakiab
open Go.RowKit
set_option linter.unusedVariables false

set_option maxHeartbeats 1000000 in
theorem walk_FnExactRangeOfF (t : Int) (w : World) (wf : (Lit.int .i64 t).wf = true) :
    Calls Try.prog 10 #[.int .i64 t] w fun e w' => e = .returned (.bool true) ∧ Below w.heap.size w w' := by
  clear wf
  go_enter Try.func10, Try.ntmps10
  go_wp2_with fail
  refine (of_spec t _).mono ?_
  rintro e w1 ⟨rfl, k1⟩
  go_wp2_with fail
  refine (of_impl t _).mono ?_
  rintro e w2 ⟨rfl, k2⟩
  have x2_0 : w2.cell? ⟨w1.heap.size, 0, none⟩ = some (.int .i64 (fLo t)) := k2.cell (by first | go_simp)
  have x2_1 : w2.cell? ⟨w1.heap.size, 1, none⟩ = some (.int .i64 (fHi t)) := k2.cell (by first | go_simp)
  have hz : w1.heap.size < w2.heap.size := World.block_lt_of_cell? w2 _ x2_0
  go_wp2_with fail
  refine (eqRg (fLo t) (fHi t) _).mono ?_
  rintro e w3 ⟨rfl, k3⟩
  go_wp2
  go_ret
  exact ⟨rfl, (((k1.alloc _).trans k2).alloc _).trans k3⟩
end Go.Proofs.Ytalkfggkpjakiab
