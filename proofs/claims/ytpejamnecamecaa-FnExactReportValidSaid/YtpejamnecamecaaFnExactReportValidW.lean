/- The walk of the law on valid reports: both functions answer alike. -/
import Derived.Test.YtpejamnecamecaaRv
import Derived.Test.YtpejamnecamecaaRep
namespace Go.Proofs.Ytpejamnecamecaa
open Go.RowKit
set_option linter.unusedVariables false

set_option maxHeartbeats 400000 in
theorem walk_FnExactReportValid (z0 : Nat → Int) (w : World) (w0 : ∀ j, j < 4 → (Lit.int .i64 (z0 j)).wf = true) :
    Calls Try.prog 6 #[.agg #[.int .i64 (z0 0), .int .i64 (z0 1), .int .i64 (z0 2), .int .i64 (z0 3)]] w fun e w' => e = .returned (.bool true) ∧ Below w.heap.size w w' := by
  generalize z0 0 = s, z0 1 = d, z0 2 = k, z0 3 = v
  go_enter Try.func6, Try.ntmps6
  go_wp2_with fail
  refine (toRep s d k v _).mono ?_
  rintro e w1 ⟨rfl, hb1⟩
  have hz1 : w.heap.size < w1.heap.size := by have := hb1.size; simp at this; omega
  go_wp2_with fail
  refine (rv_spec s d k v _).mono ?_
  rintro e w2 ⟨rfl, hb2⟩
  have hz2 := hb2.size
  have hb12 := hb1.trans (hb2.mono (by simp; omega))
  have c0 := newCell hb12 (by simp) 0 _ rfl
  have c1 := newCell hb12 (by simp) 1 _ rfl
  have c2 := newCell hb12 (by simp) 2 _ rfl
  have c3 := newCell hb12 (by simp) 3 _ rfl
  go_wp2_with fail
  refine (toRep s d k v _).mono ?_
  rintro e w3 ⟨rfl, hb3⟩
  go_wp2_with fail
  refine (rv_impl s d k v _).mono ?_
  rintro e w4 ⟨rfl, hb4⟩
  go_wp2
  go_ret
  exact ⟨rfl, (((Below.refl _ _).alloc (Nat.le_refl _) _).trans (hb12.mono (by simp))).trans ((hb3.mono (by omega)).trans (hb4.mono (by have := hb3.size; omega)))⟩
end Go.Proofs.Ytpejamnecamecaa
