/- DateValid: the program answers as its model. -/
import Derived.Test.YthlabofegjfmfaaDoorCz
import Derived.Test.YthlabofegjfmfaaDoorFr
namespace Go.Proofs.YthlabofegjfmfaaDoor
open Go.RowKit
set_option linter.unusedVariables false

set_option maxRecDepth 100000 in
set_option maxHeartbeats 1000000 in
theorem walk_FnExactDateValid (z0 : Nat → Int) (a1 : Int) (w : World) (w0 : ∀ j, j < 3 → (Lit.int .i64 (z0 j)).wf = true) (w1 : (Lit.int .i64 a1).wf = true) (T : Tabs w) :
    Calls Tryd.prog 12 #[.agg #[.int .i64 (z0 0), .int .i64 (z0 1), .int .i64 (z0 2)], .int .i64 a1] w fun e w' => e = .returned (.bool true) ∧ Below w.heap.size w w' := by
  clear w0 w1
  generalize z0 0 = y, z0 1 = m, z0 2 = d
  have HT := Lib.hid T
  clear T
  go_enter Tryd.func12, Tryd.ntmps12
  go_wp2_with fail
  refine (toDate_any y m d _).mono ?_
  rintro e w1 ⟨rfl, k1⟩
  have c0 := k1.new 0 rfl
  have c1 := k1.new 1 rfl
  have c2 := k1.new 2 rfl
  go_wp2_with fail
  refine (dv_spec y m d a1 _).mono ?_
  rintro e w2 ⟨rfl, k2⟩
  have d0 := k2.cell c0
  have d1 := k2.cell c1
  have d2 := k2.cell c2
  go_wp2_with fail
  refine (toDate_any y m d _).mono ?_
  rintro e w3 ⟨rfl, k3⟩
  have kk := ((((Keep.refl w).alloc _).trans k1).trans k2).trans k3
  go_wp2_with fail
  refine (dv_impl y m d a1 _ (HT.out.keep kk)).mono ?_
  rintro e w4 ⟨rfl, k4⟩
  go_wp2
  go_ret
  exact ⟨rfl, kk.trans k4⟩
end Go.Proofs.YthlabofegjfmfaaDoor
