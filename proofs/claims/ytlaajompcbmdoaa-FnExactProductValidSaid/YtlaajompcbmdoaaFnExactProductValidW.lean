/- ProductValid: the program answers as its model. -/
import Derived.Test.YtlaajompcbmdoaaPw
import Derived.Test.YtlaajompcbmdoaaPs
import Derived.Test.YtlaajompcbmdoaaFr
namespace Go.Proofs.Ytlaajompcbmdoaa
open Go.RowKit
set_option linter.unusedVariables false

set_option maxHeartbeats 1000000 in
theorem walk_FnExactProductValid (z0 : Nat → Int) (w : World) (w0 : ∀ j, j < 5 → (Lit.int .i64 (z0 j)).wf = true) :
    Calls Try.prog 3 #[.agg #[.int .i64 (z0 0), .int .i64 (z0 1), .int .i64 (z0 2), .int .i64 (z0 3), .int .i64 (z0 4)]] w fun e w' => e = .returned (.bool true) ∧ Below w.heap.size w w' := by
  clear w0
  generalize z0 0 = s, z0 1 = t, z0 2 = f, z0 3 = n, z0 4 = g
  go_enter Try.func3, Try.ntmps3
  go_wp2_with fail
  refine (toPro s t f n g _).mono ?_
  rintro e w1 ⟨rfl, k1'⟩
  have k1 : Keep _ w1 := k1'
  have p0 := k1.cell (b := w.heap.size) (o := 0) (v := .int .i64 s) (by go_simp)
  have p1 := k1.cell (b := w.heap.size) (o := 1) (v := .int .i64 t) (by go_simp)
  have p2 := k1.cell (b := w.heap.size) (o := 2) (v := .int .i64 f) (by go_simp)
  have p3 := k1.cell (b := w.heap.size) (o := 3) (v := .int .i64 n) (by go_simp)
  have p4 := k1.cell (b := w.heap.size) (o := 4) (v := .int .i64 g) (by go_simp)
  have K1 : Keep w w1 := ((Keep.refl w).alloc _).trans k1
  go_wp2_with fail
  refine (prv_spec s t f n g _).mono ?_
  rintro e w2 ⟨rfl, k2⟩
  replace p0 := k2.cell p0
  replace p1 := k2.cell p1
  replace p2 := k2.cell p2
  replace p3 := k2.cell p3
  replace p4 := k2.cell p4
  go_wp2_with fail
  refine (toPro s t f n g _).mono ?_
  rintro e w3 ⟨rfl, k3'⟩
  have k3 : Keep w2 w3 := k3'
  go_wp2_with fail
  refine (prv_impl s t f n g _).mono ?_
  rintro e w4 ⟨rfl, k4⟩
  go_wp2
  go_ret
  exact ⟨rfl, ((K1.trans k2).trans k3).trans k4⟩
end Go.Proofs.Ytlaajompcbmdoaa
