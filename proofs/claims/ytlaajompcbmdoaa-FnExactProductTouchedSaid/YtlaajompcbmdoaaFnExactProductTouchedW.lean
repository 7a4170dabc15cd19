/- ProductTouched: the program answers as its model. -/
import Derived.Test.YtlaajompcbmdoaaPw
import Derived.Test.YtlaajompcbmdoaaPs
import Derived.Test.YtlaajompcbmdoaaRep
import Derived.Test.YtlaajompcbmdoaaFr
import Derived.Deep.RegionHeld3
import Derived.Outline
namespace Go.Proofs.Ytlaajompcbmdoaa
open Go.RowKit
set_option linter.unusedVariables false

set_option maxHeartbeats 4000000 in
theorem walk_FnExactProductTouched (z0 : Nat → Int) (z1 : Nat → Int) (w : World) (w0 : ∀ j, j < 5 → (Lit.int .i64 (z0 j)).wf = true) (w1 : ∀ j, j < 4 → (Lit.int .i64 (z1 j)).wf = true) :
    Calls Try.prog 4 #[.agg #[.int .i64 (z0 0), .int .i64 (z0 1), .int .i64 (z0 2), .int .i64 (z0 3), .int .i64 (z0 4)], .agg #[.int .i64 (z1 0), .int .i64 (z1 1), .int .i64 (z1 2), .int .i64 (z1 3)]] w fun e w' => e = .returned (.bool true) ∧ Below w.heap.size w w' := by
  clear w0 w1
  generalize z0 0 = s, z0 1 = t, z0 2 = f, z0 3 = n, z0 4 = g, z1 0 = x0, z1 1 = x1, z1 2 = x2, z1 3 = x3
  go_enter Try.func4, Try.ntmps4
  go_wp2_with fail
  obtain ⟨W0, hW0⟩ : ∃ W0, W0 = (w.alloc (.cells #[.int .i64 s, .int .i64 t, .int .i64 f, .int .i64 n, .int .i64 g] 23)).alloc (.cells #[.int .i64 x0, .int .i64 x1, .int .i64 x2, .int .i64 x3] 29) := ⟨_, rfl⟩
  have p0 : W0.cell? ⟨w.heap.size, 0, none⟩ = some (.int .i64 s) := by rw [hW0]; go_simp
  have p1 : W0.cell? ⟨w.heap.size, 1, none⟩ = some (.int .i64 t) := by rw [hW0]; go_simp
  have p2 : W0.cell? ⟨w.heap.size, 2, none⟩ = some (.int .i64 f) := by rw [hW0]; go_simp
  have p3 : W0.cell? ⟨w.heap.size, 3, none⟩ = some (.int .i64 n) := by rw [hW0]; go_simp
  have p4 : W0.cell? ⟨w.heap.size, 4, none⟩ = some (.int .i64 g) := by rw [hW0]; go_simp
  have q0 : W0.cell? ⟨w.heap.size + 1, 0, none⟩ = some (.int .i64 x0) := by rw [hW0]; go_simp
  have q1 : W0.cell? ⟨w.heap.size + 1, 1, none⟩ = some (.int .i64 x1) := by rw [hW0]; go_simp
  have q2 : W0.cell? ⟨w.heap.size + 1, 2, none⟩ = some (.int .i64 x2) := by rw [hW0]; go_simp
  have q3 : W0.cell? ⟨w.heap.size + 1, 3, none⟩ = some (.int .i64 x3) := by rw [hW0]; go_simp
  have K0 : Keep w W0 := by rw [hW0]; exact ((Keep.refl w).alloc _).alloc _
  rw [← hW0]
  clear hW0
  have HSa : ∀ W, Keep W0 W → (W.cell? ⟨w.heap.size, 0, none⟩ = some (.int .i64 s) ∧ W.cell? ⟨w.heap.size, 1, none⟩ = some (.int .i64 t) ∧ W.cell? ⟨w.heap.size, 2, none⟩ = some (.int .i64 f) ∧ W.cell? ⟨w.heap.size, 3, none⟩ = some (.int .i64 n) ∧ W.cell? ⟨w.heap.size, 4, none⟩ = some (.int .i64 g) ∧ W.cell? ⟨w.heap.size + 1, 0, none⟩ = some (.int .i64 x0) ∧ W.cell? ⟨w.heap.size + 1, 1, none⟩ = some (.int .i64 x1) ∧ W.cell? ⟨w.heap.size + 1, 2, none⟩ = some (.int .i64 x2) ∧ W.cell? ⟨w.heap.size + 1, 3, none⟩ = some (.int .i64 x3)) := fun W k => ⟨k.cell p0, k.cell p1, k.cell p2, k.cell p3, k.cell p4, k.cell q0, k.cell q1, k.cell q2, k.cell q3⟩
  go_wp2_with fail
  go_region_held3 (fun w' => w'.cell? ⟨w.heap.size, 0, none⟩ = some (.int .i64 s) ∧ w'.cell? ⟨w.heap.size, 1, none⟩ = some (.int .i64 t) ∧ w'.cell? ⟨w.heap.size, 2, none⟩ = some (.int .i64 f) ∧ w'.cell? ⟨w.heap.size, 3, none⟩ = some (.int .i64 n) ∧ w'.cell? ⟨w.heap.size, 4, none⟩ = some (.int .i64 g) ∧ w'.cell? ⟨w.heap.size + 1, 0, none⟩ = some (.int .i64 x0) ∧ w'.cell? ⟨w.heap.size + 1, 1, none⟩ = some (.int .i64 x1) ∧ w'.cell? ⟨w.heap.size + 1, 2, none⟩ = some (.int .i64 x2) ∧ w'.cell? ⟨w.heap.size + 1, 3, none⟩ = some (.int .i64 x3)) ((first | (go_simp; done) | exact HSa _ (Keep.refl _) | exact HSa _ ((Keep.refl _).drewN 1) | exact HSa _ kk1 | exact HSa _ kk2 | exact HSa _ kk3 | go_keep))
    (first
      | (go_at_call 16; refine (toPro s t f n g _).mono ?_; rintro e w1 ⟨rfl, kk1'⟩; have kk1 : Keep W0 w1 := Keep.trans ((Keep.refl W0).drewN 1) kk1')
      | (go_at_call 19; refine (toRep x0 x1 x2 x3 _).mono ?_; rintro e w2 ⟨rfl, kk2'⟩; have kk2 : Keep W0 w2 := Keep.trans kk1 kk2')
      | (go_at_call 18; refine (pt_spec s t f n g x0 x1 x2 x3 _).mono ?_; rintro e w3 ⟨rfl, kk3'⟩; have kk3 : Keep W0 w3 := Keep.trans kk2 kk3'))
  have K3 := K0.trans kk3
  have p0' := kk3.cell p0
  have p1' := kk3.cell p1
  have p2' := kk3.cell p2
  have p3' := kk3.cell p3
  have p4' := kk3.cell p4
  have q0' := kk3.cell q0
  have q1' := kk3.cell q1
  have q2' := kk3.cell q2
  have q3' := kk3.cell q3
  clear HSa kk1 kk2 kk3 kk1' kk2' kk3' K0
  have HSb : ∀ W, Keep w3 W → (W.cell? ⟨w.heap.size, 0, none⟩ = some (.int .i64 s) ∧ W.cell? ⟨w.heap.size, 1, none⟩ = some (.int .i64 t) ∧ W.cell? ⟨w.heap.size, 2, none⟩ = some (.int .i64 f) ∧ W.cell? ⟨w.heap.size, 3, none⟩ = some (.int .i64 n) ∧ W.cell? ⟨w.heap.size, 4, none⟩ = some (.int .i64 g) ∧ W.cell? ⟨w.heap.size + 1, 0, none⟩ = some (.int .i64 x0) ∧ W.cell? ⟨w.heap.size + 1, 1, none⟩ = some (.int .i64 x1) ∧ W.cell? ⟨w.heap.size + 1, 2, none⟩ = some (.int .i64 x2) ∧ W.cell? ⟨w.heap.size + 1, 3, none⟩ = some (.int .i64 x3)) := fun W k => ⟨k.cell p0', k.cell p1', k.cell p2', k.cell p3', k.cell p4', k.cell q0', k.cell q1', k.cell q2', k.cell q3'⟩
  go_wp2_with fail
  go_region_held3 (fun w' => w'.cell? ⟨w.heap.size, 0, none⟩ = some (.int .i64 s) ∧ w'.cell? ⟨w.heap.size, 1, none⟩ = some (.int .i64 t) ∧ w'.cell? ⟨w.heap.size, 2, none⟩ = some (.int .i64 f) ∧ w'.cell? ⟨w.heap.size, 3, none⟩ = some (.int .i64 n) ∧ w'.cell? ⟨w.heap.size, 4, none⟩ = some (.int .i64 g) ∧ w'.cell? ⟨w.heap.size + 1, 0, none⟩ = some (.int .i64 x0) ∧ w'.cell? ⟨w.heap.size + 1, 1, none⟩ = some (.int .i64 x1) ∧ w'.cell? ⟨w.heap.size + 1, 2, none⟩ = some (.int .i64 x2) ∧ w'.cell? ⟨w.heap.size + 1, 3, none⟩ = some (.int .i64 x3)) ((first | (go_simp; done) | exact HSb _ (Keep.refl _) | exact HSb _ ((Keep.refl _).drewN 1) | exact HSb _ kk4 | exact HSb _ kk5 | exact HSb _ kk6 | go_keep))
    (first
      | (go_at_call 16; refine (toPro s t f n g _).mono ?_; rintro e w4 ⟨rfl, kk4'⟩; have kk4 : Keep w3 w4 := Keep.trans ((Keep.refl w3).drewN 1) kk4')
      | (go_at_call 19; refine (toRep x0 x1 x2 x3 _).mono ?_; rintro e w5 ⟨rfl, kk5'⟩; have kk5 : Keep w3 w5 := Keep.trans kk4 kk5')
      | (go_at_call 20; refine (pt_impl s t f n g x0 x1 x2 x3 _).mono ?_; rintro e w6 ⟨rfl, kk6'⟩; have kk6 : Keep w3 w6 := Keep.trans kk5 kk6'))
  go_wp2
  go_ret
  exact ⟨rfl, K3.trans kk6⟩
end Go.Proofs.Ytlaajompcbmdoaa
