/- P144: a report of a day of a product touches it. -/
import Derived.Test.YtlaajompcbmdoaaDrPt
import Derived.Test.YtlaajompcbmdoaaPw
import Derived.Test.YtlaajompcbmdoaaFr
import Derived.Deep.RegionHeld3
import Derived.Outline
namespace Go.Proofs.Ytlaajompcbmdoaa
open Go.RowKit
set_option linter.unusedVariables false

theorem at4_new (w : World) (x0 x1 x2 x3 : Int) (T : TypeId) : At4 (w.alloc (.cells #[.int .i64 x0, .int .i64 x1, .int .i64 x2, .int .i64 x3] T)) w.heap.size 0 (x0, x1, x2, x3) :=
  ⟨World.cell?_alloc_new w _ _ 0, World.cell?_alloc_new w _ _ 1, World.cell?_alloc_new w _ _ 2, World.cell?_alloc_new w _ _ 3⟩
theorem pv_lit (m s t f n g : Int) (r : R4) (G : Nat) (W : World) (h : At4 W G 0 r) :
    Calls Try.prog 24 #[.slice (some ⟨G, 0, none⟩) 1 1, .int .i64 m, .agg #[.int .i64 s, .int .i64 t, .int .i64 f, .int .i64 n, .int .i64 g]] W fun e w' => e = .returned (.int .i64 (pvV [r] m s t f n g)) ∧ Keep W w' :=
  pvv_impl (some ⟨G, 0, none⟩) 1 [r] m s t f n g W (.inr ⟨G, 0, rfl, World.block_lt_of_cell? W _ h.s, fun i hi => by
    obtain rfl : i = 0 := by simpa using hi
    exact h⟩) (by simp) (by simp)

set_option maxRecDepth 100000 in
set_option maxHeartbeats 6400000 in
theorem walk_FnTouchedOwn (a0 : Option Addr) (len0 cap0 : Nat) (z0 : List Int) (w : World) (w0 : IsRow .u8 w a0 len0 cap0 z0) :
    Calls Try.prog 11 #[.slice a0 len0 cap0] w fun e w' => e = .returned (.bool true) ∧ Below w.heap.size w w' := by
  have ha := code_of_row w0
  obtain ⟨hl0, hm0⟩ := ha.1
  unfold maxLen at hm0
  clear w0
  by_cases h : len0 ≤ 1048576
  case' neg =>
    have hd : decide (1048576 < (len0 : Int)) = true := by simp; omega
    go_enter Try.func11, Try.ntmps11
    go_wp2
    go_ret
    exact ⟨rfl, Below.refl _ _⟩
  have hd : decide (1048576 < (len0 : Int)) = false := by simp; omega
  go_enter Try.func11, Try.ntmps11
  go_wp2_with fail
  refine (drawProductTouched a0 len0 cap0 _ ha).mono ?_
  rintro e w1 ⟨s, t, f, n, g, x0, x1, x2, x3, rfl, k1⟩
  clear ha
  have HI := Lib.hid (fun W => pt_impl s t f n g x0 x1 x2 x3 W)
  have HS := Lib.hid (fun W => pt_spec s t f n g x0 x1 x2 x3 W)
  have HO := Lib.hid (fun (h : ptB s t f n g (x0, x1, x2, x3) = true) => (show pvV [(x0, x1, x2, x3)] 1 s t f n n = x3 from pt_own h))
  have HF := Lib.hid (fun (h : ptB s t f n g (x0, x1, x2, x3) = true) => (ptB_facts h))
  have HV := Lib.hid (fun W G h => pv_lit 1 s t f n n (x0, x1, x2, x3) G W h)
  generalize hB : ptB s t f n g (x0, x1, x2, x3) = B at HI HS HO HF
  go_wp2_with fail
  refine (HI.out _).mono ?_
  rintro e w2 ⟨rfl, k2⟩
  have p0 := k2.cell (b := w1.heap.size) (o := 0) (v := .int .i64 s) (by go_simp)
  have p1 := k2.cell (b := w1.heap.size) (o := 1) (v := .int .i64 t) (by go_simp)
  have p2 := k2.cell (b := w1.heap.size) (o := 2) (v := .int .i64 f) (by go_simp)
  have p3 := k2.cell (b := w1.heap.size) (o := 3) (v := .int .i64 n) (by go_simp)
  have p4 := k2.cell (b := w1.heap.size) (o := 4) (v := .int .i64 g) (by go_simp)
  have q0 := k2.cell (b := w1.heap.size + 1) (o := 0) (v := .int .i64 x0) (by go_simp)
  have q1 := k2.cell (b := w1.heap.size + 1) (o := 1) (v := .int .i64 x1) (by go_simp)
  have q2 := k2.cell (b := w1.heap.size + 1) (o := 2) (v := .int .i64 x2) (by go_simp)
  have q3 := k2.cell (b := w1.heap.size + 1) (o := 3) (v := .int .i64 x3) (by go_simp)
  have K2 : Keep w1 w2 := (((Keep.refl w1).alloc _).alloc _).trans k2
  clear k2
  go_wp2_with fail
  refine (HS.out _).mono ?_
  rintro e w3 ⟨rfl, k3⟩
  replace p0 := k3.cell p0
  replace p1 := k3.cell p1
  replace p2 := k3.cell p2
  replace p3 := k3.cell p3
  replace p4 := k3.cell p4
  replace q0 := k3.cell q0
  replace q1 := k3.cell q1
  replace q2 := k3.cell q2
  replace q3 := k3.cell q3
  have K3 : Keep w1 w3 := K2.trans k3
  clear k3 K2
  cases B
  case' false =>
    clear hB HO HF HV
    go_wp2
    go_ret
    exact ⟨rfl, k1.trans K3⟩
  have hv := HO.out rfl
  obtain ⟨hpr, _, _, _, hf1, hf2⟩ := HF.out rfl
  have hf1 : f ≤ x1 := hf1
  have hf2 : x1 < f + n := hf2
  obtain ⟨_, _, ⟨f0, f9⟩, mm, hmm, m0, m1⟩ := saB_facts (prB_facts hpr).1
  have n0 : 1 ≤ n := by omega
  have n1 : n ≤ 12 := by omega
  clear hmm m0 m1
  rw [hv] at HV
  have hlt3 : w1.heap.size < w3.heap.size := World.block_lt_of_cell? w3 _ p0
  have hlt4 : w1.heap.size + 1 < w3.heap.size := World.block_lt_of_cell? w3 _ q0
  clear hB HO HF HI HS hv hpr
  go_wp2_with fail
  obtain ⟨W0, hW0⟩ : ∃ W0, W0 = w3.alloc (.cells #[.int .i64 s, .int .i64 t, .int .i64 f, .int .i64 n, .int .i64 n] 25) := ⟨_, rfl⟩
  have K30 : Keep w3 W0 := by rw [hW0]; exact (Keep.refl w3).alloc _
  have r0 : W0.cell? ⟨w3.heap.size, 0, none⟩ = some (.int .i64 s) := by rw [hW0]; go_simp
  have r1 : W0.cell? ⟨w3.heap.size, 1, none⟩ = some (.int .i64 t) := by rw [hW0]; go_simp
  have r2 : W0.cell? ⟨w3.heap.size, 2, none⟩ = some (.int .i64 f) := by rw [hW0]; go_simp
  have r3 : W0.cell? ⟨w3.heap.size, 3, none⟩ = some (.int .i64 n) := by rw [hW0]; go_simp
  have r4 : W0.cell? ⟨w3.heap.size, 4, none⟩ = some (.int .i64 n) := by rw [hW0]; go_simp
  rw [← hW0]
  clear hW0
  have HSa : ∀ W, Keep W0 W → (W.cell? ⟨w1.heap.size + 1, 0, none⟩ = some (.int .i64 x0) ∧ W.cell? ⟨w1.heap.size + 1, 1, none⟩ = some (.int .i64 x1) ∧ W.cell? ⟨w1.heap.size + 1, 2, none⟩ = some (.int .i64 x2) ∧ W.cell? ⟨w1.heap.size + 1, 3, none⟩ = some (.int .i64 x3) ∧ W.cell? ⟨w1.heap.size, 2, none⟩ = some (.int .i64 f) ∧ W.cell? ⟨w1.heap.size, 3, none⟩ = some (.int .i64 n) ∧ W.cell? ⟨w3.heap.size, 0, none⟩ = some (.int .i64 s) ∧ W.cell? ⟨w3.heap.size, 1, none⟩ = some (.int .i64 t) ∧ W.cell? ⟨w3.heap.size, 2, none⟩ = some (.int .i64 f) ∧ W.cell? ⟨w3.heap.size, 3, none⟩ = some (.int .i64 n) ∧ W.cell? ⟨w3.heap.size, 4, none⟩ = some (.int .i64 n)) := fun W k => ⟨k.cell (K30.cell q0), k.cell (K30.cell q1), k.cell (K30.cell q2), k.cell (K30.cell q3), k.cell (K30.cell p2), k.cell (K30.cell p3), k.cell r0, k.cell r1, k.cell r2, k.cell r3, k.cell r4⟩
  have fw : IntKind.i64.wrap (f + n) = f + n := IntWalk.i64_in _ ⟨by omega, by omega⟩
  go_region_held3 (fun w' => w'.cell? ⟨w1.heap.size + 1, 0, none⟩ = some (.int .i64 x0) ∧ w'.cell? ⟨w1.heap.size + 1, 1, none⟩ = some (.int .i64 x1) ∧ w'.cell? ⟨w1.heap.size + 1, 2, none⟩ = some (.int .i64 x2) ∧ w'.cell? ⟨w1.heap.size + 1, 3, none⟩ = some (.int .i64 x3) ∧ w'.cell? ⟨w1.heap.size, 2, none⟩ = some (.int .i64 f) ∧ w'.cell? ⟨w1.heap.size, 3, none⟩ = some (.int .i64 n) ∧ w'.cell? ⟨w3.heap.size, 0, none⟩ = some (.int .i64 s) ∧ w'.cell? ⟨w3.heap.size, 1, none⟩ = some (.int .i64 t) ∧ w'.cell? ⟨w3.heap.size, 2, none⟩ = some (.int .i64 f) ∧ w'.cell? ⟨w3.heap.size, 3, none⟩ = some (.int .i64 n) ∧ w'.cell? ⟨w3.heap.size, 4, none⟩ = some (.int .i64 n)) ((first | (go_simp; done) | exact HSa _ (Keep.refl _) | exact HSa _ ((Keep.refl _).drewN 1) | exact HSa _ (((Keep.refl _).alloc _).drewN 1) | exact HSa _ kk1 | go_keep))
    (first
      | (go_at_call 24; refine (HV.out _ _ ((at4_new W0 x0 x1 x2 x3 31).drewN 1)).mono ?_; rintro e w4 ⟨rfl, kk1'⟩; have kk1 : Keep W0 w4 := Keep.trans (((Keep.refl W0).alloc _).drewN 1) kk1'))
  all_goals
    go_wp2
    go_ret
    exact ⟨rfl, k1.trans ((K3.trans K30).trans kk1)⟩

end Go.Proofs.Ytlaajompcbmdoaa
