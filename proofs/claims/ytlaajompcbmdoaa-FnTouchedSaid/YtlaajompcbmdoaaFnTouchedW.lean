/- P143: only its own reports touch a product. -/
import Derived.Test.YtlaajompcbmdoaaDrPt
import Derived.Test.YtlaajompcbmdoaaPw
import Derived.Test.YtlaajompcbmdoaaFr
namespace Go.Proofs.Ytlaajompcbmdoaa
open Go.RowKit
set_option linter.unusedVariables false

theorem at4_new (w : World) (x0 x1 x2 x3 : Int) (T : TypeId) : At4 (w.alloc (.cells #[.int .i64 x0, .int .i64 x1, .int .i64 x2, .int .i64 x3] T)) w.heap.size 0 (x0, x1, x2, x3) :=
  ⟨World.cell?_alloc_new w _ _ 0, World.cell?_alloc_new w _ _ 1, World.cell?_alloc_new w _ _ 2, World.cell?_alloc_new w _ _ 3⟩
theorem pv_lit (m s t f n g : Int) (r : R4) (G : Nat) (W : World) (h : At4 W G 0 r) :
    Calls Try.prog 24 #[.slice (some ⟨G, 0, none⟩) 1 1, .int .i64 m, .agg #[.int .i64 s, .int .i64 t, .int .i64 f, .int .i64 n, .int .i64 g]] W fun e w' => e = .returned (.int .i64 (pvV [r] m s t f n g)) ∧ Keep W w' :=
  pvv_impl (some ⟨G, 0, none⟩) 1 [r] m s t f n g W (.inr ⟨G, 0, rfl, World.block_lt_of_cell? W _ h.s, fun i hi => by
    obtain rfl : i = 0 := by simpa using hi
    exact h⟩) (by simp) (by simp)

set_option maxRecDepth 100000 in
set_option maxHeartbeats 6400000 in
theorem walk_FnTouched (a0 : Option Addr) (len0 cap0 : Nat) (z0 : List Int) (w : World) (w0 : IsRow .u8 w a0 len0 cap0 z0) :
    Calls Try.prog 10 #[.slice a0 len0 cap0] w fun e w' => e = .returned (.bool true) ∧ Below w.heap.size w w' := by
  have ha := code_of_row w0
  obtain ⟨hl0, hm0⟩ := ha.1
  unfold maxLen at hm0
  clear w0
  by_cases h : len0 ≤ 1048576
  case' neg =>
    have hd : decide (1048576 < (len0 : Int)) = true := by simp; omega
    go_enter Try.func10, Try.ntmps10
    go_wp2
    go_ret
    exact ⟨rfl, Below.refl _ _⟩
  have hd : decide (1048576 < (len0 : Int)) = false := by simp; omega
  go_enter Try.func10, Try.ntmps10
  go_wp2_with fail
  refine (drawProductTouched a0 len0 cap0 _ ha).mono ?_
  rintro e w1 ⟨s, t, f, n, g, x0, x1, x2, x3, rfl, k1⟩
  clear ha
  have HI := Lib.hid (fun W => pt_impl s t f n g x0 x1 x2 x3 W)
  have HS := Lib.hid (fun W => pt_spec s t f n g x0 x1 x2 x3 W)
  have HP := Lib.hid (fun W => prv_spec s t f n g W)
  have HR := Lib.hid (fun W => rv_spec x0 x1 x2 x3 W)
  have HN := Lib.hid (fun (h1 : prB s t f n g = true) (h2 : rOk x0 x1 x2 x3 = true) => pt_no (r := (x0, x1, x2, x3)) h1 h2)
  have HV := Lib.hid (fun m W G h => pv_lit m s t f n g (x0, x1, x2, x3) G W h)
  generalize ptB s t f n g (x0, x1, x2, x3) = B at HI HS HN
  go_wp2_with fail
  refine (HI.out _).mono ?_
  rintro e w2 ⟨rfl, k2⟩
  have p0 := k2.cell (b := w1.heap.size) (o := 0) (v := .int .i64 s) (by go_simp)
  have p1 := k2.cell (b := w1.heap.size) (o := 1) (v := .int .i64 t) (by go_simp)
  have p2 := k2.cell (b := w1.heap.size) (o := 2) (v := .int .i64 f) (by go_simp)
  have p3 := k2.cell (b := w1.heap.size) (o := 3) (v := .int .i64 n) (by go_simp)
  have p4 := k2.cell (b := w1.heap.size) (o := 4) (v := .int .i64 g) (by go_simp)
  have q0 := k2.cell (b := w1.heap.size + 1) (o := 0) (v := .int .i64 x0) (by go_simp)
  have q1 := k2.cell (b := w1.heap.size + 1) (o := 1) (v := .int .i64 x1) (by go_simp)
  have q2 := k2.cell (b := w1.heap.size + 1) (o := 2) (v := .int .i64 x2) (by go_simp)
  have q3 := k2.cell (b := w1.heap.size + 1) (o := 3) (v := .int .i64 x3) (by go_simp)
  have K2 : Keep w1 w2 := (((Keep.refl w1).alloc _).alloc _).trans k2
  clear k2
  go_wp2_with fail
  refine (HS.out _).mono ?_
  rintro e w3 ⟨rfl, k3⟩
  replace p0 := k3.cell p0
  replace p1 := k3.cell p1
  replace p2 := k3.cell p2
  replace p3 := k3.cell p3
  replace p4 := k3.cell p4
  replace q0 := k3.cell q0
  replace q1 := k3.cell q1
  replace q2 := k3.cell q2
  replace q3 := k3.cell q3
  have K3 : Keep w1 w3 := K2.trans k3
  clear k3 K2
  rcases Bool.eq_false_or_eq_true (prB s t f n g) with hp | hp
  case' inr =>
    rw [hp] at HP
    go_wp2_with fail
    refine (HP.out _).mono ?_
    rintro e w4 ⟨rfl, k4⟩
    go_wp2
    go_ret
    exact ⟨rfl, (k1.trans K3).trans k4⟩
  rw [hp] at HP
  rcases Bool.eq_false_or_eq_true (rOk x0 x1 x2 x3) with hr | hr
  case' inr =>
    rw [hr] at HR
    go_wp2_with fail
    refine (HP.out _).mono ?_
    rintro e w4 ⟨rfl, k4⟩
    replace p0 := k4.cell p0
    replace p1 := k4.cell p1
    replace p2 := k4.cell p2
    replace p3 := k4.cell p3
    replace p4 := k4.cell p4
    replace q0 := k4.cell q0
    replace q1 := k4.cell q1
    replace q2 := k4.cell q2
    replace q3 := k4.cell q3
    go_wp2_with fail
    refine (HR.out _).mono ?_
    rintro e w5 ⟨rfl, k5'⟩
    have k5 : Keep w4 w5 := k5'
    go_wp2
    go_ret
    exact ⟨rfl, ((k1.trans K3).trans k4).trans k5⟩
  rw [hr] at HR
  replace HN := Lib.hid (HN.out hp hr)
  clear hp hr
  go_wp2_with fail
  refine (HP.out _).mono ?_
  rintro e w4 ⟨rfl, k4⟩
  replace p0 := k4.cell p0
  replace p1 := k4.cell p1
  replace p2 := k4.cell p2
  replace p3 := k4.cell p3
  replace p4 := k4.cell p4
  replace q0 := k4.cell q0
  replace q1 := k4.cell q1
  replace q2 := k4.cell q2
  replace q3 := k4.cell q3
  go_wp2_with fail
  refine (HR.out _).mono ?_
  rintro e w5 ⟨rfl, k5'⟩
  have k5 : Keep w4 w5 := k5'
  replace p0 := k5.cell p0
  replace p1 := k5.cell p1
  replace p2 := k5.cell p2
  replace p3 := k5.cell p3
  replace p4 := k5.cell p4
  replace q0 := k5.cell q0
  replace q1 := k5.cell q1
  replace q2 := k5.cell q2
  replace q3 := k5.cell q3
  have K5 : Keep w1 w5 := (K3.trans k4).trans k5
  have hl5 : w1.heap.size < w5.heap.size := World.block_lt_of_cell? w5 _ p0
  have hl6 : w1.heap.size + 1 < w5.heap.size := World.block_lt_of_cell? w5 _ q0
  clear HP HR HI HS K3 k4 k5 k5'
  go_wp2_with fail
  refine (HV.out 1 _ _ (at4_new w5 x0 x1 x2 x3 _)).mono ?_
  rintro e w6 ⟨rfl, k6⟩
  have k6' : Keep w5 w6 := ((Keep.refl w5).alloc _).trans k6
  replace p0 := k6'.cell p0
  replace p1 := k6'.cell p1
  replace p2 := k6'.cell p2
  replace p3 := k6'.cell p3
  replace p4 := k6'.cell p4
  replace q0 := k6'.cell q0
  replace q1 := k6'.cell q1
  replace q2 := k6'.cell q2
  replace q3 := k6'.cell q3
  have hl7 : w1.heap.size < w6.heap.size := World.block_lt_of_cell? w6 _ p0
  have hl8 : w1.heap.size + 1 < w6.heap.size := World.block_lt_of_cell? w6 _ q0
  go_wp2_with fail
  refine (HV.out 0 _ _ (at4_new w6 x0 x1 x2 x3 _)).mono ?_
  rintro e w7 ⟨rfl, k7⟩
  have K7 : Keep w1 w7 := ((K5.trans k6').alloc _).trans k7
  cases B
  case' false =>
    have hn := HN.out rfl
    rw [hn]
    generalize pvV [(x0, x1, x2, x3)] 0 s t f n g = y
  case' true =>
    generalize pvV [(x0, x1, x2, x3)] 0 s t f n g = y
    generalize pvV [(x0, x1, x2, x3)] 1 s t f n g = z
  all_goals
    go_wp2
    go_ret
    exact ⟨rfl, k1.trans K7⟩

end Go.Proofs.Ytlaajompcbmdoaa
