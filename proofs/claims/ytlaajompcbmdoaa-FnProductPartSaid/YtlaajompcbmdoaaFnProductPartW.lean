/- P149: a product has days. -/
import Derived.Test.YtlaajompcbmdoaaDrPv
import Derived.Test.YtlaajompcbmdoaaPw
import Derived.Test.YtlaajompcbmdoaaFr
namespace Go.Proofs.Ytlaajompcbmdoaa
open Go.RowKit
set_option linter.unusedVariables false

set_option maxRecDepth 100000 in
set_option maxHeartbeats 6400000 in
theorem walk_FnProductPart (a0 : Option Addr) (len0 cap0 : Nat) (z0 : List Int) (w : World) (w0 : IsRow .u8 w a0 len0 cap0 z0) :
    Calls Try.prog 13 #[.slice a0 len0 cap0] w fun e w' => e = .returned (.bool true) ∧ Below w.heap.size w w' := by
  have ha := code_of_row w0
  obtain ⟨hl0, hm0⟩ := ha.1
  unfold maxLen at hm0
  clear w0
  by_cases h : len0 ≤ 1048576
  case' neg =>
    have hd : decide (1048576 < (len0 : Int)) = true := by simp; omega
    go_enter Try.func13, Try.ntmps13
    go_wp2
    go_ret
    exact ⟨rfl, Below.refl _ _⟩
  have hd : decide (1048576 < (len0 : Int)) = false := by simp; omega
  go_enter Try.func13, Try.ntmps13
  go_wp2_with fail
  refine (drawProductValid a0 len0 cap0 _ ha).mono ?_
  rintro e w1 ⟨s, t, f, n, g, rfl, _, _, k1⟩
  clear ha
  have HI := Lib.hid (fun (s t f n g : Int) W => prv_impl s t f n g W)
  have HS := Lib.hid (fun W => prv_spec s t f n g W)
  rcases Bool.eq_false_or_eq_true (prB s t f n g) with hp | hp
  case' inr =>
    rw [hp] at HS
    go_wp2_with fail
    refine (HI.out s t f n g _).mono ?_
    rintro e w2 ⟨he, k2⟩
    rw [hp] at he
    subst he
    have p0 := k2.cell (b := w1.heap.size) (o := 0) (v := .int .i64 s) (by go_simp)
    have p1 := k2.cell (b := w1.heap.size) (o := 1) (v := .int .i64 t) (by go_simp)
    have p2 := k2.cell (b := w1.heap.size) (o := 2) (v := .int .i64 f) (by go_simp)
    have p3 := k2.cell (b := w1.heap.size) (o := 3) (v := .int .i64 n) (by go_simp)
    have p4 := k2.cell (b := w1.heap.size) (o := 4) (v := .int .i64 g) (by go_simp)
    have K2 : Keep w1 w2 := ((Keep.refl w1).alloc _).trans k2
    go_wp2_with fail
    refine (HS.out _).mono ?_
    rintro e w3 ⟨rfl, k3⟩
    go_wp2
    go_ret
    exact ⟨rfl, (k1.trans K2).trans k3⟩
  have HA := Lib.hid (pr_one hp)
  rw [hp] at HS
  go_wp2_with fail
  refine (HI.out s t f n g _).mono ?_
  rintro e w2 ⟨he, k2⟩
  rw [hp] at he
  subst he
  have p0 := k2.cell (b := w1.heap.size) (o := 0) (v := .int .i64 s) (by go_simp)
  have p1 := k2.cell (b := w1.heap.size) (o := 1) (v := .int .i64 t) (by go_simp)
  have p2 := k2.cell (b := w1.heap.size) (o := 2) (v := .int .i64 f) (by go_simp)
  have p3 := k2.cell (b := w1.heap.size) (o := 3) (v := .int .i64 n) (by go_simp)
  have p4 := k2.cell (b := w1.heap.size) (o := 4) (v := .int .i64 g) (by go_simp)
  have K2 : Keep w1 w2 := ((Keep.refl w1).alloc _).trans k2
  go_wp2_with fail
  refine (HS.out _).mono ?_
  rintro e w3 ⟨rfl, k3⟩
  replace p0 := k3.cell p0
  replace p1 := k3.cell p1
  replace p2 := k3.cell p2
  replace p3 := k3.cell p3
  replace p4 := k3.cell p4
  have K3 := K2.trans k3
  have hlt3 : w1.heap.size < w3.heap.size := World.block_lt_of_cell? w3 _ p0
  have HB0 := Lib.hid (pr_zero s t f g)
  have HC0 := Lib.hid (pr_kind s f n g)
  clear hp HS K2 k2 k3
  go_wp2_with fail
  refine (HI.out s t f 1 g _).mono ?_
  rintro e w4 ⟨he, k4⟩
  rw [HA.out] at he
  subst he
  have b0 := k4.cell (b := w3.heap.size + 1) (o := 0) (v := .int .i64 s) (by go_simp)
  have b1 := k4.cell (b := w3.heap.size + 1) (o := 1) (v := .int .i64 t) (by go_simp)
  have b2 := k4.cell (b := w3.heap.size + 1) (o := 2) (v := .int .i64 f) (by go_simp)
  have b3 := k4.cell (b := w3.heap.size + 1) (o := 3) (v := .int .i64 0) (by go_simp)
  have b4 := k4.cell (b := w3.heap.size + 1) (o := 4) (v := .int .i64 g) (by go_simp)
  have d0 := k4.cell (b := w3.heap.size + 1 + 1) (o := 0) (v := .int .i64 s) (by go_simp)
  have d1 := k4.cell (b := w3.heap.size + 1 + 1) (o := 1) (v := .int .i64 4) (by go_simp)
  have d2 := k4.cell (b := w3.heap.size + 1 + 1) (o := 2) (v := .int .i64 f) (by go_simp)
  have d3 := k4.cell (b := w3.heap.size + 1 + 1) (o := 3) (v := .int .i64 n) (by go_simp)
  have d4 := k4.cell (b := w3.heap.size + 1 + 1) (o := 4) (v := .int .i64 g) (by go_simp)
  have K4 : Keep w1 w4 := (((K3.alloc _).alloc _).alloc _).trans k4
  clear k4
  go_wp2_with fail
  refine (HI.out s t f 0 g _).mono ?_
  rintro e w5 ⟨he, k5⟩
  rw [HB0.out] at he
  subst he
  replace d0 := k5.cell d0
  replace d1 := k5.cell d1
  replace d2 := k5.cell d2
  replace d3 := k5.cell d3
  replace d4 := k5.cell d4
  go_wp2_with fail
  refine (HI.out s 4 f n g _).mono ?_
  rintro e w6 ⟨he, k6⟩
  rw [HC0.out] at he
  subst he
  go_wp2
  go_ret
  exact ⟨rfl, ((k1.trans K4).trans k5).trans k6⟩

end Go.Proofs.Ytlaajompcbmdoaa
