/- P141: more gaps do not lose a product. -/
import Derived.Test.YtlaajompcbmdoaaDrPv
import Derived.Test.YtlaajompcbmdoaaPw
import Derived.Test.YtlaajompcbmdoaaFr
namespace Go.Proofs.Ytlaajompcbmdoaa
open Go.RowKit
set_option linter.unusedVariables false

set_option maxRecDepth 100000 in
set_option maxHeartbeats 6400000 in
theorem walk_FnProductGaps (a0 : Option Addr) (len0 cap0 : Nat) (z0 : List Int) (w : World) (w0 : IsRow .u8 w a0 len0 cap0 z0) :
    Calls Try.prog 8 #[.slice a0 len0 cap0] w fun e w' => e = .returned (.bool true) ∧ Below w.heap.size w w' := by
  have ha := code_of_row w0
  obtain ⟨hl0, hm0⟩ := ha.1
  unfold maxLen at hm0
  clear w0
  by_cases h : len0 ≤ 1048576
  case' neg =>
    have hd : decide (1048576 < (len0 : Int)) = true := by simp; omega
    go_enter Try.func8, Try.ntmps8
    go_wp2
    go_ret
    exact ⟨rfl, Below.refl _ _⟩
  have hd : decide (1048576 < (len0 : Int)) = false := by simp; omega
  go_enter Try.func8, Try.ntmps8
  go_wp2_with fail
  refine (drawProductValue a0 len0 cap0 _ ha).mono ?_
  rintro e w1 ⟨gg, c, rs, v, s, t, f, n, g, rfl, hl, hcl, hF, k1⟩
  have hL1 := hF.rs
  clear ha hF
  have HI := Lib.hid (fun W (k : Keep w1 W) (s t f n g : Int) => pvv_impl _ c rs v s t f n g W (hL1.keep k) (by omega) hcl)
  have HS := Lib.hid (fun W (k : Keep w1 W) => pvv_spec _ c rs v s t f n g W (hL1.keep k) (by omega) hcl)
  have HG := Lib.hid (pv_gaps (rs := rs) (v := v) (s := s) (t := t) (f := f) (n := n) (g := g))
  go_wp2_with fail
  refine (HI.out _ ((Keep.refl w1).alloc _) s t f n g).mono ?_
  rintro e w2 ⟨rfl, k2⟩
  have p0 := k2.cell (b := w1.heap.size) (o := 0) (v := .int .i64 s) (by go_simp)
  have p1 := k2.cell (b := w1.heap.size) (o := 1) (v := .int .i64 t) (by go_simp)
  have p2 := k2.cell (b := w1.heap.size) (o := 2) (v := .int .i64 f) (by go_simp)
  have p3 := k2.cell (b := w1.heap.size) (o := 3) (v := .int .i64 n) (by go_simp)
  have p4 := k2.cell (b := w1.heap.size) (o := 4) (v := .int .i64 g) (by go_simp)
  have K2 : Keep w1 w2 := ((Keep.refl w1).alloc _).trans k2
  clear k2
  go_wp2_with fail
  refine (HS.out _ K2).mono ?_
  rintro e w3 ⟨rfl, k3⟩
  replace p0 := k3.cell p0
  replace p1 := k3.cell p1
  replace p2 := k3.cell p2
  replace p3 := k3.cell p3
  replace p4 := k3.cell p4
  have K3 : Keep w1 w3 := K2.trans k3
  have hlt3 : w1.heap.size < w3.heap.size := World.block_lt_of_cell? w3 _ p0
  clear k3 K2
  obtain ⟨X, hX⟩ : ∃ X, pvV rs v s t f n g = X := ⟨_, rfl⟩
  rw [hX] at HG
  rw [hX]
  clear hX
  by_cases h9 : X = -9999
  · subst h9
    go_wp2
    go_ret
    exact ⟨rfl, k1.trans K3⟩
  replace HG := Lib.hid (HG.out h9)
  have d9 : (X == -9999) = false := beq_eq_false_iff_ne.2 h9
  clear h9
  go_wp2_with fail
  refine (HI.out _ (by first | with_reducible exact K3.alloc _ | with_reducible exact Keep.setCell (K3.alloc _) K3.size _) s t f n n).mono ?_
  rintro e w4 ⟨he, k4⟩
  rw [HG.out] at he
  subst he
  have K4 : Keep w1 w4 := by refine Keep.trans ?_ k4; first | with_reducible exact K3.alloc _ | with_reducible exact Keep.setCell (K3.alloc _) K3.size _
  go_wp2
  go_ret
  exact ⟨rfl, k1.trans K4⟩

end Go.Proofs.Ytlaajompcbmdoaa
