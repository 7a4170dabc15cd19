/- P155: a key without a value has no version. -/
import Derived.Test.YtlaajompcbmdoabDrVe
import Derived.Test.YtlaajompcbmdoabVo
import Derived.Test.YtlaajompcbmdoabFr
namespace Go.Proofs.Ytlaajompcbmdoab
open Go.RowKit
set_option linter.unusedVariables false

set_option maxRecDepth 100000 in
set_option maxHeartbeats 6400000 in
theorem walk_FnVersionNone (a0 : Option Addr) (len0 cap0 : Nat) (z0 : List Int) (w : World) (w0 : IsRow .u8 w a0 len0 cap0 z0) :
    Calls Try.prog 8 #[.slice a0 len0 cap0] w fun e w' => e = .returned (.bool true) ∧ Below w.heap.size w w' := by
  have ha := code_of_row w0
  obtain ⟨hl0, hm0⟩ := ha.1
  unfold maxLen at hm0
  clear w0
  by_cases h : len0 ≤ 1048576
  case' neg =>
    have hd : decide (1048576 < (len0 : Int)) = true := by simp; omega
    go_enter Try.func8, Try.ntmps8
    go_wp2
    go_ret
    exact ⟨rfl, Below.refl _ _⟩
  have hd : decide (1048576 < (len0 : Int)) = false := by simp; omega
  go_enter Try.func8, Try.ntmps8
  go_wp2_with fail
  refine (drawVersionOf a0 len0 cap0 _ ha).mono ?_
  rintro e w1 ⟨gg, c, rs, v, s, d, t, rfl, hl, hcl, hF, ⟨v0, v1⟩, k1⟩
  have hL1 := hF.rs
  clear ha hF
  have HI := Lib.hid (fun W (k : Keep w1 W) => vo_impl _ c rs v s d t W (hL1.keep k) (by omega) hcl)
  have HS := Lib.hid (fun W (k : Keep w1 W) => vo_spec _ c rs v s d t W (hL1.keep k) (by omega) hcl)
  have HV := Lib.hid (fun v W (k : Keep w1 W) => vof_any _ c rs v s d t W (hL1.keep k) (by omega) hcl)
  have HSV := Lib.hid (fun W (k : Keep w1 W) => sv_spec _ c rs W (hL1.keep k) (by omega))
  have hcase : (voV rs v s d t == -1) = (svV rs v s d t == -9999) := by
    by_cases h9 : svV rs v s d t = -9999
    · rw [voV_none h9, h9]; rfl
    · rw [beq_eq_false_iff_ne.2 h9, beq_eq_false_iff_ne]
      rw [voV, if_neg h9]; omega
  have HV1 := Lib.hid (HV.out v)
  clear HV
  generalize voV rs v s d t = x at *
  generalize svV rs v s d t = y at *
  go_wp2_with fail
  refine (HI.out _ ((Keep.refl w1).alloc _)).mono ?_
  rintro e w2 ⟨rfl, k2⟩
  have p0 := k2.cell (b := w1.heap.size) (o := 0) (v := .int .i64 s) (by go_simp)
  have p1 := k2.cell (b := w1.heap.size) (o := 1) (v := .int .i64 d) (by go_simp)
  have p2 := k2.cell (b := w1.heap.size) (o := 2) (v := .int .i64 t) (by go_simp)
  have K2 : Keep w1 w2 := ((Keep.refl w1).alloc _).trans k2
  clear k2
  go_wp2_with fail
  refine (HS.out _ K2).mono ?_
  rintro e w3 ⟨rfl, k3⟩
  replace p0 := k3.cell p0
  replace p1 := k3.cell p1
  replace p2 := k3.cell p2
  have K3 : Keep w1 w3 := K2.trans k3
  clear k3 K2
  rcases Bool.eq_false_or_eq_true (stB rs) with hs | hs
  case' inr =>
    rw [hs] at HSV
    clear hs
    go_wp2_with fail
    refine (HSV.out _ K3).mono ?_
    rintro e w4 ⟨rfl, k4⟩
    go_wp2
    go_ret
    exact ⟨rfl, (k1.trans K3).trans k4⟩
  rw [hs] at HSV
  clear hs
  go_wp2_with fail
  refine (HSV.out _ K3).mono ?_
  rintro e w4 ⟨rfl, k4⟩
  replace p0 := k4.cell p0
  replace p1 := k4.cell p1
  replace p2 := k4.cell p2
  have K4 : Keep w1 w4 := K3.trans k4
  by_cases hv0 : v < 0
  · go_wp2
    go_ret
    exact ⟨rfl, k1.trans K4⟩
  by_cases hv1 : (rs.length : Int) < v
  · go_wp2
    go_ret
    exact ⟨rfl, k1.trans K4⟩
  go_wp2_with fail
  refine (HV1.out _ K4).mono ?_
  rintro e w5 ⟨rfl, k5⟩
  by_cases h1 : x = -1
  · have hy : (y == -9999) = true := by rw [← hcase, h1]; rfl
    subst h1
    obtain rfl : y = -9999 := beq_iff_eq.1 hy
    go_wp2
    go_ret
    exact ⟨rfl, (k1.trans K4).trans k5⟩
  · have hx : (x == -1) = false := beq_eq_false_iff_ne.2 h1
    have hy : (y == -9999) = false := by rw [← hcase, hx]
    go_wp2
    go_ret
    exact ⟨rfl, (k1.trans K4).trans k5⟩

end Go.Proofs.Ytlaajompcbmdoab
