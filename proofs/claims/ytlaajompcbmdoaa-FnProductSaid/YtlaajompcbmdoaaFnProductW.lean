/- P140: a product is a mean of a series. -/
import Derived.Test.YtlaajompcbmdoaaDrPv
import Derived.Test.YtlaajompcbmdoaaPw
import Derived.Test.YtlaajompcbmdoaaFr
namespace Go.Proofs.Ytlaajompcbmdoaa
open Go.RowKit
set_option linter.unusedVariables false

set_option maxRecDepth 100000 in
set_option maxHeartbeats 6400000 in
theorem walk_FnProduct (a0 : Option Addr) (len0 cap0 : Nat) (z0 : List Int) (w : World) (w0 : IsRow .u8 w a0 len0 cap0 z0) :
    Calls Try.prog 7 #[.slice a0 len0 cap0] w fun e w' => e = .returned (.bool true) ∧ Below w.heap.size w w' := by
  have ha := code_of_row w0
  obtain ⟨hl0, hm0⟩ := ha.1
  unfold maxLen at hm0
  clear w0
  by_cases h : len0 ≤ 1048576
  case' neg =>
    have hd : decide (1048576 < (len0 : Int)) = true := by simp; omega
    go_enter Try.func7, Try.ntmps7
    go_wp2
    go_ret
    exact ⟨rfl, Below.refl _ _⟩
  have hd : decide (1048576 < (len0 : Int)) = false := by simp; omega
  go_enter Try.func7, Try.ntmps7
  go_wp2_with fail
  refine (drawProductValue a0 len0 cap0 _ ha).mono ?_
  rintro e w1 ⟨gg, c, rs, v, s, t, f, n, g, rfl, hl, hcl, hF, k1⟩
  have hL1 := hF.rs
  clear ha hF
  have HI := Lib.hid (fun W (k : Keep w1 W) (s t f n g : Int) => pvv_impl _ c rs v s t f n g W (hL1.keep k) (by omega) hcl)
  have HS := Lib.hid (fun W (k : Keep w1 W) => pvv_spec _ c rs v s t f n g W (hL1.keep k) (by omega) hcl)
  have HP := Lib.hid (fun W => prv_spec s t f n g W)
  have HV := Lib.hid (fun W (k : Keep w1 W) => sv_spec _ c rs W (hL1.keep k) (by omega))
  have HSS := Lib.hid (fun W (k : Keep w1 W) => (show Calls Try.prog 38 #[.slice (some ⟨gg, 0, none⟩) rs.length c, .int .i64 v, .int .i64 s, .int .i64 t, .int .i64 f, .int .i64 n] W fun e w' => ∃ (p : Option Addr) (q : Nat), e = .returned (.tuple #[.slice p (ssL rs v s t f n).length q, .bool (ssOk rs v s t f n)]) ∧ Fresh W w' p (ssL rs v s t f n) ∧ Keep W w' from ss_impl _ c rs v s t f n W (hL1.keep k) (by omega) hcl))
  have HLL := Lib.hid (ssL_len rs v s t f n)
  have HB := Lib.hid (pvB_me (rs := rs) (v := v) (s := s) (t := t) (f := f) (n := n) (g := g))
  have HY := Lib.hid (pvB_all (rs := rs) (v := v) (s := s) (t := t) (f := f) (n := n) (g := g))
  have HO := Lib.hid (fun (h1 : stB rs = true) (h2 : prB s t f n g = true) (h3 : 0 ≤ v) (h4 : v ≤ (rs.length : Int)) => (by simp [ssOk, vrB, h1, inB, h3, h4, (prB_facts h2).1] : ssOk rs v s t f n = true))
  go_wp2_with fail
  refine (HI.out _ ((Keep.refl w1).alloc _) s t f n g).mono ?_
  rintro e w2 ⟨rfl, k2⟩
  have p0 := k2.cell (b := w1.heap.size) (o := 0) (v := .int .i64 s) (by go_simp)
  have p1 := k2.cell (b := w1.heap.size) (o := 1) (v := .int .i64 t) (by go_simp)
  have p2 := k2.cell (b := w1.heap.size) (o := 2) (v := .int .i64 f) (by go_simp)
  have p3 := k2.cell (b := w1.heap.size) (o := 3) (v := .int .i64 n) (by go_simp)
  have p4 := k2.cell (b := w1.heap.size) (o := 4) (v := .int .i64 g) (by go_simp)
  have K2 : Keep w1 w2 := ((Keep.refl w1).alloc _).trans k2
  clear k2
  go_wp2_with fail
  refine (HS.out _ K2).mono ?_
  rintro e w3 ⟨rfl, k3⟩
  replace p0 := k3.cell p0
  replace p1 := k3.cell p1
  replace p2 := k3.cell p2
  replace p3 := k3.cell p3
  replace p4 := k3.cell p4
  have K3 : Keep w1 w3 := K2.trans k3
  have hlt3 : w1.heap.size < w3.heap.size := World.block_lt_of_cell? w3 _ p0
  clear k3 K2
  obtain ⟨X, hX⟩ : ∃ X, pvV rs v s t f n g = X := ⟨_, rfl⟩
  rw [hX] at HB HY
  rw [hX]
  clear hX hL1 HI HS
  rcases Bool.eq_false_or_eq_true (prB s t f n g) with hp | hp
  case' inr =>
    rw [hp] at HP
    clear hp
    go_wp2_with fail
    refine (HP.out _).mono ?_
    rintro e w4 ⟨rfl, k4⟩
    go_wp2
    go_ret
    exact ⟨rfl, (k1.trans K3).trans k4⟩
  rw [hp] at HP
  rcases Bool.eq_false_or_eq_true (stB rs) with hs | hs
  case' inr =>
    rw [hs] at HV
    clear hs hp HO
    go_wp2_with fail
    refine (HP.out _).mono ?_
    rintro e w4 ⟨rfl, k4⟩
    replace p0 := k4.cell p0
    replace p1 := k4.cell p1
    replace p2 := k4.cell p2
    replace p3 := k4.cell p3
    replace p4 := k4.cell p4
    have K4 := K3.trans k4
    go_wp2_with fail
    refine (HV.out _ K4).mono ?_
    rintro e w5 ⟨rfl, k5⟩
    go_wp2
    go_ret
    exact ⟨rfl, (k1.trans K4).trans k5⟩
  rw [hs] at HV
  replace HO := Lib.hid (HO.out hs hp)
  replace HY := Lib.hid (fun h => HY.out h hp)
  clear hs hp
  go_wp2_with fail
  refine (HP.out _).mono ?_
  rintro e w4 ⟨rfl, k4⟩
  replace p0 := k4.cell p0
  replace p1 := k4.cell p1
  replace p2 := k4.cell p2
  replace p3 := k4.cell p3
  replace p4 := k4.cell p4
  have K4 := K3.trans k4
  go_wp2_with fail
  refine (HV.out _ K4).mono ?_
  rintro e w5 ⟨rfl, k5⟩
  replace p0 := k5.cell p0
  replace p1 := k5.cell p1
  replace p2 := k5.cell p2
  replace p3 := k5.cell p3
  replace p4 := k5.cell p4
  have K5 := K4.trans k5
  clear K3 K4 k4 k5 HP HV
  by_cases hv0 : v < 0
  · go_wp2
    go_ret
    exact ⟨rfl, k1.trans K5⟩
  by_cases hv1 : (rs.length : Int) < v
  · go_wp2
    go_ret
    exact ⟨rfl, k1.trans K5⟩
  have ho := HO.out (by omega) (by omega)
  replace HY := Lib.hid (HY.out ho)
  rw [ho] at HSS
  clear ho HO
  generalize ssL rs v s t f n = L at *
  rcases Bool.eq_false_or_eq_true (meB L g) with hb | hb
  · replace HY := HY.out hb
    subst HY
    clear HB
    go_wp2_with fail
    refine (HSS.out _ K5).mono ?_
    rintro e w6 ⟨p, q, rfl, hF6, k6⟩
    replace p0 := k6.cell p0
    replace p1 := k6.cell p1
    replace p2 := k6.cell p2
    replace p3 := k6.cell p3
    replace p4 := k6.cell p4
    have hLs := hF6.ls
    have hll := HLL.out
    go_wp2_with fail
    refine (me_impl p q L g _ hLs (by omega)).mono ?_
    rintro e w7 ⟨rfl, k7⟩
    rw [hb]
    clear hb hLs hF6
    generalize meV L g = x at *
    go_wp2
    go_ret
    exact ⟨rfl, ((k1.trans K5).trans k6).trans k7⟩
  · replace HB := HB.out hb
    subst HB
    clear HY
    go_wp2_with fail
    refine (HSS.out _ K5).mono ?_
    rintro e w6 ⟨p, q, rfl, hF6, k6⟩
    replace p0 := k6.cell p0
    replace p1 := k6.cell p1
    replace p2 := k6.cell p2
    replace p3 := k6.cell p3
    replace p4 := k6.cell p4
    have hLs := hF6.ls
    have hll := HLL.out
    go_wp2_with fail
    refine (me_impl p q L g _ hLs (by omega)).mono ?_
    rintro e w7 ⟨rfl, k7⟩
    rw [hb]
    clear hb hLs hF6
    generalize meV L g = x at *
    go_wp2
    go_ret
    exact ⟨rfl, ((k1.trans K5).trans k6).trans k7⟩

end Go.Proofs.Ytlaajompcbmdoaa
