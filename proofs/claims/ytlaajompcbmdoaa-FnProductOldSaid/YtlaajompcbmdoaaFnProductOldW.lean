/- P142: a product of a version is kept. -/
import Derived.Test.YtlaajompcbmdoaaDrPv
import Derived.Test.YtlaajompcbmdoaaPw
import Derived.Test.YtlaajompcbmdoaaFr
import Derived.Deep.RegionHeld3
import Derived.Outline
namespace Go.Proofs.Ytlaajompcbmdoaa
open Go.RowKit
set_option linter.unusedVariables false

set_option maxRecDepth 100000 in
set_option maxHeartbeats 6400000 in
theorem walk_FnProductOld (a0 : Option Addr) (len0 cap0 : Nat) (z0 : List Int) (w : World) (w0 : IsRow .u8 w a0 len0 cap0 z0) :
    Calls Try.prog 9 #[.slice a0 len0 cap0] w fun e w' => e = .returned (.bool true) ∧ Below w.heap.size w w' := by
  have ha := code_of_row w0
  obtain ⟨hl0, hm0⟩ := ha.1
  unfold maxLen at hm0
  clear w0
  by_cases h : len0 ≤ 1048576
  case' neg =>
    have hd : decide (1048576 < (len0 : Int)) = true := by simp; omega
    go_enter Try.func9, Try.ntmps9
    go_wp2
    go_ret
    exact ⟨rfl, Below.refl _ _⟩
  have hd : decide (1048576 < (len0 : Int)) = false := by simp; omega
  go_enter Try.func9, Try.ntmps9
  go_wp2_with fail
  refine (drawProductValue a0 len0 cap0 _ ha).mono ?_
  rintro e w1 ⟨gg, c, rs, v, s, t, f, n, g, rfl, hl, hcl, hF, k1⟩
  have hL1 := hF.rs
  clear ha hF
  have HI := Lib.hid (fun W (k : Keep w1 W) (s t f n g : Int) => pvv_impl _ c rs v s t f n g W (hL1.keep k) (by omega) hcl)
  have HS := Lib.hid (fun W (k : Keep w1 W) => pvv_spec _ c rs v s t f n g W (hL1.keep k) (by omega) hcl)
  have HN := Lib.hid (fun (h : stB rs = false) => pvB_ss (g := g) (ssOk_v (v := v) (s := s) (t := t) (f := f) (n := n) (show vrB rs v = false by simp [vrB, h])))
  have HV := Lib.hid (fun W (k : Keep w1 W) => sv_spec _ c rs W (hL1.keep k) (by omega))
  go_wp2_with fail
  refine (HI.out _ ((Keep.refl w1).alloc _) s t f n g).mono ?_
  rintro e w2 ⟨rfl, k2⟩
  have p0 := k2.cell (b := w1.heap.size) (o := 0) (v := .int .i64 s) (by go_simp)
  have p1 := k2.cell (b := w1.heap.size) (o := 1) (v := .int .i64 t) (by go_simp)
  have p2 := k2.cell (b := w1.heap.size) (o := 2) (v := .int .i64 f) (by go_simp)
  have p3 := k2.cell (b := w1.heap.size) (o := 3) (v := .int .i64 n) (by go_simp)
  have p4 := k2.cell (b := w1.heap.size) (o := 4) (v := .int .i64 g) (by go_simp)
  have K2 : Keep w1 w2 := ((Keep.refl w1).alloc _).trans k2
  clear k2
  go_wp2_with fail
  refine (HS.out _ K2).mono ?_
  rintro e w3 ⟨rfl, k3⟩
  replace p0 := k3.cell p0
  replace p1 := k3.cell p1
  replace p2 := k3.cell p2
  replace p3 := k3.cell p3
  replace p4 := k3.cell p4
  have K3 : Keep w1 w3 := K2.trans k3
  have hlt3 : w1.heap.size < w3.heap.size := World.block_lt_of_cell? w3 _ p0
  clear k3 K2
  have HO := Lib.hid (fun m (h : stB rs = true) (hm : m ≤ rs.length) => pv_take (m := m) s t f n g h hm)
  have HLr := Lib.hid hL1
  obtain ⟨X, hX⟩ : ∃ X, pvV rs v s t f n g = X := ⟨_, rfl⟩
  have HX := Lib.hid hX
  rw [hX] at HN
  rw [hX]
  clear hX hL1
  by_cases hv0 : v < 0
  · go_wp2
    go_ret
    exact ⟨rfl, k1.trans K3⟩
  by_cases hv1 : (rs.length : Int) < v
  · go_wp2
    go_ret
    exact ⟨rfl, k1.trans K3⟩
  obtain ⟨m, rfl⟩ : ∃ m : Nat, v = (m : Int) := ⟨v.toNat, by omega⟩
  have hml : m ≤ rs.length := by omega
  rcases Bool.eq_false_or_eq_true (stB rs) with hs | hs
  case' inr =>
    have hx9 : X = -9999 := HN.out hs
    subst hx9
    rw [hs] at HV
    clear HN HO HX hs
    go_wp2_with fail
    refine (HV.out _ K3).mono ?_
    rintro e w4 ⟨rfl, k4⟩
    go_wp2
    go_ret
    exact ⟨rfl, (k1.trans K3).trans k4⟩
  have HP := Lib.hid ((HO.out m hs hml).trans HX.out)
  have HLT := Lib.hid (len_take hml)
  have hmc : (m : Int) ≤ (c : Int) := by omega
  have hm0 : (0 : Int) ≤ (m : Int) := by omega
  rw [hs] at HV
  have HT := Lib.hid (fun W (k : Keep w1 W) => pvv_impl _ c (rs.take m) m s t f n g W ((HLr.out.keep k).take m) (by rw [HLT.out]; omega) (by rw [HLT.out]; omega))
  rw [HLT.out, HP.out] at HT
  clear HN HO HX hs HP HI HS
  go_wp2_with fail
  refine (HV.out _ K3).mono ?_
  rintro e w4 ⟨rfl, k4⟩
  replace p0 := k4.cell p0
  replace p1 := k4.cell p1
  replace p2 := k4.cell p2
  replace p3 := k4.cell p3
  replace p4 := k4.cell p4
  have K4 := K3.trans k4
  go_wp2_with fail
  go_region_held3 (fun w' => w'.cell? ⟨w1.heap.size, 0, none⟩ = some (.int .i64 s) ∧ w'.cell? ⟨w1.heap.size, 1, none⟩ = some (.int .i64 t) ∧ w'.cell? ⟨w1.heap.size, 2, none⟩ = some (.int .i64 f) ∧ w'.cell? ⟨w1.heap.size, 3, none⟩ = some (.int .i64 n) ∧ w'.cell? ⟨w1.heap.size, 4, none⟩ = some (.int .i64 g)) ((first | (go_simp; done) | exact ⟨p0, p1, p2, p3, p4⟩ | exact ⟨q0, q1, q2, q3, q4⟩ | go_keep))
    (first | (go_at_call 24; refine (HT.out _ (by first | exact K4.drewN _ | exact K4)).mono ?_; rintro e w5 ⟨rfl, k5⟩; have kk : Keep w4 w5 := ((Keep.refl w4).drewN 1).trans k5; have q0 := kk.cell p0; have q1 := kk.cell p1; have q2 := kk.cell p2; have q3 := kk.cell p3; have q4 := kk.cell p4))
  all_goals
    go_wp2
    go_ret
    exact ⟨rfl, (k1.trans K4).trans kk⟩

end Go.Proofs.Ytlaajompcbmdoaa
