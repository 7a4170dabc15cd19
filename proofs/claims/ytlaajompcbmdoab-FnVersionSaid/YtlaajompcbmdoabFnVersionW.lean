/- P154: a value came with a version. -/
import Derived.Test.YtlaajompcbmdoabDrVe
import Derived.Test.YtlaajompcbmdoabVo
import Derived.Test.YtlaajompcbmdoabFr
import Derived.LoopTactic
import Derived.IntWalk
namespace Go.Proofs.Ytlaajompcbmdoab
open Go.RowKit
set_option linter.unusedVariables false

set_option maxRecDepth 100000 in
set_option maxHeartbeats 6400000 in
theorem walk_FnVersion (a0 : Option Addr) (len0 cap0 : Nat) (z0 : List Int) (w : World) (w0 : IsRow .u8 w a0 len0 cap0 z0) :
    Calls Try.prog 7 #[.slice a0 len0 cap0] w fun e w' => e = .returned (.bool true) ∧ Below w.heap.size w w' := by
  have ha := code_of_row w0
  obtain ⟨hl0, hm0⟩ := ha.1
  unfold maxLen at hm0
  clear w0
  by_cases h : len0 ≤ 1048576
  case' neg =>
    have hd : decide (1048576 < (len0 : Int)) = true := by simp; omega
    go_enter Try.func7, Try.ntmps7
    go_wp2
    go_ret
    exact ⟨rfl, Below.refl _ _⟩
  have hd : decide (1048576 < (len0 : Int)) = false := by simp; omega
  go_enter Try.func7, Try.ntmps7
  go_wp2_with fail
  refine (drawVersionOf a0 len0 cap0 _ ha).mono ?_
  rintro e w1 ⟨gg, c, rs, v, s, d, t, rfl, hl, hcl, hF, ⟨v0, v1⟩, k1⟩
  have hL1 := hF.rs
  clear ha hF
  have HI := Lib.hid (fun W (k : Keep w1 W) => vo_impl _ c rs v s d t W (hL1.keep k) (by omega) hcl)
  have HS := Lib.hid (fun W (k : Keep w1 W) => vo_spec _ c rs v s d t W (hL1.keep k) (by omega) hcl)
  have HV := Lib.hid (fun v W (k : Keep w1 W) => vof_any _ c rs v s d t W (hL1.keep k) (by omega) hcl)
  by_cases h9 : svV rs v s d t = -9999
  · have hv := voV_none h9
    rw [hv] at HI HS
    clear hv h9 HV
    go_wp2_with fail
    refine (HI.out _ ((Keep.refl w1).alloc _)).mono ?_
    rintro e w2 ⟨rfl, k2⟩
    have p0 := k2.cell (b := w1.heap.size) (o := 0) (v := .int .i64 s) (by go_simp)
    have p1 := k2.cell (b := w1.heap.size) (o := 1) (v := .int .i64 d) (by go_simp)
    have p2 := k2.cell (b := w1.heap.size) (o := 2) (v := .int .i64 t) (by go_simp)
    have K2 : Keep w1 w2 := ((Keep.refl w1).alloc _).trans k2
    go_wp2_with fail
    refine (HS.out _ K2).mono ?_
    rintro e w3 ⟨rfl, k3⟩
    go_wp2
    go_ret
    exact ⟨rfl, (k1.trans K2).trans k3⟩
  obtain ⟨m, rfl, hml, hst, hvm⟩ := svV_some h9
  have hv := voV_some h9
  have hb := bk_le rs s d t m m
  have hbp := bk_pos rs s d t m (by rw [← hvm]; exact h9) m rfl
  have HBS := Lib.hid (bk_same rs s d t m m rfl)
  have HE := Lib.hid (fun (k : Nat) (hk : k ≤ rs.length) => (svV_yes (by simp [vrB, hst, inB, hk]) s d t : svV rs (k : Nat) s d t = vN rs s d t k))
  have HVm := Lib.hid (HV.out m)
  have HVj := Lib.hid (fun (j : Nat) (hj : j ≤ rs.length) => HV.out (j : Int))
  have HVE : Hid (∀ (j : Nat) (hj : j ≤ rs.length) W (k : Keep w1 W), Calls Try.prog 28 #[.slice (some ⟨gg, 0, none⟩) rs.length c, .int .i64 (j : Int), .agg #[.int .i64 s, .int .i64 d, .int .i64 t]] W fun e w' => e = .returned (.int .i64 (vN rs s d t j)) ∧ Keep W w') := Lib.hid (fun j hj W k => by rw [← HE.out j hj]; exact HV.out j W k)
  rw [hvm] at HVm
  rw [hv] at HI HS
  obtain ⟨hb0, hbn⟩ := hbp
  clear h9 hvm hv HVj HV hst HE
  generalize bkN rs s d t m m = b at *
  have hneg : ¬ ((b : Int) < 0) := by omega
  go_wp2_with fail
  refine (HI.out _ ((Keep.refl w1).alloc _)).mono ?_
  rintro e w2 ⟨rfl, k2⟩
  have p0 := k2.cell (b := w1.heap.size) (o := 0) (v := .int .i64 s) (by go_simp)
  have p1 := k2.cell (b := w1.heap.size) (o := 1) (v := .int .i64 d) (by go_simp)
  have p2 := k2.cell (b := w1.heap.size) (o := 2) (v := .int .i64 t) (by go_simp)
  have K2 : Keep w1 w2 := ((Keep.refl w1).alloc _).trans k2
  clear k2
  go_wp2_with fail
  refine (HS.out _ K2).mono ?_
  rintro e w3 ⟨rfl, k3⟩
  replace p0 := k3.cell p0
  replace p1 := k3.cell p1
  replace p2 := k3.cell p2
  have K3 : Keep w1 w3 := K2.trans k3
  clear k3 K2
  go_wp2_with fail
  refine (HVm.out _ K3).mono ?_
  rintro e w4 ⟨rfl, k4⟩
  replace p0 := k4.cell p0
  replace p1 := k4.cell p1
  replace p2 := k4.cell p2
  have K4 : Keep w1 w4 := K3.trans k4
  clear k4 K3 HVm HI HS
  obtain ⟨X, hX⟩ : ∃ X, vN rs s d t m = X := ⟨_, rfl⟩
  rw [hX] at hbn ⊢
  have HX := Lib.hid hX
  have HBN := Lib.hid hbn
  clear hX hbn
  go_wp2_with fail
  go_loopw [9] (fun i wr => ∃ j : Nat, b ≤ j ∧ j ≤ m + 1 ∧ i = .int .i64 (j : Int) ∧ Keep w4 wr) (fun i _ => m + 1 - (intOf i).toNat)
  case atStart => exact ⟨b, Nat.le_refl _, by omega, rfl, Keep.refl _⟩
  case round =>
    obtain ⟨j, hj0, hj1, rfl, hKr⟩ := hrel
    have P0 := hKr.cell p0
    have P1 := hKr.cell p1
    have P2 := hKr.cell p2
    by_cases hjm : j ≤ m
    · have hle : (j : Int) ≤ (m : Int) := by omega
      have HVj := Lib.hid (HVE.out j (by omega) _ (K4.trans hKr))
      rw [HBS.out j hj0 hjm, HX.out] at HVj
      go_wp2_with fail
      refine HVj.out.mono ?_
      rintro e w5 ⟨rfl, k5⟩
      go_wp2
      go_roundw
      case rel => exact ⟨j + 1, by omega, by omega, by go_num, hKr.trans k5⟩
      case measure => simp [intOf]; omega
    · have hle : ¬ ((j : Int) ≤ (m : Int)) := by omega
      obtain ⟨i, hi⟩ : ∃ i, b = i + 1 := ⟨b - 1, by omega⟩
      have hbi : (b : Int) - 1 = (i : Int) := by omega
      have hbw : IntKind.i64.wrap ((b : Int) - 1) = (i : Int) := by rw [hbi]; exact IntWalk.i64_in _ ⟨by omega, by omega⟩
      have HVi := Lib.hid (HVE.out i (by omega) _ (K4.trans hKr))
      have hne : vN rs s d t i ≠ X := by have := HBN.out; rw [hi, Nat.add_sub_cancel] at this; exact this
      have hne2 : (vN rs s d t i != X) = true := bne_iff_ne.2 hne
      have hbp : (0 : Int) < (b : Int) := by omega
      have hbm : (b : Int) ≤ (m : Int) := by omega
      generalize vN rs s d t i = y at *
      have HI2 := Lib.hid hi
      clear hi hbi
      go_wp2_with fail
      refine HVi.out.mono ?_
      rintro e w5 ⟨rfl, k5⟩
      go_wp2
      go_ret
      exact ⟨rfl, ((k1.trans K4).trans hKr).trans k5⟩

end Go.Proofs.Ytlaajompcbmdoab
