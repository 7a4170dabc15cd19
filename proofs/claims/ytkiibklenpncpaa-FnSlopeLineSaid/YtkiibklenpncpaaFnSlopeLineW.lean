/- P134: a line has its slope and its differences. -/
import Derived.Test.YtkiibklenpncpaaDrLi
import Derived.Test.YtkiibklenpncpaaTrL
import Derived.Test.YtkiibklenpncpaaTrS
import Derived.Test.YtkiibklenpncpaaTrD
import Derived.Test.YtkiibklenpncpaaSl
import Derived.Test.YtkiibklenpncpaaLw
import Derived.Test.YtkiibklenpncpaaFr
import Derived.LoopTactic
import Derived.IntWalk
namespace Go.Proofs.Ytkiibklenpncpaa
open Go.RowKit
set_option linter.unusedVariables false

set_option maxRecDepth 100000 in
set_option maxHeartbeats 6400000 in
theorem walk_FnSlopeLine (a0 : Option Addr) (len0 cap0 : Nat) (z0 : List Int) (w : World) (w0 : IsRow .u8 w a0 len0 cap0 z0) :
    Calls Try.prog 7 #[.slice a0 len0 cap0] w fun e w' => e = .returned (.bool true) ∧ Below w.heap.size w w' := by
  have ha := code_of_row w0
  obtain ⟨hl0, hm0⟩ := ha.1
  unfold maxLen at hm0
  clear w0
  by_cases h : len0 ≤ 1048576
  case' neg =>
    have hd : decide (1048576 < (len0 : Int)) = true := by simp; omega
    go_enter Try.func7, Try.ntmps7
    go_wp2
    go_ret
    exact ⟨rfl, Below.refl _ _⟩
  have hd : decide (1048576 < (len0 : Int)) = false := by simp; omega
  go_enter Try.func7, Try.ntmps7
  go_wp2_with fail
  refine (drawLineOf a0 len0 cap0 _ ha).mono ?_
  rintro e w1 ⟨f, s, d, rfl, k1⟩
  clear ha
  have hll := liL_len f s d
  go_wp2_with fail
  refine (li_impl f s d _).mono ?_
  rintro e w2 ⟨p, q, rfl, hq, hF, k2⟩
  go_wp2_with fail
  refine (li_spec f s d _).mono ?_
  rintro e w3 ⟨p3, q3, rfl, hq3, hF3, k3⟩
  have K3 : Keep w w3 := (k1.trans k2).trans k3
  have hO := hF.ls.keep k3
  have hW := hF3.ls
  clear hF hF3 k1 k2 k3
  have hcase : liB f s d = false ∨ ∃ n : Nat, d = (n : Int) ∧ 1 ≤ n ∧ n ≤ 12 ∧ liB f s (n : Int) = true ∧ liL f s (n : Int) = lil f s n := by
    cases h : liB f s d with
    | false => exact .inl rfl
    | true =>
      obtain ⟨_, n, rfl, h1, h2, _⟩ := liB_facts h
      exact .inr ⟨n, rfl, h1, h2, h, liL_yes h⟩
  rcases hcase with hb | ⟨n, rfl, n1, n2, hb, hL⟩
  · rw [hb]
    generalize liL f s d = L at *
    go_wp2_with fail
    refine (sI_eq p p3 q q3 L _ hO hW (by omega)).mono ?_
    rintro e w4 ⟨rfl, k4⟩
    go_wp2_with fail
    refine (sI_eq p p3 q q3 L _ (hO.keep k4) (hW.keep k4) (by omega)).mono ?_
    rintro e w5 ⟨rfl, k5⟩
    go_wp2
    go_ret
    exact ⟨rfl, (K3.trans k4).trans k5⟩
  rw [hb, hL]
  rw [hL] at hO hW hq hq3 hll
  clear hL
  by_cases h2 : n < 2
  · have d2 : decide ((n : Int) < 2) = true := by simp; omega
    generalize lil f s n = L at *
    go_wp2_with fail
    refine (sI_eq p p3 q q3 L _ hO hW (by omega)).mono ?_
    rintro e w4 ⟨rfl, k4⟩
    go_wp2_with fail
    refine (sI_eq p p3 q q3 L _ (hO.keep k4) (hW.keep k4) (by omega)).mono ?_
    rintro e w5 ⟨rfl, k5⟩
    go_wp2
    go_ret
    exact ⟨rfl, (K3.trans k4).trans k5⟩
  have d2 : decide ((n : Int) < 2) = false := by simp; omega
  have hD := li_diffs hb (by omega)
  have hS := sl_line hb (by omega)
  have HLn : Hid ((dfl (lil f s n)).length = n - 1) := Lib.hid (by rw [dfl_len, lil_len])
  have HDf := Lib.hid (fun W (k : Keep w3 W) => by
    have h1 := df_impl p q (lil f s n) W (hO.keep k) (by omega)
    rw [dfL_yes hD.1, hD.1] at h1
    exact h1)
  have HSl := Lib.hid (fun W (k : Keep w3 W) => by
    have h1 := sl_impl p q (lil f s n) W (hO.keep k) (by omega)
    rw [hS.1, hS.2.1, hS.2.2] at h1
    exact h1)
  have HAt := Lib.hid (fun i (hi : i < n - 1) => hD.2 i (by omega))
  clear hD hS hb
  generalize dfl (lil f s n) = X at *
  generalize lil f s n = L at *
  go_wp2_with fail
  refine (sI_eq p p3 q q3 L _ hO hW (by omega)).mono ?_
  rintro e w4 ⟨rfl, k4⟩
  go_wp2_with fail
  refine (HSl.out _ k4).mono ?_
  rintro e w5 ⟨rfl, k5⟩
  go_wp2_with fail
  refine (HDf.out _ (k4.trans k5)).mono ?_
  rintro e w6 ⟨p6, q6, rfl, hq6, hF6, k6⟩
  have hX := Lib.hid hF6.ls
  have hX12 : X.length ≤ 12 := by have := HLn.out; omega
  have K6 : Keep w w6 := ((K3.trans k4).trans k5).trans k6
  clear hF6 HDf HSl k4 k5 k6 hO hW
  go_wp2_with fail
  go_loopw [15] (fun i wr => ∃ (k qq : Nat), k ≤ X.length ∧ i = .int .i64 (k : Int) ∧ wr = w6.drewN qq) (fun i _ => X.length - (intOf i).toNat)
  case atStart => exact ⟨0, 0, by omega, rfl, rfl⟩
  case round =>
    obtain ⟨k, qq, hk, rfl, rfl⟩ := hrel
    by_cases hlt : k < X.length
    · obtain ⟨b, off, rfl, hb, hc⟩ := hX.out.all (by omega)
      have c0 := hc k hlt
      rw [HAt.out k (by have := HLn.out; omega)] at c0
      have k0 : (0 : Int) ≤ (k : Int) := by omega
      have kX : (k : Int) < (X.length : Int) := by omega
      clear hc
      go_wp2_with fail
      try go_quiet (fail)
      try go_wp2
      go_roundw
      case measure => simp [intOf]; omega
      case rel => exact ⟨k + 1, _, by omega, by go_num, rfl⟩
    · obtain rfl : k = X.length := by omega
      have ew : IntKind.i64.wrap ((n : Int) - 1) = (n : Int) - 1 := IntWalk.i64_in _ ⟨by omega, by omega⟩
      have el : ((X.length : Int) == (n : Int) - 1) = true := by have := HLn.out; simp; omega
      go_wp2
      go_ret
      exact ⟨retB (by first | rfl | exact el | simp), K6.drewN _⟩
end Go.Proofs.Ytkiibklenpncpaa
