/- P138: a line goes its way. -/
import Derived.Test.YtkiibklenpncpaaDrLi
import Derived.Test.YtkiibklenpncpaaTrL
import Derived.Test.YtkiibklenpncpaaPy
import Derived.Test.YtkiibklenpncpaaLw
import Derived.Test.YtkiibklenpncpaaFr
import Derived.LoopTactic
import Derived.IntWalk
namespace Go.Proofs.Ytkiibklenpncpaa
open Go.RowKit
set_option linter.unusedVariables false

set_option maxRecDepth 100000 in
set_option maxHeartbeats 6400000 in
theorem walk_FnTrendLine (a0 : Option Addr) (len0 cap0 : Nat) (z0 : List Int) (w : World) (w0 : IsRow .u8 w a0 len0 cap0 z0) :
    Calls Try.prog 6 #[.slice a0 len0 cap0] w fun e w' => e = .returned (.bool true) ∧ Below w.heap.size w w' := by
  have ha := code_of_row w0
  obtain ⟨hl0, hm0⟩ := ha.1
  unfold maxLen at hm0
  clear w0
  by_cases h : len0 ≤ 1048576
  case' neg =>
    have hd : decide (1048576 < (len0 : Int)) = true := by simp; omega
    go_enter Try.func6, Try.ntmps6
    go_wp2
    go_ret
    exact ⟨rfl, Below.refl _ _⟩
  have hd : decide (1048576 < (len0 : Int)) = false := by simp; omega
  go_enter Try.func6, Try.ntmps6
  go_wp2_with fail
  refine (drawLineOf a0 len0 cap0 _ ha).mono ?_
  rintro e w1 ⟨f, s, d, rfl, k1⟩
  clear ha
  have hll := liL_len f s d
  go_wp2_with fail
  refine (li_impl f s d _).mono ?_
  rintro e w2 ⟨p, q, rfl, hq, hF, k2⟩
  go_wp2_with fail
  refine (li_spec f s d _).mono ?_
  rintro e w3 ⟨p3, q3, rfl, hq3, hF3, k3⟩
  have K3 : Keep w w3 := (k1.trans k2).trans k3
  have hO := hF.ls.keep k3
  have hW := hF3.ls
  clear hF hF3 k1 k2 k3
  have hcase : liB f s d = false ∨ ∃ n : Nat, d = (n : Int) ∧ 1 ≤ n ∧ n ≤ 12 ∧ liB f s (n : Int) = true ∧ liL f s (n : Int) = lil f s n := by
    cases h : liB f s d with
    | false => exact .inl rfl
    | true =>
      obtain ⟨_, n, rfl, h1, h2, _⟩ := liB_facts h
      exact .inr ⟨n, rfl, h1, h2, h, liL_yes h⟩
  rcases hcase with hb | ⟨n, rfl, n1, n2, hb, hL⟩
  · rw [hb]
    generalize liL f s d = L at *
    go_wp2_with fail
    refine (sI_eq p p3 q q3 L _ hO hW (by omega)).mono ?_
    rintro e w4 ⟨rfl, k4⟩
    go_wp2_with fail
    refine (sI_eq p p3 q q3 L _ (hO.keep k4) (hW.keep k4) (by omega)).mono ?_
    rintro e w5 ⟨rfl, k5⟩
    go_wp2
    go_ret
    exact ⟨rfl, (K3.trans k4).trans k5⟩
  rw [hb, hL]
  rw [hL] at hO hW hq hq3 hll
  clear hL
  by_cases h2 : n < 2
  · have d2 : decide ((n : Int) < 2) = true := by simp; omega
    generalize lil f s n = L at *
    go_wp2_with fail
    refine (sI_eq p p3 q q3 L _ hO hW (by omega)).mono ?_
    rintro e w4 ⟨rfl, k4⟩
    go_wp2_with fail
    refine (sI_eq p p3 q q3 L _ (hO.keep k4) (hW.keep k4) (by omega)).mono ?_
    rintro e w5 ⟨rfl, k5⟩
    go_wp2
    go_ret
    exact ⟨rfl, (K3.trans k4).trans k5⟩
  have d2 : decide ((n : Int) < 2) = false := by simp; omega
  have hT := tr_line hb (by omega)
  have hcs : (0 < s ∧ trV (lil f s n) = 1) ∨ (s < 0 ∧ trV (lil f s n) = -1) ∨ (s = 0 ∧ trV (lil f s n) = 0) := by
    rcases Int.lt_trichotomy s 0 with h | h | h
    · exact .inr (.inl ⟨h, hT.2.1.2 h⟩)
    · exact .inr (.inr ⟨h, hT.2.2.2 h⟩)
    · exact .inl ⟨h, hT.1.2 h⟩
  clear hT hb
  generalize lil f s n = L at *
  have HTV := Lib.hid (fun W (k : Keep w3 W) => tv_impl p q L W (hO.keep k) (by omega))
  generalize trV L = x at *
  go_wp2_with fail
  refine (sI_eq p p3 q q3 L _ hO hW (by omega)).mono ?_
  rintro e w4 ⟨rfl, k4⟩
  rcases hcs with ⟨hs, rfl⟩ | ⟨hs, rfl⟩ | ⟨hs, rfl⟩
  all_goals
    go_wp2_with fail
    refine (HTV.out _ k4).mono ?_
    rintro e w5 ⟨rfl, k5⟩
    go_wp2
    go_ret
    exact ⟨retB (by first | rfl | (simp; omega) | (simp [hs]; done)), (K3.trans k4).trans k5⟩
end Go.Proofs.Ytkiibklenpncpaa
