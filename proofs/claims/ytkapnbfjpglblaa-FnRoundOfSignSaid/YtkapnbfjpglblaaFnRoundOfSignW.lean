/- P28: rounding does not prefer a sign. -/
import Derived.Test.YtkapnbfjpglblaaRf
import Derived.Test.YtkapnbfjpglblaaDrRo
import Derived.Test.YtkapnbfjpglblaaFr
namespace Go.Proofs.Ytkapnbfjpglblaa
open Go.RowKit
set_option linter.unusedVariables false

set_option maxRecDepth 100000 in
set_option maxHeartbeats 3200000 in
theorem walk_FnRoundOfSign (a0 : Option Addr) (len0 cap0 : Nat) (z0 : List Int) (w : World) (w0 : IsRow .u8 w a0 len0 cap0 z0) :
    Calls Try.prog 6 #[.slice a0 len0 cap0] w fun e w' => e = .returned (.bool true) ∧ Below w.heap.size w w' := by
  have ha := code_of_row w0
  obtain ⟨hl, hm⟩ := ha.1
  unfold maxLen at hm
  clear w0
  by_cases h : len0 ≤ 1048576
  case' neg =>
    have hd : decide (1048576 < (len0 : Int)) = true := by simp; omega
    go_enter Try.func6, Try.ntmps6
    go_wp2
    go_ret
    exact ⟨rfl, Below.refl _ _⟩
  have hd : decide (1048576 < (len0 : Int)) = false := by simp; omega
  go_enter Try.func6, Try.ntmps6
  go_wp2_with fail
  refine (drawRoundOf a0 len0 cap0 _ ha).mono ?_
  rintro e w1 ⟨n, d, rfl, ⟨sn1, sn2⟩, ⟨sd1, sd2⟩, k1⟩
  rcases Bool.eq_false_or_eq_true (roOk n d) with h' | h'
  case' inr =>
    have E := Lib.hid (And.intro h' (ro_no h'))
    clear h'
    go_wp2_with (first | (go_at_call 21; (with_reducible refine (ro_i E.out _).mono ?_); rintro e w' ⟨rfl, rfl⟩) | (go_at_call 22; (with_reducible refine (ro_s E.out _).mono ?_); rintro e w' ⟨rfl, rfl⟩))
    go_ret
    exact ⟨rfl, k1⟩
  case' inl =>
    obtain ⟨o, s, p1, p2, p3, p4, p5, ⟨p6, p7⟩, ⟨p8, p9⟩, p10, p11⟩ := roFacts h'
    obtain ⟨_, d0, d1⟩ := roOk_facts h'
    have E := Lib.hid (And.intro h' p1)
    have E2 := Lib.hid p10
    have P2 := Lib.hid p2
    have P5 := Lib.hid p5
    have P11 := Lib.hid p11
    clear h' p1 p2 p5 p10 p11
    have g0 : (d == 0) = false := by simp; omega
    have hc : (Int.tmod n d == 0) = false ∨ ((Int.tmod n d == 0) = true ∧ (o * d == n) = true) := by
      by_cases q : Int.tmod n d = 0
      · right; exact ⟨by simp [q], by simp [P11.out q]⟩
      · left; simp [q]
    clear P11 P2
    rcases hc with c1 | ⟨c1, c2⟩
    all_goals
      go_wp2_with (first | (go_at_call 21; (with_reducible refine (ro_i E.out _).mono ?_); rintro e w' ⟨rfl, rfl⟩) | (go_at_call 22; (with_reducible refine (ro_s E.out _).mono ?_); rintro e w' ⟨rfl, rfl⟩) | (go_at_call 21; (with_reducible refine (ro_i E2.out _).mono ?_); rintro e w' ⟨rfl, rfl⟩))
      all_goals
        go_ret
        first | exact ⟨rfl, k1⟩ | (refine ⟨retB ?_, k1⟩; simp at *; omega)
end Go.Proofs.Ytkapnbfjpglblaa
