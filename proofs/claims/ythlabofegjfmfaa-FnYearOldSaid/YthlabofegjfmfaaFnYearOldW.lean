/- P20: each long year of the new calendar is one of the old calendar. -/
import Derived.Test.YthlabofegjfmfaaDrCal
import Derived.Test.YthlabofegjfmfaaCd
namespace Go.Proofs.Ythlabofegjfmfaa
open Go.RowKit
set_option linter.unusedVariables false

theorem yl_old (y : Int) : (yl y 1 = true → yl y 2 = true) ∧ (yl y 1 ≠ yl y 2 → y % 100 = 0) := by
  unfold yl
  cases h : yOk y
  · simp
  · have c1 : cOne 1 = true := by decide
    have c2 : cOne 2 = true := by decide
    simp only [c1, c2, Bool.true_and]
    unfold lng
    by_cases h4 : y % 4 = 0 <;> by_cases h100 : y % 100 = 0 <;> by_cases h400 : y % 400 = 0 <;> simp [h4, h100, h400]

set_option maxRecDepth 100000 in
set_option maxHeartbeats 3200000 in
theorem walk_FnYearOld (a0 : Option Addr) (len0 cap0 : Nat) (z0 : List Int) (w : World) (w0 : IsRow .u8 w a0 len0 cap0 z0) :
    Calls Try.prog 3 #[.slice a0 len0 cap0] w fun e w' => e = .returned (.bool true) ∧ Below w.heap.size w w' := by
  have ha := code_of_row w0
  obtain ⟨hl, hm⟩ := ha.1
  unfold maxLen at hm
  clear w0
  by_cases h : len0 ≤ 1048576
  case' neg =>
    have hd : decide (1048576 < (len0 : Int)) = true := by simp; omega
    go_enter Try.func3, Try.ntmps3
    go_wp2
    go_ret
    exact ⟨rfl, Below.refl _ _⟩
  have hd : decide (1048576 < (len0 : Int)) = false := by simp; omega
  go_enter Try.func3, Try.ntmps3
  go_wp2_with fail
  refine (drawYearLong a0 len0 cap0 _ ha).mono ?_
  rintro e w1 ⟨y, c, rfl, ⟨hy1, hy2⟩, ⟨hc1, hc2⟩, hk⟩
  have F := yl_old y
  have hcase : (yl y 1 = true ∧ yl y 2 = true) ∨ (yl y 1 = false ∧ yl y 2 = false) ∨ (yl y 1 = false ∧ yl y 2 = true ∧ (y % 100 == 0) = true) := by
    cases h1 : yl y 1 <;> cases h2 : yl y 2 <;> simp [h1, h2] at F ⊢
    exact F
  clear F
  rcases hcase with ⟨e1, e2⟩ | ⟨e1, e2⟩ | ⟨e1, e2, e3⟩
  all_goals
    go_wp2_with (first | (go_at_call 7; refine (ylong_spec _ _ _).mono ?_; rintro e w' ⟨rfl, rfl⟩) | (go_at_call 6; refine (ylong_impl _ _ _).mono ?_; rintro e w' ⟨rfl, rfl⟩))
    go_ret
    exact ⟨rfl, hk⟩
end Go.Proofs.Ythlabofegjfmfaa
