/- The walk of the law on the limits of kinds: the program and its model agree at every drawn kind, and a limit is there for three kinds. -/
import Derived.Test.YtpejamnecamecaaKl
import Derived.Test.YtpejamnecamecaaRd
namespace Go.Proofs.Ytpejamnecamecaa
open Go.RowKit
set_option linter.unusedVariables false

set_option maxHeartbeats 400000 in
theorem drawKind (a : Option Addr) (len cap : Nat) (w : World) (ha : CodeArg w a len cap) :
    Calls Try.prog 16 #[.slice a len cap] w fun e w' => ∃ k : Int, e = .returned (.int .i64 k) ∧ -1 ≤ k ∧ k ≤ 4 ∧ Below w.heap.size w w' := by
  go_enter Try.func16, Try.ntmps16
  go_wp2_with fail
  refine (open_any a len cap _ ha).mono ?_
  rintro e w1 ⟨rfl, hr, hb, hs⟩
  go_wp2_with fail
  refine (pick_any _ 0 6 _ (by omega) (by omega) hr).mono ?_
  rintro e w2 ⟨z, rfl, h0, h1, hr2, ho, hs2⟩
  go_wp2
  go_ret
  exact ⟨_, rfl, by omega, by omega, hb.trans (ho.below (Nat.le_refl _) (by omega))⟩

set_option maxHeartbeats 400000 in
theorem walk_FnKindLimits (a0 : Option Addr) (len0 cap0 : Nat) (z0 : List Int) (w : World) (w0 : IsRow .u8 w a0 len0 cap0 z0) :
    Calls Try.prog 5 #[.slice a0 len0 cap0] w fun e w' => e = .returned (.bool true) ∧ Below w.heap.size w w' := by
  have ha := code_of_row w0
  obtain ⟨hl, hm⟩ := ha.1
  unfold maxLen at hm
  by_cases h : len0 ≤ 1048576
  · have hd : decide (1048576 < (len0 : Int)) = false := by simp; omega
    go_enter Try.func5, Try.ntmps5
    go_wp2_with fail
    refine (drawKind a0 len0 cap0 _ ha).mono ?_
    rintro e w1 ⟨k, rfl, h0, h1, hb⟩
    have hk : k = -1 ∨ k = 0 ∨ k = 1 ∨ k = 2 ∨ k = 3 ∨ k = 4 := by omega
    rcases hk with rfl | rfl | rfl | rfl | rfl | rfl
    all_goals
      go_wp2_with (first | (go_at_call 15; refine (kl_impl _ _).mono ?_; rintro e w' ⟨rfl, rfl⟩) | (go_at_call 17; refine (kl_spec _ _).mono ?_; rintro e w' ⟨rfl, rfl⟩))
      go_ret
      exact ⟨by simp [kLo, kHi], hb⟩
  · have hd : decide (1048576 < (len0 : Int)) = true := by simp; omega
    go_enter Try.func5, Try.ntmps5
    go_wp2
    go_ret
    exact ⟨rfl, Below.refl _ _⟩
end Go.Proofs.Ytpejamnecamecaa
