/- FillWidth: the program answers as its model, and leaves its argument alone. -/
import Derived.Test.YtmndlghadgccbabGw
import Derived.Test.YtmndlghadgccbabRr
import Derived.Test.YtmndlghadgccbabFr
namespace Go.Proofs.Ytmndlghadgccbab
open Go.RowKit
set_option linter.unusedVariables false

set_option maxRecDepth 100000 in
set_option maxHeartbeats 1000000 in
theorem walk_FnExactFillWidth (a0 : Option Addr) (len0 cap0 : Nat) (z0 : Nat → Nat → Int) (w : World) (w0 : IsRows 2 w a0 len0 cap0 z0) :
    Calls Try.prog 13 #[.slice a0 len0 cap0] w fun e w' => e = .returned (.bool true) ∧ Below w.heap.size w w' := by
  obtain ⟨y0, hl0, hL0, ⟨hm0, hM0⟩⟩ := rr_of_rows w0
  subst hl0
  clear w0
  unfold maxLen at hM0
  by_cases h0 : y0.length ≤ 1048576
  case' neg =>
    go_enter Try.func13, Try.ntmps13
    go_wp2_with (go_at_call 33; refine (szU_big _ _ _ _ (by omega) (by omega)).mono ?_; rintro e w' ⟨rfl, rfl⟩)
    go_ret
    exact ⟨rfl, Below.refl _ _⟩
  have hd0 : decide (1048576 - (y0.length : Int) < 0) = false := by simp; omega
  go_enter Try.func13, Try.ntmps13
  go_wp2_with fail
  refine (szU_any _ _ _ _ h0).mono ?_
  rintro e w' ⟨rfl, rfl⟩
  go_wp2_with fail
  refine (toU_any _ _ y0 _ hL0 h0).mono ?_
  rintro e w1 ⟨g1, hg1, rfl, hW1, k1, hl_k1⟩
  have c1 : Keep w w1 := Keep.trans (Keep.refl w) k1
  go_wp2_with fail
  refine (wd_spec _ _ y0 _ hW1.rr (by omega)).mono ?_
  rintro e w2 ⟨rfl, k2⟩
  have c2 : Keep w w2 := Keep.trans c1 k2
  go_wp2_with fail
  refine (toU_any _ _ y0 _ (hL0.keep c2) h0).mono ?_
  rintro e w3 ⟨g3, hg3, rfl, hW3, k3, hl_k3⟩
  have c3 : Keep w w3 := Keep.trans c2 k3
  go_wp2_with fail
  refine (wd_impl _ _ y0 _ hW3.rr (by omega)).mono ?_
  rintro e w4 ⟨rfl, k4⟩
  have c4 : Keep w w4 := Keep.trans c3 k4
  go_wp2_with fail
  refine (toU_any _ _ y0 _ (hL0.keep c4) h0).mono ?_
  rintro e w5 ⟨g5, hg5, rfl, hW5, k5, hl_k5⟩
  have c5 : Keep w w5 := Keep.trans c4 k5
  have hx := (hW3.keep k4).keep k5
  go_wp2_with fail
  refine (eqU_same _ _ _ _ y0 _ hx.rr hW5.rr h0).mono ?_
  rintro e w6 ⟨rfl, k6⟩
  have c6 : Keep w w6 := Keep.trans c5 k6
  go_wp2
  go_ret
  exact ⟨rfl, c6⟩
end Go.Proofs.Ytmndlghadgccbab
