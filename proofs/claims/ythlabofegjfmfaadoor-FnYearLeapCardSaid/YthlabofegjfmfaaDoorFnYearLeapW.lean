/- P19: 29 February is in long years only. -/
import Derived.Test.YthlabofegjfmfaaDoorDrCal
import Derived.Test.YthlabofegjfmfaaDoorCv
import Derived.Test.YthlabofegjfmfaaDoorCw
namespace Go.Proofs.YthlabofegjfmfaaDoor
open Go.RowKit
set_option linter.unusedVariables false

theorem yl_feb (y c : Int) : dv y 2 29 c = yl y c := by
  rcases Bool.eq_false_or_eq_true (cOne c) with hc | hc
  · rcases Bool.eq_false_or_eq_true (yOk y) with hy | hy
    · rw [feb29 y c hc hy, yl_in hc hy]
    · rw [dv_ny hy, yl_ny hy]
  · rw [dv_nc hc, yl_nc hc]

set_option maxRecDepth 100000 in
set_option maxHeartbeats 3200000 in
theorem walk_FnYearLeap (a0 : Option Addr) (len0 cap0 : Nat) (z0 : List Int) (w : World) (w0 : IsRow .u8 w a0 len0 cap0 z0) (T : Tabs w) :
    Calls Tryd.prog 7 #[.slice a0 len0 cap0] w fun e w' => e = .returned (.bool true) ∧ Below w.heap.size w w' := by
  have ha := code_of_row w0
  obtain ⟨hl, hm⟩ := ha.1
  unfold maxLen at hm
  clear w0
  by_cases h : len0 ≤ 1048576
  case' neg =>
    have hd : decide (1048576 < (len0 : Int)) = true := by simp; omega
    go_enter Tryd.func7, Tryd.ntmps7
    go_wp2
    go_ret
    exact ⟨rfl, Below.refl _ _⟩
  have hd : decide (1048576 < (len0 : Int)) = false := by simp; omega
  go_enter Tryd.func7, Tryd.ntmps7
  go_wp2_with fail
  refine (drawYearLong a0 len0 cap0 _ ha).mono ?_
  rintro e w1 ⟨y, c, rfl, ⟨hy1, hy2⟩, ⟨hc1, hc2⟩, hk⟩
  have T1 := Lib.hid (T.keep hk)
  have E := yl_feb y c
  clear T
  cases hl : yl y c
  all_goals
    rw [hl] at E
    go_wp2_with (first | (go_at_call 25; refine (ylong_spec _ _ _).mono ?_; rintro e w' ⟨rfl, rfl⟩) | (go_at_call 24; refine (ylong_impl _ _ _).mono ?_; rintro e w' ⟨rfl, rfl⟩) | (go_at_call 22; refine (dv_impl y 2 29 c _ (T1.out)).mono ?_; rintro e w' ⟨rfl, hk2⟩))
    first
      | (go_ret; exact ⟨rfl, hk.trans hk2⟩)
  end Go.Proofs.YthlabofegjfmfaaDoor
