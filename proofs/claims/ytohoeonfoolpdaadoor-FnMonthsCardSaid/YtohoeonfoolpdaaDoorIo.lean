/- DateOf of the program at days that the calendar has not. -/
import Derived.Test.YtohoeonfoolpdaaDoorIq
namespace Go.Proofs.YtohoeonfoolpdaaDoor
open Go.RowKit
set_option linter.unusedVariables false

set_option maxHeartbeats 4000000 in
theorem dateof_impl_no (n c : Int) (w : World) (T : Tabs w) (h : dayOk n c = false) :
    Calls Tryd.prog 14 #[.int .i64 n, .int .i64 c] w fun e w' => e = .returned (.tuple #[.agg #[.int .i64 0, .int .i64 0, .int .i64 0], .bool false]) ∧ Keep w w' := by
  clear T
  have fin : Keep w ((w.alloc (.cells #[.int .i64 n] 3)).alloc (.cells #[.int .i64 0, .int .i64 0, .int .i64 0] 38)) := ((Keep.refl w).alloc _).alloc _
  rcases Bool.eq_false_or_eq_true (cOne c) with hc | hc
  · have HC := Lib.hid hc
    have hh : (decide (n < ys 1 c) = true) ∨ (decide (n < ys 1 c) = false ∧ decide (ys 2201 c ≤ n) = true) := by simp [dayOk, hc] at h; simp; omega
    clear h
    rcases hh with g1 | ⟨g1, g2⟩
    all_goals
      go_enter Tryd.func14, Tryd.ntmps14
      go_wp2_with fail
      go_quiet ((first | (go_at_call 38; exact quietS (Calls.lit hc (cv_any _ _))) | (go_at_call 39; exact quietS (ys_impl _ c _ HC.out (by omega) (by omega)))))
      go_wp2
      refine bodyPost_ret (v := .tuple #[.agg #[.int .i64 0, .int .i64 0, .int .i64 0], .bool false]) (by simp [results, Tryd.results14, go_sem, *]) rfl ⟨rfl, ?_⟩
      first | exact fin.drewN _ | exact (((fin.drewN _).setCell (by simp) _).setCell (by simp) _).setCell (by simp) _
  · clear h
    go_enter Tryd.func14, Tryd.ntmps14
    go_wp2_with fail
    go_quiet ((first | (go_at_call 38; exact quietS (Calls.lit hc (cv_any _ _)))))
    go_wp2
    refine bodyPost_ret (v := .tuple #[.agg #[.int .i64 0, .int .i64 0, .int .i64 0], .bool false]) (by simp [results, Tryd.results14, go_sem, *]) rfl ⟨rfl, ?_⟩
    first | exact fin.drewN _ | exact (((fin.drewN _).setCell (by simp) _).setCell (by simp) _).setCell (by simp) _
end Go.Proofs.YtohoeonfoolpdaaDoor
