/- The two functions ReportValid (of the program and of its model) answer what 'rOk' says. -/
import Derived.Test.YtnemdnidlbekbaaGreatDoorKl
namespace Go.Proofs.YtnemdnidlbekbaaGreatDoor
open Go.RowKit
set_option linter.unusedVariables false

def inB (n lo hi : Int) : Bool := decide (lo ≤ n) && decide (n ≤ hi)
def rOk (s d k v : Int) : Bool := kOk k && inB s 1 9 && inB d 0 999 && inB v (kLo k) (kHi k)

theorem retB {a b : Bool} (h : a = b) : Ending.returned (.bool a) = .returned (.bool b) := by rw [h]
theorem retI {a b : Int} (h : a = b) : Ending.returned (.int .i64 a) = .returned (.int .i64 b) := by rw [h]

set_option maxHeartbeats 400000 in
theorem l6In_any (n lo hi : Int) (w : World) :
    Calls Tryz.prog 65 #[.int .i64 n, .int .i64 lo, .int .i64 hi] w fun e w' => e = .returned (.bool (inB n lo hi)) ∧ w = w' := by
  go_enter Tryz.func65, Tryz.ntmps65
  go_wp2
  all_goals
    go_ret
    refine ⟨retB ?_, rfl⟩
    rw [Bool.eq_iff_iff]; simp [inB]; try omega
set_option maxHeartbeats 400000 in
theorem rv_impl (s d k v : Int) (w : World) :
    Calls Tryz.prog 72 #[.agg #[.int .i64 s, .int .i64 d, .int .i64 k, .int .i64 v]] w fun e w' => e = .returned (.bool (rOk s d k v)) ∧ Below w.heap.size w w' := by
  go_enter Tryz.func72, Tryz.ntmps72
  go_wp2_with (go_at_call 96; refine (kl_impl _ _).mono ?_; rintro e w' ⟨rfl, rfl⟩)
  all_goals
    go_ret
    refine ⟨retB ?_, (Below.refl _ _).alloc (Nat.le_refl _) _⟩
    rw [Bool.eq_iff_iff]
    simp [rOk, inB, *]
    try omega
set_option maxHeartbeats 400000 in
theorem rv_spec (s d k v : Int) (w : World) :
    Calls Tryz.prog 42 #[.agg #[.int .i64 s, .int .i64 d, .int .i64 k, .int .i64 v]] w fun e w' => e = .returned (.bool (rOk s d k v)) ∧ Below w.heap.size w w' := by
  go_enter Tryz.func42, Tryz.ntmps42
  go_wp2_with (first | (go_at_call 64; refine (kl_spec _ _).mono ?_; rintro e w' ⟨rfl, rfl⟩) | (go_at_call 65; refine (l6In_any _ _ _ _).mono ?_; rintro e w' ⟨rfl, rfl⟩))
  all_goals
    go_ret
    refine ⟨retB ?_, (Below.refl _ _).alloc (Nat.le_refl _) _⟩
    simp [rOk, *]
end Go.Proofs.YtnemdnidlbekbaaGreatDoor
