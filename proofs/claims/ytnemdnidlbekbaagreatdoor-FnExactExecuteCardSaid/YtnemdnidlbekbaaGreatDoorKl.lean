/- The two functions KindLimits (of the program and of its model) answer what 'kLo', 'kHi' and 'kOk' say. -/
import Derived.Test.YtnemdnidlbekbaaGreatDoorRows
import Derived.WalkKit
namespace Go.Proofs.YtnemdnidlbekbaaGreatDoor
open Go.RowKit

def kLo (k : Int) : Int := if k = 1 then -600 else if k = 3 then 8500 else 0
def kHi (k : Int) : Int := if k = 1 then 600 else if k = 2 then 2000 else if k = 3 then 10900 else 0
def kOk (k : Int) : Bool := decide (1 ≤ k ∧ k ≤ 3)

theorem kVal {k lo hi : Int} {b : Bool} (h1 : lo = kLo k) (h2 : hi = kHi k) (h3 : b = kOk k) :
    Ending.returned (.tuple #[.int .i64 lo, .int .i64 hi, .bool b]) = .returned (.tuple #[.int .i64 (kLo k), .int .i64 (kHi k), .bool (kOk k)]) := by
  rw [h1, h2, h3]

set_option maxHeartbeats 400000 in
theorem kl_impl (k : Int) (w : World) :
    Calls Tryz.prog 96 #[.int .i64 k] w fun e w' => e = .returned (.tuple #[.int .i64 (kLo k), .int .i64 (kHi k), .bool (kOk k)]) ∧ w = w' := by
  by_cases h1 : k = 1
  · subst h1; go_enter Tryz.func96, Tryz.ntmps96; go_wp2; go_ret3; exact ⟨kVal rfl rfl rfl, rfl⟩
  · by_cases h2 : k = 2
    · subst h2; go_enter Tryz.func96, Tryz.ntmps96; go_wp2; go_ret3; exact ⟨kVal rfl rfl rfl, rfl⟩
    · by_cases h3 : k = 3
      · subst h3; go_enter Tryz.func96, Tryz.ntmps96; go_wp2; go_ret3; exact ⟨kVal rfl rfl rfl, rfl⟩
      · go_enter Tryz.func96, Tryz.ntmps96; go_wp2; go_ret3; exact ⟨kVal (by simp [kLo, h1, h3]) (by simp [kHi, h1, h2, h3]) (by simp [kOk]; omega), rfl⟩
set_option maxHeartbeats 400000 in
theorem kl_spec (k : Int) (w : World) :
    Calls Tryz.prog 64 #[.int .i64 k] w fun e w' => e = .returned (.tuple #[.int .i64 (kLo k), .int .i64 (kHi k), .bool (kOk k)]) ∧ w = w' := by
  by_cases h1 : k = 1
  · subst h1; go_enter Tryz.func64, Tryz.ntmps64; go_wp2; go_ret3; exact ⟨kVal rfl rfl rfl, rfl⟩
  · by_cases h2 : k = 2
    · subst h2; go_enter Tryz.func64, Tryz.ntmps64; go_wp2; go_ret3; exact ⟨kVal rfl rfl rfl, rfl⟩
    · by_cases h3 : k = 3
      · subst h3; go_enter Tryz.func64, Tryz.ntmps64; go_wp2; go_ret3; exact ⟨kVal rfl rfl rfl, rfl⟩
      · go_enter Tryz.func64, Tryz.ntmps64; go_wp2; go_ret3; exact ⟨kVal (by simp [kLo, h1, h3]) (by simp [kHi, h1, h2, h3]) (by simp [kOk]; omega), rfl⟩
end Go.Proofs.YtnemdnidlbekbaaGreatDoor
