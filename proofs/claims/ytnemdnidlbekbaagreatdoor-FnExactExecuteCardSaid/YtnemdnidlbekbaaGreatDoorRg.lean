/- Ranges: each function of the program and its model answer what the plain functions here say. -/
import Derived.Test.YtnemdnidlbekbaaGreatDoorRv
import Derived.Test.YtnemdnidlbekbaaGreatDoorKeep
import Derived.Lib.Hide
namespace Go.Proofs.YtnemdnidlbekbaaGreatDoor
open Go.RowKit
set_option linter.unusedVariables false

def rgOk (lo hi : Int) : Bool := inB lo (-99999) 99999 && inB hi lo 99999

set_option maxHeartbeats 400000 in
theorem rgMeth (lo hi : Int) (w : World) :
    Calls Tryz.prog 147 #[.agg #[.int .i64 lo, .int .i64 hi]] w fun e w' => e = .returned (.bool (rgOk lo hi)) ∧ Keep w w' := by
  go_enter Tryz.func147, Tryz.ntmps147
  go_wp2
  all_goals
    go_ret
    refine ⟨retB ?_, (Keep.refl _).alloc _⟩
    rw [Bool.eq_iff_iff]
    simp [rgOk, inB, *]
    try omega

def cOk (t : Int) : Bool := inB t (-2000) 2000
def cLo (t : Int) : Int := if cOk t then 18 * t - 9 else 0
def cHi (t : Int) : Int := if cOk t then 18 * t + 9 else 0
def fLo (t : Int) : Int := if cOk t then 10 * (t - 320) - 5 else 0
def fHi (t : Int) : Int := if cOk t then 10 * (t - 320) + 5 else 0

theorem cOk_yes {t : Int} (h : -2000 ≤ t ∧ t ≤ 2000) : cOk t = true := by simp [cOk, inB]; omega
theorem cOk_no {t : Int} (h : t < -2000 ∨ 2000 < t) : cOk t = false := by simp [cOk, inB]; omega
theorem cOk_cases (t : Int) : (cOk t = true ∧ -2000 ≤ t ∧ t ≤ 2000) ∨ (cOk t = false ∧ (t < -2000 ∨ 2000 < t)) := by
  by_cases h : -2000 ≤ t ∧ t ≤ 2000
  · exact .inl ⟨cOk_yes h, h.1, h.2⟩
  · exact .inr ⟨cOk_no (by omega), by omega⟩

theorem retRg {a b a' b' : Int} {x x' : Bool} (h1 : a = a') (h2 : b = b') (h3 : x = x') :
    Ending.returned (.tuple #[.agg #[.int .i64 a, .int .i64 b], .bool x]) = .returned (.tuple #[.agg #[.int .i64 a', .int .i64 b'], .bool x']) := by
  rw [h1, h2, h3]

theorem retRg0 {t : Int} (h : cOk t = false) {a b : Int} (ha : a = 0) (hb : b = 0) :
    Ending.returned (.tuple #[.agg #[.int .i64 0, .int .i64 0], .bool false]) = .returned (.tuple #[.agg #[.int .i64 a, .int .i64 b], .bool (cOk t)]) := by
  rw [h, ha, hb]


end Go.Proofs.YtnemdnidlbekbaaGreatDoor
