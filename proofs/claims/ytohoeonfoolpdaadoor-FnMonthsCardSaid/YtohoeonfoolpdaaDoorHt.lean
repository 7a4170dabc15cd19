/- The hour of another zone: the program and the model answer 'hOk', 'hD', 'hM'. And RoundOf. -/
import Derived.Test.YtohoeonfoolpdaaDoorRq
namespace Go.Proofs.YtohoeonfoolpdaaDoor
open Go.RowKit
set_option linter.unusedVariables false

def hIn (d m z : Int) : Bool := inB d 0 999 && inB m 0 1439 && inB z (-840) 840
def hOk (d m z : Int) : Bool := hIn d m z && inB (d + (m + z) / 1440) 0 999
def hD (d m z : Int) : Int := if hOk d m z then d + (m + z) / 1440 else 0
def hM (d m z : Int) : Int := if hOk d m z then (m + z) % 1440 else 0

theorem inB_yes {a b c : Int} (h : b ≤ a ∧ a ≤ c) : inB a b c = true := by simp [inB]; omega
theorem inB_no {a b c : Int} (h : a < b ∨ c < a) : inB a b c = false := by simp [inB]; omega
theorem inB_cases (a b c : Int) : (inB a b c = true ∧ b ≤ a ∧ a ≤ c) ∨ (inB a b c = false ∧ (a < b ∨ c < a)) := by
  by_cases h : b ≤ a ∧ a ≤ c
  · exact .inl ⟨inB_yes h, h⟩
  · exact .inr ⟨inB_no (by omega), by omega⟩
theorem hIn_facts {d m z : Int} (h : hIn d m z = true) : (0 ≤ d ∧ d ≤ 999) ∧ (0 ≤ m ∧ m ≤ 1439) ∧ (-840 ≤ z ∧ z ≤ 840) := by
  simp [hIn, inB] at h; omega
theorem hIn_no {d m z : Int} (h : hIn d m z = false) : d < 0 ∨ 999 < d ∨ m < 0 ∨ 1439 < m ∨ z < -840 ∨ 840 < z := by
  by_cases hh : (0 ≤ d ∧ d ≤ 999) ∧ (0 ≤ m ∧ m ≤ 1439) ∧ (-840 ≤ z ∧ z ≤ 840)
  · have : hIn d m z = true := by simp [hIn, inB]; omega
    rw [this] at h; cases h
  · omega
theorem hOut_no {d m z : Int} (h : hOk d m z = false) : hOk d m z = false ∧ hD d m z = 0 ∧ hM d m z = 0 := ⟨h, by simp [hD, h], by simp [hM, h]⟩
theorem hOut_yes {d m z : Int} (h : hOk d m z = true) : hOk d m z = true ∧ hD d m z = d + (m + z) / 1440 ∧ hM d m z = (m + z) % 1440 := ⟨h, by simp [hD, h], by simp [hM, h]⟩
theorem hOk_out {d m z : Int} (h : hIn d m z = false) : hOk d m z = false := by simp [hOk, h]

theorem ret3 {a b a' b' : Int} {x x' : Bool} (h1 : a = a') (h2 : b = b') (h3 : x = x') :
    Ending.returned (.tuple #[.int .i64 a, .int .i64 b, .bool x]) = .returned (.tuple #[.int .i64 a', .int .i64 b', .bool x']) := by rw [h1, h2, h3]
theorem ret2 {a a' : Int} {x x' : Bool} (h1 : a = a') (h3 : x = x') :
    Ending.returned (.tuple #[.int .i64 a, .bool x]) = .returned (.tuple #[.int .i64 a', .bool x']) := by rw [h1, h3]


def roOk (n d : Int) : Bool := inB n (-999999) 999999 && inB d 1 999
def ro (n d : Int) : Int := if roOk n d then rq n d else 0
theorem roOk_facts {n d : Int} (h : roOk n d = true) : (-999999 ≤ n ∧ n ≤ 999999) ∧ (1 ≤ d ∧ d ≤ 999) := by
  simp [roOk, inB] at h; omega
theorem roOk_mk {n d : Int} (h : (-999999 ≤ n ∧ n ≤ 999999) ∧ (1 ≤ d ∧ d ≤ 999)) : roOk n d = true := by
  simp [roOk, inB]; omega
theorem ro_yes {n d : Int} (h : roOk n d = true) : ro n d = rq n d := by simp [ro, h]
theorem ro_no {n d : Int} (h : roOk n d = false) : ro n d = 0 := by simp [ro, h]

end Go.Proofs.YtohoeonfoolpdaaDoor
