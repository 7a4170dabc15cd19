/- Rounded quotients: the program's functions and the model's answer 'rq', the nearest number, halves even. -/
import Derived.Test.YtohoeonfoolpdaaDoorRv
import Derived.Test.YtohoeonfoolpdaaDoorKeep
import Derived.Lib.Hide
import Derived.IntWalk
namespace Go.Proofs.YtohoeonfoolpdaaDoor
open Go.RowKit
set_option linter.unusedVariables false

/-- The quotient q with the rest r, rounded. -/
def rqr (q r d : Int) : Int := if d < 2 * r ∨ (2 * r = d ∧ q % 2 ≠ 0) then q + 1 else q
/-- n / d, rounded. -/
def rq (n d : Int) : Int := rqr (n / d) (n % d) d

/-- Quotients and rests as names. -/
theorem quo (n d : Int) (hd : 1 ≤ d) : ∃ q r : Int, n / d = q ∧ n % d = r ∧ n = q * d + r ∧ 0 ≤ r ∧ r < d := by
  refine ⟨n / d, n % d, rfl, rfl, ?_, Int.emod_nonneg _ (by omega), Int.emod_lt_of_pos _ (by omega)⟩
  have := Int.emod_add_mul_ediv n d
  rw [Int.mul_comm] at this
  omega
theorem quo_of {n d q r : Int} (h : n = q * d + r) (h0 : 0 ≤ r) (h1 : r < d) : n / d = q ∧ n % d = r :=
  (Int.ediv_emod_unique (by omega)).2 ⟨by rw [Int.mul_comm]; omega, h0, h1⟩
/-- A quotient is not farther from 0 than the number, but for 1. -/
theorem quo_bd {n d q r m : Int} (hd : 1 ≤ d) (h : n = q * d + r) (h0 : 0 ≤ r) (h1 : r < d) (hm : 0 ≤ m) (h2 : -m ≤ n) (h3 : n ≤ m) : -m - 1 ≤ q ∧ q ≤ m ∧ -m - d ≤ q * d ∧ q * d ≤ m := by
  refine ⟨?_, ?_, by omega, by omega⟩
  · by_cases hq : 0 ≤ q
    · omega
    · have h4 : 0 ≤ (-q - 1) * (d - 1) := Int.mul_nonneg (by omega) (by omega)
      have h5 : (-q - 1) * (d - 1) = -(q * d) + q - d + 1 := by rw [Int.mul_sub, Int.sub_mul, Int.neg_mul]; omega
      omega
  · by_cases hq : q ≤ 0
    · omega
    · have h4 : 0 ≤ (q - 1) * (d - 1) := Int.mul_nonneg (by omega) (by omega)
      have h5 : (q - 1) * (d - 1) = q * d - q - d + 1 := by rw [Int.mul_sub, Int.sub_mul]; omega
      omega

theorem mod2 (q : Int) : (Int.tmod q 2 == 0) = decide (q % 2 = 0) := by
  rw [Bool.eq_iff_iff]
  simp only [beq_iff_eq, decide_eq_true_eq]
  constructor
  · intro h; exact Int.emod_eq_zero_of_dvd (Int.dvd_of_tmod_eq_zero h)
  · intro h; exact Int.tmod_eq_zero_of_dvd (Int.dvd_of_emod_eq_zero h)


/-- What is laid ahead of a rounding: the quotient q and its rest r. -/
theorem rq_split (n d : Int) (hd : 1 ≤ d) (hd2 : d ≤ 2000) (h0 : -3000000 ≤ n) (h1 : n ≤ 3000000) : ∃ q r : Int, n / d = q ∧ n - q * d = r ∧ rq n d = rqr q r d ∧ 0 ≤ r ∧ r < d ∧ (-3000001 ≤ q ∧ q ≤ 3000000) ∧ (-3002000 ≤ q * d ∧ q * d ≤ 3000000) := by
  obtain ⟨q, r, hq, hr, hn, r0, r1⟩ := quo n d hd
  obtain ⟨q1, q2, q3, q4⟩ := quo_bd hd hn r0 r1 (show (0 : Int) ≤ 3000000 by omega) h0 h1
  exact ⟨q, r, hq, by omega, by rw [rq, hq, hr], r0, r1, ⟨by omega, q2⟩, by omega, q4⟩
theorem rqr_up {q r d : Int} (h : d < 2 * r) : rqr q r d = q + 1 := by simp [rqr, h]
theorem rqr_low {q r d : Int} (h : 2 * r < d) : rqr q r d = q := by
  unfold rqr; rw [if_neg (by omega)]
theorem rqr_odd {q r d : Int} (h : 2 * r = d) (h2 : q % 2 ≠ 0) : rqr q r d = q + 1 := by simp [rqr, h, h2]
theorem rqr_even {q r d : Int} (h : 2 * r = d) (h2 : q % 2 = 0) : rqr q r d = q := by
  unfold rqr; rw [if_neg (by omega)]

end Go.Proofs.YtohoeonfoolpdaaDoor
