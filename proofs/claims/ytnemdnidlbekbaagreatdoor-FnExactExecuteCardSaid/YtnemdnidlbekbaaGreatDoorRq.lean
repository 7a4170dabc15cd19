/- Rounded quotients: the program's functions and the model's answer 'rq', the nearest number, halves even. -/
import Derived.Test.YtnemdnidlbekbaaGreatDoorRv
import Derived.Test.YtnemdnidlbekbaaGreatDoorKeep
import Derived.Lib.Hide
import Derived.IntWalk
namespace Go.Proofs.YtnemdnidlbekbaaGreatDoor
open Go.RowKit
set_option linter.unusedVariables false

/-- The quotient q with the rest r, rounded. -/
def rqr (q r d : Int) : Int := if d < 2 * r ∨ (2 * r = d ∧ q % 2 ≠ 0) then q + 1 else q
/-- n / d, rounded. -/
def rq (n d : Int) : Int := rqr (n / d) (n % d) d

/-- Quotients and rests as names. -/
theorem quo (n d : Int) (hd : 1 ≤ d) : ∃ q r : Int, n / d = q ∧ n % d = r ∧ n = q * d + r ∧ 0 ≤ r ∧ r < d := by
  refine ⟨n / d, n % d, rfl, rfl, ?_, Int.emod_nonneg _ (by omega), Int.emod_lt_of_pos _ (by omega)⟩
  have := Int.emod_add_mul_ediv n d
  rw [Int.mul_comm] at this
  omega
theorem quo_of {n d q r : Int} (h : n = q * d + r) (h0 : 0 ≤ r) (h1 : r < d) : n / d = q ∧ n % d = r :=
  (Int.ediv_emod_unique (by omega)).2 ⟨by rw [Int.mul_comm]; omega, h0, h1⟩
/-- A quotient is not farther from 0 than the number, but for 1. -/
theorem quo_bd {n d q r m : Int} (hd : 1 ≤ d) (h : n = q * d + r) (h0 : 0 ≤ r) (h1 : r < d) (hm : 0 ≤ m) (h2 : -m ≤ n) (h3 : n ≤ m) : -m - 1 ≤ q ∧ q ≤ m ∧ -m - d ≤ q * d ∧ q * d ≤ m := by
  refine ⟨?_, ?_, by omega, by omega⟩
  · by_cases hq : 0 ≤ q
    · omega
    · have h4 : 0 ≤ (-q - 1) * (d - 1) := Int.mul_nonneg (by omega) (by omega)
      have h5 : (-q - 1) * (d - 1) = -(q * d) + q - d + 1 := by rw [Int.mul_sub, Int.sub_mul, Int.neg_mul]; omega
      omega
  · by_cases hq : q ≤ 0
    · omega
    · have h4 : 0 ≤ (q - 1) * (d - 1) := Int.mul_nonneg (by omega) (by omega)
      have h5 : (q - 1) * (d - 1) = q * d - q - d + 1 := by rw [Int.mul_sub, Int.sub_mul]; omega
      omega

theorem mod2 (q : Int) : (Int.tmod q 2 == 0) = decide (q % 2 = 0) := by
  rw [Bool.eq_iff_iff]
  simp only [beq_iff_eq, decide_eq_true_eq]
  constructor
  · intro h; exact Int.emod_eq_zero_of_dvd (Int.dvd_of_tmod_eq_zero h)
  · intro h; exact Int.tmod_eq_zero_of_dvd (Int.dvd_of_emod_eq_zero h)

set_option maxHeartbeats 400000 in
theorem fq_up (n d : Int) (w : World) (hd : 1 ≤ d) (hd2 : d ≤ 2000) (h0 : 0 ≤ n) (h1 : n ≤ 3000000) :
    Calls Tryz.prog 150 #[.int .i64 n, .int .i64 d] w fun e w' => e = .returned (.int .i64 (n / d)) ∧ w = w' := by
  have b1 : 0 ≤ n % d := Int.emod_nonneg _ (by omega)
  have b2 : n % d < d := Int.emod_lt_of_pos _ (by omega)
  have b3 : 0 ≤ n / d := Int.ediv_nonneg (by omega) (by omega)
  have b4 : n / d ≤ 3000000 := Int.le_trans (Int.ediv_le_self _ (by omega)) (by omega)
  have g0 : (d == 0) = false := by simp; omega
  go_enter Tryz.func150, Tryz.ntmps150
  go_wp2
  go_ret
  exact ⟨rfl, rfl⟩

set_option maxHeartbeats 400000 in
theorem fq_down (m d : Int) (w : World) (hd : 1 ≤ d) (hd2 : d ≤ 2000) (h0 : 0 < m) (h1 : m ≤ 3000000) :
    Calls Tryz.prog 150 #[.int .i64 (-m), .int .i64 d] w fun e w' => e = .returned (.int .i64 (-m / d)) ∧ w = w' := by
  have e1 : Int.tmod (-m) d = -(m % d) := by rw [Int.neg_tmod, Int.tmod_eq_emod_of_nonneg (by omega)]
  have e2 : Int.tdiv (-m) d = -(m / d) := by rw [Int.neg_tdiv, Int.tdiv_eq_ediv_of_nonneg (by omega)]
  obtain ⟨q, r, hq, hr, hn, r0, r1⟩ := quo m d hd
  obtain ⟨q1, q2, _, _⟩ := quo_bd hd hn r0 r1 (show (0 : Int) ≤ 3000000 by omega) (by omega) h1
  rw [hq] at e2
  rw [hr] at e1
  clear hq hr
  have g0 : (d == 0) = false := by simp; omega
  by_cases hm : 0 < r
  · have HR : Hid (-m / d = -q - 1) := Lib.hid (quo_of (r := d - r) (by rw [Int.sub_mul, Int.neg_mul]; omega) (by omega) (by omega)).1
    have hdc : decide (-r < 0) = true := by simp; omega
    clear hn
    go_enter Tryz.func150, Tryz.ntmps150
    go_wp2
    go_ret
    exact ⟨retI HR.out.symm, rfl⟩
  · have HR : Hid (-m / d = -q) := Lib.hid (quo_of (r := 0) (by rw [Int.neg_mul]; omega) (by omega) (by omega)).1
    have hdc : decide (-r < 0) = false := by simp; omega
    clear hn
    go_enter Tryz.func150, Tryz.ntmps150
    go_wp2
    go_ret
    exact ⟨retI HR.out.symm, rfl⟩

theorem fq_any (n d : Int) (w : World) (hd : 1 ≤ d) (hd2 : d ≤ 2000) (h0 : -3000000 ≤ n) (h1 : n ≤ 3000000) :
    Calls Tryz.prog 150 #[.int .i64 n, .int .i64 d] w fun e w' => e = .returned (.int .i64 (n / d)) ∧ w = w' := by
  by_cases h : 0 ≤ n
  · exact fq_up n d w hd hd2 h h1
  · obtain ⟨m, rfl⟩ : ∃ m : Int, n = -m := ⟨-n, by omega⟩
    exact fq_down m d w hd hd2 (by omega) (by omega)
set_option maxHeartbeats 400000 in
theorem l2d_any (n d : Int) (w : World) (hd : 1 ≤ d) (hd2 : d ≤ 2000) (h0 : -3000000 ≤ n) (h1 : n ≤ 3000000) :
    Calls Tryz.prog 133 #[.int .i64 n, .int .i64 d] w fun e w' => e = .returned (.int .i64 (n / d)) ∧ w = w' := by
  have g0 : (d == 0) = false := by simp; omega
  by_cases h : n < 0
  · obtain ⟨q, r, hq, hr, hn, r0, r1⟩ := quo (-n + d - 1) d hd
    obtain ⟨q1, q2, _, _⟩ := quo_bd hd hn r0 r1 (show (0 : Int) ≤ 4000000 by omega) (by omega) (by omega)
    have HR : Hid (0 - q = n / d) := Lib.hid (quo_of (r := d - 1 - r) (by rw [Int.zero_sub, Int.neg_mul]; omega) (by omega) (by omega)).1.symm
    have hdz : 0 ≤ -n + d - 1 := by omega
    have hdn : decide (n < 0) = true := by simp; omega
    clear hn hr
    go_enter Tryz.func133, Tryz.ntmps133
    go_wp2
    go_ret
    exact ⟨retI (by have := HR.out; omega), rfl⟩
  · have h' : 0 ≤ n := by omega
    have b3 : 0 ≤ n / d := Int.ediv_nonneg (by omega) (by omega)
    have b4 : n / d ≤ 3000000 := Int.le_trans (Int.ediv_le_self _ (by omega)) (by omega)
    have hdn : decide (n < 0) = false := by simp; omega
    go_enter Tryz.func133, Tryz.ntmps133
    go_wp2
    go_ret
    exact ⟨rfl, rfl⟩

/-- What is laid ahead of a rounding: the quotient q and its rest r. -/
theorem rq_split (n d : Int) (hd : 1 ≤ d) (hd2 : d ≤ 2000) (h0 : -3000000 ≤ n) (h1 : n ≤ 3000000) : ∃ q r : Int, n / d = q ∧ n - q * d = r ∧ rq n d = rqr q r d ∧ 0 ≤ r ∧ r < d ∧ (-3000001 ≤ q ∧ q ≤ 3000000) ∧ (-3002000 ≤ q * d ∧ q * d ≤ 3000000) := by
  obtain ⟨q, r, hq, hr, hn, r0, r1⟩ := quo n d hd
  obtain ⟨q1, q2, q3, q4⟩ := quo_bd hd hn r0 r1 (show (0 : Int) ≤ 3000000 by omega) h0 h1
  exact ⟨q, r, hq, by omega, by rw [rq, hq, hr], r0, r1, ⟨by omega, q2⟩, by omega, q4⟩
theorem rqr_up {q r d : Int} (h : d < 2 * r) : rqr q r d = q + 1 := by simp [rqr, h]
theorem rqr_low {q r d : Int} (h : 2 * r < d) : rqr q r d = q := by
  unfold rqr; rw [if_neg (by omega)]
theorem rqr_odd {q r d : Int} (h : 2 * r = d) (h2 : q % 2 ≠ 0) : rqr q r d = q + 1 := by simp [rqr, h, h2]
theorem rqr_even {q r d : Int} (h : 2 * r = d) (h2 : q % 2 = 0) : rqr q r d = q := by
  unfold rqr; rw [if_neg (by omega)]

set_option maxHeartbeats 1000000 in
theorem rq_impl (n d : Int) (w : World) (hd : 1 ≤ d) (hd2 : d ≤ 2000) (h0 : -3000000 ≤ n) (h1 : n ≤ 3000000) :
    Calls Tryz.prog 144 #[.int .i64 n, .int .i64 d] w fun e w' => e = .returned (.int .i64 (rq n d)) ∧ w = w' := by
  obtain ⟨q, r, hq, hr, hrq, r0, r1, ⟨q1, q2⟩, q3, q4⟩ := rq_split n d hd hd2 h0 h1
  have HQ := Lib.hid hq
  have HR := Lib.hid hr
  have HRQ := Lib.hid hrq
  have M2 := mod2 q
  have hcase : (d < 2 * r) ∨ (2 * r < d) ∨ (2 * r = d ∧ q % 2 ≠ 0) ∨ (2 * r = d ∧ q % 2 = 0) := by omega
  clear hq hr hrq
  rcases hcase with c | c | ⟨c, c2⟩ | ⟨c, c2⟩
  · have t1 : decide (d < 2 * r) = true := by simp; omega
    go_enter Tryz.func144, Tryz.ntmps144
    go_wp2_with fail
    refine (fq_any n d _ hd hd2 h0 h1).mono ?_
    rintro e w' ⟨he, rfl⟩
    rw [HQ.out] at he
    subst he
    have hr := HR.out
    go_wp2
    go_ret
    exact ⟨retI (HRQ.out.trans (rqr_up c)).symm, rfl⟩
  · have t1 : decide (d < 2 * r) = false := by simp; omega
    have t2 : ((2 * r : Int) == d) = false := by simp; omega
    go_enter Tryz.func144, Tryz.ntmps144
    go_wp2_with fail
    refine (fq_any n d _ hd hd2 h0 h1).mono ?_
    rintro e w' ⟨he, rfl⟩
    rw [HQ.out] at he
    subst he
    have hr := HR.out
    go_wp2
    go_ret
    exact ⟨retI (HRQ.out.trans (rqr_low c)).symm, rfl⟩
  · have t1 : decide (d < 2 * r) = false := by simp; omega
    have t2 : ((2 * r : Int) == d) = true := by simp; omega
    have t3 : decide (q % 2 = 0) = false := by simp; omega
    have t4 : (Int.tmod q 2 != 0) = true := by rw [bne, M2, t3]; rfl
    go_enter Tryz.func144, Tryz.ntmps144
    go_wp2_with fail
    refine (fq_any n d _ hd hd2 h0 h1).mono ?_
    rintro e w' ⟨he, rfl⟩
    rw [HQ.out] at he
    subst he
    have hr := HR.out
    go_wp2
    go_ret
    exact ⟨retI (HRQ.out.trans (rqr_odd c c2)).symm, rfl⟩
  · have t1 : decide (d < 2 * r) = false := by simp; omega
    have t2 : ((2 * r : Int) == d) = true := by simp; omega
    have t3 : decide (q % 2 = 0) = true := by simp; omega
    have t4 : (Int.tmod q 2 != 0) = false := by rw [bne, M2, t3]; rfl
    go_enter Tryz.func144, Tryz.ntmps144
    go_wp2_with fail
    refine (fq_any n d _ hd hd2 h0 h1).mono ?_
    rintro e w' ⟨he, rfl⟩
    rw [HQ.out] at he
    subst he
    have hr := HR.out
    go_wp2
    go_ret
    exact ⟨retI (HRQ.out.trans (rqr_even c c2)).symm, rfl⟩
end Go.Proofs.YtnemdnidlbekbaaGreatDoor
