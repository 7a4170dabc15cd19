/- What rounding is: the nearest number, halves even, and nothing else. -/
import Derived.Test.YtohoeonfoolpdaaDoorHt
namespace Go.Proofs.YtohoeonfoolpdaaDoor
open Go.RowKit
set_option linter.unusedVariables false

theorem rq_unique {n d o s : Int} (hd : 1 ≤ d) (h : n = o * d + s) (h1 : -d ≤ 2 * s) (h2 : 2 * s ≤ d) (h3 : 2 * s = d ∨ 2 * s = -d → o % 2 = 0) : rq n d = o := by
  by_cases hs : 0 ≤ s
  · obtain ⟨e1, e2⟩ := quo_of h hs (by omega)
    rw [rq, e1, e2]
    by_cases he : 2 * s = d
    · exact rqr_even he (h3 (.inl he))
    · exact rqr_low (by omega)
  · obtain ⟨e1, e2⟩ := quo_of (n := n) (q := o - 1) (r := s + d) (by rw [Int.sub_mul]; omega) (by omega) (show s + d < d by omega)
    rw [rq, e1, e2]
    by_cases he : 2 * s = -d
    · have := h3 (.inr he)
      rw [rqr_odd (by omega) (by omega)]; omega
    · rw [rqr_up (by omega)]; omega
theorem rq_facts (n d : Int) (hd : 1 ≤ d) : ∃ o s, rq n d = o ∧ n = o * d + s ∧ -d ≤ 2 * s ∧ 2 * s ≤ d ∧ (2 * s = d ∨ 2 * s = -d → o % 2 = 0) := by
  obtain ⟨q, r, hq, hr, hn, r0, r1⟩ := quo n d hd
  rw [rq, hq, hr]
  by_cases h1 : d < 2 * r
  · exact ⟨q + 1, r - d, rqr_up h1, by rw [Int.add_mul]; omega, by omega, by omega, by omega⟩
  · by_cases h2 : 2 * r = d
    · by_cases h3 : q % 2 = 0
      · exact ⟨q, r, rqr_even h2 h3, by omega, by omega, by omega, fun _ => h3⟩
      · exact ⟨q + 1, r - d, rqr_odd h2 h3, by rw [Int.add_mul]; omega, by omega, by omega, by omega⟩
    · exact ⟨q, r, rqr_low (by omega), by omega, by omega, by omega, by omega⟩
theorem roFacts {n d : Int} (h : roOk n d = true) : ∃ o s, ro n d = o ∧ n - o * d = s ∧ -d ≤ 2 * s ∧ 2 * s ≤ d ∧ (2 * s = d ∨ 2 * s = -d → o % 2 = 0) ∧ (-1000000 ≤ o ∧ o ≤ 1000000) ∧ (-1001000 ≤ o * d ∧ o * d ≤ 1001000) ∧
    (roOk (-n) d = true ∧ ro (-n) d = -o) ∧ (Int.tmod n d = 0 → o * d = n) := by
  obtain ⟨⟨n0, n1⟩, d0, d1⟩ := roOk_facts h
  obtain ⟨o, s, ho, hn, h1, h2, h3⟩ := rq_facts n d d0
  have hm : roOk (-n) d = true := roOk_mk (by omega)
  have ho2 : rq (-n) d = -o := rq_unique (s := -s) d0 (by rw [Int.neg_mul]; omega) (by omega) (by omega) (by intro h; have := h3 (by omega); omega)
  refine ⟨o, s, (ro_yes h).trans ho, by omega, h1, h2, h3, ?_, by omega, ⟨hm, (ro_yes hm).trans ho2⟩, ?_⟩
  · obtain ⟨q, r, hq, hr, hnn, r0, r1⟩ := quo n d d0
    obtain ⟨q1, q2, _, _⟩ := quo_bd d0 hnn r0 r1 (show (0 : Int) ≤ 999999 by omega) (by omega) n1
    have : o = q ∨ o = q + 1 := by
      rw [← ho, rq, hq, hr, rqr]; split <;> omega
    omega
  · intro ht
    have hz : n % d = 0 := Int.emod_eq_zero_of_dvd (Int.dvd_of_tmod_eq_zero ht)
    have hq := Int.ediv_mul_cancel (Int.dvd_of_tmod_eq_zero ht)
    rw [← ho, rq, hz, rqr_low (by omega)]; exact hq

/-- A mean of three numbers, the last one twice, lies between them. -/
theorem rq_three (x y z : Int) : min (min x y) z ≤ rq (x + y + 2 * z) 4 ∧ rq (x + y + 2 * z) 4 ≤ max (max x y) z := by
  obtain ⟨o, s, ho, hn, h1, h2, _⟩ := rq_facts (x + y + 2 * z) 4 (by omega)
  rw [ho]; omega
theorem rq_same (z : Int) : rq (z + z + 2 * z) 4 = z := rq_unique (s := 0) (by omega) (by omega) (by omega) (by omega) (by omega)
theorem rq_two (x y : Int) : -1 ≤ 2 * rq (x + y) 2 - x - y ∧ 2 * rq (x + y) 2 - x - y ≤ 1 := by
  obtain ⟨o, s, ho, hn, h1, h2, _⟩ := rq_facts (x + y) 2 (by omega)
  rw [ho]; omega
/-- A common factor of both numbers has no influence. -/
theorem rq_scale (n d : Int) (hd : 1 ≤ d) : rq (3 * n) (3 * d) = rq n d := by
  obtain ⟨o, s, ho, hn, h1, h2, h3⟩ := rq_facts n d hd
  rw [ho]
  exact rq_unique (s := 3 * s) (by omega) (by rw [Int.mul_left_comm]; omega) (by omega) (by omega) (by intro h; exact h3 (by omega))
end Go.Proofs.YtohoeonfoolpdaaDoor
