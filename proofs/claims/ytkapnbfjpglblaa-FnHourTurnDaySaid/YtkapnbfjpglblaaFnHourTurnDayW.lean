/- P26: a zone turns a day by one at most. -/
import Derived.Test.YtkapnbfjpglblaaHt
import Derived.Test.YtkapnbfjpglblaaDrHr
import Derived.Test.YtkapnbfjpglblaaFr
namespace Go.Proofs.Ytkapnbfjpglblaa
open Go.RowKit
set_option linter.unusedVariables false

theorem hBack {d m z D M : Int} (h : hOk d m z = true) (hD' : hD d m z = D) (hM' : hM d m z = M) :
    hOk D M (-z) = true ∧ hD D M (-z) = d ∧ hM D M (-z) = m := by
  obtain ⟨_, e1, e2⟩ := hOut_yes h
  simp only [hOk, Bool.and_eq_true] at h
  obtain ⟨⟨d0, d1⟩, ⟨m0, m1⟩, z0, z1⟩ := hIn_facts h.1
  have h2 := h.2
  simp only [inB, Bool.and_eq_true, decide_eq_true_eq] at h2
  have k : hOk D M (-z) = true := by
    have i : hIn D M (-z) = true := by
      simp only [hIn]; rw [inB_yes (by omega), inB_yes (by omega), inB_yes (by omega)]; rfl
    rw [hOk, i, inB_yes (by omega)]; rfl
  obtain ⟨_, f1, f2⟩ := hOut_yes k
  exact ⟨k, by rw [f1]; omega, by rw [f2]; omega⟩
theorem hFacts {d m z : Int} (h : hOk d m z = true) : ∃ D M, hOk d m z = true ∧ hD d m z = D ∧ hM d m z = M ∧ D * 1440 + M = d * 1440 + m + z ∧ (0 ≤ M ∧ M ≤ 1439) ∧ (0 ≤ D ∧ D ≤ 999) ∧ (0 ≤ d ∧ d ≤ 999) ∧ (0 ≤ m ∧ m ≤ 1439) ∧ (-840 ≤ z ∧ z ≤ 840) ∧ (-1 ≤ D - d ∧ D - d ≤ 1) := by
  obtain ⟨_, e1, e2⟩ := hOut_yes h
  have h' := h
  simp only [hOk, Bool.and_eq_true] at h'
  obtain ⟨⟨d0, d1⟩, ⟨m0, m1⟩, z0, z1⟩ := hIn_facts h'.1
  have h2 := h'.2
  simp only [inB, Bool.and_eq_true, decide_eq_true_eq] at h2
  exact ⟨_, _, h, rfl, rfl, by rw [e1, e2]; omega, by rw [e2]; omega, by rw [e1]; omega, by omega, by omega, by omega, by rw [e1]; omega⟩
theorem ht_i {d m z D M : Int} {x : Bool} (h : hOk d m z = x ∧ hD d m z = D ∧ hM d m z = M) (w : World) :
    Calls Try.prog 18 #[.int .i64 d, .int .i64 m, .int .i64 z] w fun e w' => e = .returned (.tuple #[.int .i64 D, .int .i64 M, .bool x]) ∧ w = w' := by
  rw [← h.1, ← h.2.1, ← h.2.2]; exact ht_impl d m z w
theorem ht_s {d m z D M : Int} {x : Bool} (h : hOk d m z = x ∧ hD d m z = D ∧ hM d m z = M) (w : World) :
    Calls Try.prog 19 #[.int .i64 d, .int .i64 m, .int .i64 z] w fun e w' => e = .returned (.tuple #[.int .i64 D, .int .i64 M, .bool x]) ∧ w = w' := by
  rw [← h.1, ← h.2.1, ← h.2.2]; exact ht_spec d m z w

set_option maxRecDepth 100000 in
set_option maxHeartbeats 3200000 in
theorem walk_FnHourTurnDay (a0 : Option Addr) (len0 cap0 : Nat) (z0 : List Int) (w : World) (w0 : IsRow .u8 w a0 len0 cap0 z0) :
    Calls Try.prog 4 #[.slice a0 len0 cap0] w fun e w' => e = .returned (.bool true) ∧ Below w.heap.size w w' := by
  have ha := code_of_row w0
  obtain ⟨hl, hm⟩ := ha.1
  unfold maxLen at hm
  clear w0
  by_cases h : len0 ≤ 1048576
  case' neg =>
    have hd : decide (1048576 < (len0 : Int)) = true := by simp; omega
    go_enter Try.func4, Try.ntmps4
    go_wp2
    go_ret
    exact ⟨rfl, Below.refl _ _⟩
  have hd : decide (1048576 < (len0 : Int)) = false := by simp; omega
  go_enter Try.func4, Try.ntmps4
  go_wp2_with fail
  refine (drawHourTurn a0 len0 cap0 _ ha).mono ?_
  rintro e w1 ⟨d, m, z, rfl, ⟨sd1, sd2⟩, ⟨sm1, sm2⟩, ⟨sz1, sz2⟩, k1⟩
  rcases Bool.eq_false_or_eq_true (hOk d m z) with h' | h'
  case' inr =>
    have E := Lib.hid (hOut_no h')
    clear h'
    go_wp2_with (first | (go_at_call 18; (with_reducible refine (ht_i E.out _).mono ?_); rintro e w' ⟨rfl, rfl⟩) | (go_at_call 19; (with_reducible refine (ht_s E.out _).mono ?_); rintro e w' ⟨rfl, rfl⟩))
    go_ret
    exact ⟨rfl, k1⟩
  case' inl =>
    obtain ⟨D, M, q1, q2, q3, q4, ⟨q5, q6⟩, ⟨q7, q8⟩, ⟨q9, q10⟩, ⟨q11, q12⟩, ⟨q13, q14⟩, q15, q16⟩ := hFacts h'
    have E := Lib.hid (And.intro q1 (And.intro q2 q3))
    have E2 := Lib.hid (hBack q1 q2 q3)
    clear h' q1 q2 q3
    have q17 : (z = 0 ∧ (D == d) = true ∧ (M == m) = true) ∨ (z != 0) = true := by
      by_cases h0 : z = 0
      · left; simp; omega
      · right; simp [h0]
    clear q4 E2
    rcases q17 with ⟨rfl, t1, t2⟩ | t1
    all_goals
      go_wp2_with (first | (go_at_call 18; (with_reducible refine (ht_i E.out _).mono ?_); rintro e w' ⟨rfl, rfl⟩) | (go_at_call 19; (with_reducible refine (ht_s E.out _).mono ?_); rintro e w' ⟨rfl, rfl⟩))
      go_ret
      exact ⟨rfl, k1⟩
end Go.Proofs.Ytkapnbfjpglblaa
