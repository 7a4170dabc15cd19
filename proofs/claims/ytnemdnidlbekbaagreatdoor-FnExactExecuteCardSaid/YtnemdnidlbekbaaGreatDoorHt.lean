/- The hour of another zone: the program and the model answer 'hOk', 'hD', 'hM'. And RoundOf. -/
import Derived.Test.YtnemdnidlbekbaaGreatDoorRq
namespace Go.Proofs.YtnemdnidlbekbaaGreatDoor
open Go.RowKit
set_option linter.unusedVariables false

def hIn (d m z : Int) : Bool := inB d 0 999 && inB m 0 1439 && inB z (-840) 840
def hOk (d m z : Int) : Bool := hIn d m z && inB (d + (m + z) / 1440) 0 999
def hD (d m z : Int) : Int := if hOk d m z then d + (m + z) / 1440 else 0
def hM (d m z : Int) : Int := if hOk d m z then (m + z) % 1440 else 0

theorem inB_yes {a b c : Int} (h : b ≤ a ∧ a ≤ c) : inB a b c = true := by simp [inB]; omega
theorem inB_no {a b c : Int} (h : a < b ∨ c < a) : inB a b c = false := by simp [inB]; omega
theorem inB_cases (a b c : Int) : (inB a b c = true ∧ b ≤ a ∧ a ≤ c) ∨ (inB a b c = false ∧ (a < b ∨ c < a)) := by
  by_cases h : b ≤ a ∧ a ≤ c
  · exact .inl ⟨inB_yes h, h⟩
  · exact .inr ⟨inB_no (by omega), by omega⟩
theorem hIn_facts {d m z : Int} (h : hIn d m z = true) : (0 ≤ d ∧ d ≤ 999) ∧ (0 ≤ m ∧ m ≤ 1439) ∧ (-840 ≤ z ∧ z ≤ 840) := by
  simp [hIn, inB] at h; omega
theorem hIn_no {d m z : Int} (h : hIn d m z = false) : d < 0 ∨ 999 < d ∨ m < 0 ∨ 1439 < m ∨ z < -840 ∨ 840 < z := by
  by_cases hh : (0 ≤ d ∧ d ≤ 999) ∧ (0 ≤ m ∧ m ≤ 1439) ∧ (-840 ≤ z ∧ z ≤ 840)
  · have : hIn d m z = true := by simp [hIn, inB]; omega
    rw [this] at h; cases h
  · omega
theorem hOut_no {d m z : Int} (h : hOk d m z = false) : hOk d m z = false ∧ hD d m z = 0 ∧ hM d m z = 0 := ⟨h, by simp [hD, h], by simp [hM, h]⟩
theorem hOut_yes {d m z : Int} (h : hOk d m z = true) : hOk d m z = true ∧ hD d m z = d + (m + z) / 1440 ∧ hM d m z = (m + z) % 1440 := ⟨h, by simp [hD, h], by simp [hM, h]⟩
theorem hOk_out {d m z : Int} (h : hIn d m z = false) : hOk d m z = false := by simp [hOk, h]

theorem ret3 {a b a' b' : Int} {x x' : Bool} (h1 : a = a') (h2 : b = b') (h3 : x = x') :
    Ending.returned (.tuple #[.int .i64 a, .int .i64 b, .bool x]) = .returned (.tuple #[.int .i64 a', .int .i64 b', .bool x']) := by rw [h1, h2, h3]
theorem ret2 {a a' : Int} {x x' : Bool} (h1 : a = a') (h3 : x = x') :
    Ending.returned (.tuple #[.int .i64 a, .bool x]) = .returned (.tuple #[.int .i64 a', .bool x']) := by rw [h1, h3]

set_option maxHeartbeats 400000 in
theorem hdval_any (d : Int) (w : World) :
    Calls Tryz.prog 146 #[.int .i64 d] w fun e w' => e = .returned (.bool (inB d 0 999)) ∧ w = w' := by
  go_enter Tryz.func146, Tryz.ntmps146
  go_wp2
  all_goals
    go_ret
    refine ⟨retB ?_, rfl⟩
    rw [Bool.eq_iff_iff]; simp [inB]; try omega

def roOk (n d : Int) : Bool := inB n (-999999) 999999 && inB d 1 999
def ro (n d : Int) : Int := if roOk n d then rq n d else 0
theorem roOk_facts {n d : Int} (h : roOk n d = true) : (-999999 ≤ n ∧ n ≤ 999999) ∧ (1 ≤ d ∧ d ≤ 999) := by
  simp [roOk, inB] at h; omega
theorem roOk_mk {n d : Int} (h : (-999999 ≤ n ∧ n ≤ 999999) ∧ (1 ≤ d ∧ d ≤ 999)) : roOk n d = true := by
  simp [roOk, inB]; omega
theorem ro_yes {n d : Int} (h : roOk n d = true) : ro n d = rq n d := by simp [ro, h]
theorem ro_no {n d : Int} (h : roOk n d = false) : ro n d = 0 := by simp [ro, h]

set_option maxHeartbeats 1000000 in
theorem ro_impl (n d : Int) (w : World) :
    Calls Tryz.prog 127 #[.int .i64 n, .int .i64 d] w fun e w' => e = .returned (.tuple #[.int .i64 (ro n d), .bool (roOk n d)]) ∧ w = w' := by
  rcases Bool.eq_false_or_eq_true (roOk n d) with h | h
  · obtain ⟨⟨n0, n1⟩, d0, d1⟩ := roOk_facts h
    rw [ro_yes h, h]
    clear h
    go_enter Tryz.func127, Tryz.ntmps127
    go_wp2_with (go_at_call 144; refine (rq_impl n d _ d0 (by omega) (by omega) (by omega)).mono ?_; rintro e w' ⟨rfl, rfl⟩)
    go_ret2
    exact ⟨rfl, rfl⟩
  · rw [ro_no h, h]
    have hn : n < -999999 ∨ 999999 < n ∨ d < 1 ∨ 999 < d := by
      by_cases hh : (-999999 ≤ n ∧ n ≤ 999999) ∧ (1 ≤ d ∧ d ≤ 999)
      · rw [roOk_mk hh] at h; cases h
      · omega
    clear h
    go_enter Tryz.func127, Tryz.ntmps127
    go_wp2_with fail
    all_goals first | (go_ret2; exact ⟨rfl, rfl⟩) | (exfalso; omega)
set_option maxHeartbeats 1000000 in
theorem l4r_any (n d : Int) (w : World) (hd : 1 ≤ d) (hd2 : d ≤ 2000) (h0 : -3000000 ≤ n) (h1 : n ≤ 3000000) :
    Calls Tryz.prog 116 #[.int .i64 n, .int .i64 d] w fun e w' => e = .returned (.int .i64 (rq n d)) ∧ w = w' := by
  obtain ⟨q, r, hq, hr, hrq, r0, r1, ⟨q1, q2⟩, q3, q4⟩ := rq_split n d hd hd2 h0 h1
  have HQ := Lib.hid hq
  have HR := Lib.hid hr
  have HRQ := Lib.hid hrq
  have M2 := mod2 q
  have hcase : (d < 2 * r) ∨ (2 * r < d) ∨ (2 * r = d ∧ q % 2 ≠ 0) ∨ (2 * r = d ∧ q % 2 = 0) := by omega
  clear hq hr hrq
  rcases hcase with c | c | ⟨c, c2⟩ | ⟨c, c2⟩
  · have t1 : decide (d < 2 * r) = true := by simp; omega
    go_enter Tryz.func116, Tryz.ntmps116
    go_wp2_with fail
    refine (l2d_any n d _ hd hd2 h0 h1).mono ?_
    rintro e w' ⟨he, rfl⟩
    rw [HQ.out] at he
    subst he
    have hr := HR.out
    go_wp2
    go_ret
    exact ⟨retI (HRQ.out.trans (rqr_up c)).symm, rfl⟩
  · have t1 : decide (d < 2 * r) = false := by simp; omega
    have t2 : ((2 * r : Int) == d) = false := by simp; omega
    go_enter Tryz.func116, Tryz.ntmps116
    go_wp2_with fail
    refine (l2d_any n d _ hd hd2 h0 h1).mono ?_
    rintro e w' ⟨he, rfl⟩
    rw [HQ.out] at he
    subst he
    have hr := HR.out
    go_wp2
    go_ret
    exact ⟨retI (HRQ.out.trans (rqr_low c)).symm, rfl⟩
  · have t1 : decide (d < 2 * r) = false := by simp; omega
    have t2 : ((2 * r : Int) == d) = true := by simp; omega
    have t3 : decide (q % 2 = 0) = false := by simp; omega
    have t4 : (Int.tmod q 2 != 0) = true := by rw [bne, M2, t3]; rfl
    go_enter Tryz.func116, Tryz.ntmps116
    go_wp2_with fail
    refine (l2d_any n d _ hd hd2 h0 h1).mono ?_
    rintro e w' ⟨he, rfl⟩
    rw [HQ.out] at he
    subst he
    have hr := HR.out
    go_wp2
    go_ret
    exact ⟨retI (HRQ.out.trans (rqr_odd c c2)).symm, rfl⟩
  · have t1 : decide (d < 2 * r) = false := by simp; omega
    have t2 : ((2 * r : Int) == d) = true := by simp; omega
    have t3 : decide (q % 2 = 0) = true := by simp; omega
    have t4 : (Int.tmod q 2 != 0) = false := by rw [bne, M2, t3]; rfl
    go_enter Tryz.func116, Tryz.ntmps116
    go_wp2_with fail
    refine (l2d_any n d _ hd hd2 h0 h1).mono ?_
    rintro e w' ⟨he, rfl⟩
    rw [HQ.out] at he
    subst he
    have hr := HR.out
    go_wp2
    go_ret
    exact ⟨retI (HRQ.out.trans (rqr_even c c2)).symm, rfl⟩
end Go.Proofs.YtnemdnidlbekbaaGreatDoor
