/- The walk of the law on the joining of ranges. -/
import Derived.Test.YtalkfggkpjakiaaDrRgA
import Derived.Test.YtalkfggkpjakiaaRm
import Derived.Test.YtalkfggkpjakiaaFr
namespace Go.Proofs.Ytalkfggkpjakiaa
open Go.RowKit
set_option linter.unusedVariables false

theorem jYes {a b c d : Int} (h : jOk a b c d = true) : jLo a b c d = min a c ∧ jHi a b c d = max b d := by
  simp [jLo, jHi, h]
theorem jNo {a b c d : Int} (h : jOk a b c d = false) : jLo a b c d = 0 ∧ jHi a b c d = 0 := by
  simp [jLo, jHi, h]
theorem jFacts {a b c d l r : Int} (h : jOk a b c d = true) (hl : l = min a c) (hr : r = max b d) :
    (mOk l r a b = true ∧ mLo l r a b = a ∧ mHi l r a b = b) ∧ (mOk l r c d = true ∧ mLo l r c d = c ∧ mHi l r c d = d) ∧ (jOk l r c d = true ∧ jLo l r c d = l ∧ jHi l r c d = r) := by
  have h' : -99999 ≤ a ∧ a ≤ b ∧ b ≤ 99999 ∧ -99999 ≤ c ∧ c ≤ d ∧ d ≤ 99999 := by simp [jOk, rgOk, inB] at h; omega
  have m1 : mOk l r a b = true := by simp [mOk, rgOk, inB]; omega
  have m2 : mOk l r c d = true := by simp [mOk, rgOk, inB]; omega
  have m3 : jOk l r c d = true := by simp [jOk, rgOk, inB]; omega
  refine ⟨⟨m1, ?_, ?_⟩, ⟨m2, ?_, ?_⟩, ⟨m3, ?_, ?_⟩⟩
  · simp [mLo, m1]; omega
  · simp [mHi, m1]; omega
  · simp [mLo, m2]; omega
  · simp [mHi, m2]; omega
  · simp [jLo, m3]; omega
  · simp [jHi, m3]; omega

set_option maxRecDepth 100000 in
set_option maxHeartbeats 3200000 in
theorem walk_FnRangeJoin (a0 : Option Addr) (len0 cap0 : Nat) (z0 : List Int) (w : World) (w0 : IsRow .u8 w a0 len0 cap0 z0) :
    Calls Try.prog 11 #[.slice a0 len0 cap0] w fun e w' => e = .returned (.bool true) ∧ Below w.heap.size w w' := by
  have ha := code_of_row w0
  obtain ⟨hl, hm⟩ := ha.1
  unfold maxLen at hm
  clear w0
  by_cases h : len0 ≤ 1048576
  case' neg =>
    have hd : decide (1048576 < (len0 : Int)) = true := by simp; omega
    go_enter Try.func11, Try.ntmps11
    go_wp2
    go_ret
    exact ⟨rfl, Below.refl _ _⟩
  have hd : decide (1048576 < (len0 : Int)) = false := by simp; omega
  go_enter Try.func11, Try.ntmps11
  go_wp2_with fail
  refine (drawRangeJoin a0 len0 cap0 _ ha).mono ?_
  rintro e w1 ⟨a, b, c, d, rfl, ha1, hb1, hc1, hd1, k1⟩
  have c1 : Keep w w1 := Keep.trans (Keep.refl w) k1
  rcases Bool.eq_false_or_eq_true (jOk a b c d) with hk0 | hk0
  case' inr =>
    have e1 := Lib.hid (jNo hk0).1
    have e2 := Lib.hid (jNo hk0).2
    have hk := Lib.hid hk0
    clear hk0
    go_wp2_with fail
    refine (jOk_impl a b c d _).mono ?_
    rintro e w2 ⟨he, k2⟩
    rw [e1.out, e2.out, hk.out] at he
    subst he
    have p2_0 : w2.cell? ⟨w1.heap.size, 0, none⟩ = some (.int .i64 a) := k2.cell (by first | go_simp)
    have p2_1 : w2.cell? ⟨w1.heap.size, 1, none⟩ = some (.int .i64 b) := k2.cell (by first | go_simp)
    have q2_0 : w2.cell? ⟨w1.heap.size + 1, 0, none⟩ = some (.int .i64 c) := k2.cell (by first | go_simp)
    have q2_1 : w2.cell? ⟨w1.heap.size + 1, 1, none⟩ = some (.int .i64 d) := k2.cell (by first | go_simp)
    have zp2 : w1.heap.size < w2.heap.size := World.block_lt_of_cell? w2 _ p2_0
    have zq2 : w1.heap.size + 1 < w2.heap.size := World.block_lt_of_cell? w2 _ q2_0
    have c2 : Keep w w2 := Keep.trans ((c1.alloc _).alloc _) k2
    go_wp2_with fail
    refine (jOk_spec a b c d _).mono ?_
    rintro e w3 ⟨he, k3⟩
    rw [e1.out, e2.out, hk.out] at he
    subst he
    have p3_0 : w3.cell? ⟨w1.heap.size, 0, none⟩ = some (.int .i64 a) := k3.cell (by first | exact p2_0 | go_simp)
    have p3_1 : w3.cell? ⟨w1.heap.size, 1, none⟩ = some (.int .i64 b) := k3.cell (by first | exact p2_1 | go_simp)
    have q3_0 : w3.cell? ⟨w1.heap.size + 1, 0, none⟩ = some (.int .i64 c) := k3.cell (by first | exact q2_0 | go_simp)
    have q3_1 : w3.cell? ⟨w1.heap.size + 1, 1, none⟩ = some (.int .i64 d) := k3.cell (by first | exact q2_1 | go_simp)
    have x3_0 : w3.cell? ⟨w2.heap.size, 0, none⟩ = some (.int .i64 0) := k3.cell (by first | go_simp)
    have x3_1 : w3.cell? ⟨w2.heap.size, 1, none⟩ = some (.int .i64 0) := k3.cell (by first | go_simp)
    have zp3 : w1.heap.size < w3.heap.size := World.block_lt_of_cell? w3 _ p3_0
    have zq3 : w1.heap.size + 1 < w3.heap.size := World.block_lt_of_cell? w3 _ q3_0
    have zx3 : w2.heap.size < w3.heap.size := World.block_lt_of_cell? w3 _ x3_0
    have c3 : Keep w w3 := Keep.trans (c2.alloc _) k3
    go_wp2
    all_goals
      go_ret
      refine ⟨retB ?_, (show Keep w _ from (c3.alloc _))⟩
      first | rfl | (simp at *; omega) | (simp at *; done) | omega
  case' inl =>
    obtain ⟨l, e1, hl⟩ : ∃ l : Int, Hid (jLo a b c d = l) ∧ Hid (l = min a c) := ⟨_, Lib.hid (jYes hk0).1, Lib.hid rfl⟩
    obtain ⟨r, e2, hr⟩ : ∃ r : Int, Hid (jHi a b c d = r) ∧ Hid (r = max b d) := ⟨_, Lib.hid (jYes hk0).2, Lib.hid rfl⟩
    have F := Lib.hid (jFacts hk0 hl.out hr.out)
    have hk := Lib.hid hk0
    clear hk0
    go_wp2_with fail
    refine (jOk_impl a b c d _).mono ?_
    rintro e w2 ⟨he, k2⟩
    rw [e1.out, e2.out, hk.out] at he
    subst he
    have p2_0 : w2.cell? ⟨w1.heap.size, 0, none⟩ = some (.int .i64 a) := k2.cell (by first | go_simp)
    have p2_1 : w2.cell? ⟨w1.heap.size, 1, none⟩ = some (.int .i64 b) := k2.cell (by first | go_simp)
    have q2_0 : w2.cell? ⟨w1.heap.size + 1, 0, none⟩ = some (.int .i64 c) := k2.cell (by first | go_simp)
    have q2_1 : w2.cell? ⟨w1.heap.size + 1, 1, none⟩ = some (.int .i64 d) := k2.cell (by first | go_simp)
    have zp2 : w1.heap.size < w2.heap.size := World.block_lt_of_cell? w2 _ p2_0
    have zq2 : w1.heap.size + 1 < w2.heap.size := World.block_lt_of_cell? w2 _ q2_0
    have c2 : Keep w w2 := Keep.trans ((c1.alloc _).alloc _) k2
    go_wp2_with fail
    refine (jOk_spec a b c d _).mono ?_
    rintro e w3 ⟨he, k3⟩
    rw [e1.out, e2.out, hk.out] at he
    subst he
    have p3_0 : w3.cell? ⟨w1.heap.size, 0, none⟩ = some (.int .i64 a) := k3.cell (by first | exact p2_0 | go_simp)
    have p3_1 : w3.cell? ⟨w1.heap.size, 1, none⟩ = some (.int .i64 b) := k3.cell (by first | exact p2_1 | go_simp)
    have q3_0 : w3.cell? ⟨w1.heap.size + 1, 0, none⟩ = some (.int .i64 c) := k3.cell (by first | exact q2_0 | go_simp)
    have q3_1 : w3.cell? ⟨w1.heap.size + 1, 1, none⟩ = some (.int .i64 d) := k3.cell (by first | exact q2_1 | go_simp)
    have x3_0 : w3.cell? ⟨w2.heap.size, 0, none⟩ = some (.int .i64 l) := k3.cell (by first | go_simp)
    have x3_1 : w3.cell? ⟨w2.heap.size, 1, none⟩ = some (.int .i64 r) := k3.cell (by first | go_simp)
    have zp3 : w1.heap.size < w3.heap.size := World.block_lt_of_cell? w3 _ p3_0
    have zq3 : w1.heap.size + 1 < w3.heap.size := World.block_lt_of_cell? w3 _ q3_0
    have zx3 : w2.heap.size < w3.heap.size := World.block_lt_of_cell? w3 _ x3_0
    have c3 : Keep w w3 := Keep.trans (c2.alloc _) k3
    go_wp2_with fail
    refine (mOk_impl l r a b _).mono ?_
    rintro e w4 ⟨he, k4⟩
    rw [F.out.1.2.1, F.out.1.2.2, F.out.1.1] at he
    subst he
    have p4_0 : w4.cell? ⟨w1.heap.size, 0, none⟩ = some (.int .i64 a) := k4.cell (by first | exact p3_0 | go_simp)
    have p4_1 : w4.cell? ⟨w1.heap.size, 1, none⟩ = some (.int .i64 b) := k4.cell (by first | exact p3_1 | go_simp)
    have q4_0 : w4.cell? ⟨w1.heap.size + 1, 0, none⟩ = some (.int .i64 c) := k4.cell (by first | exact q3_0 | go_simp)
    have q4_1 : w4.cell? ⟨w1.heap.size + 1, 1, none⟩ = some (.int .i64 d) := k4.cell (by first | exact q3_1 | go_simp)
    have x4_0 : w4.cell? ⟨w2.heap.size, 0, none⟩ = some (.int .i64 l) := k4.cell (by first | exact x3_0 | go_simp)
    have x4_1 : w4.cell? ⟨w2.heap.size, 1, none⟩ = some (.int .i64 r) := k4.cell (by first | exact x3_1 | go_simp)
    have y4_0 : w4.cell? ⟨w3.heap.size, 0, none⟩ = some (.int .i64 l) := k4.cell (by first | go_simp)
    have y4_1 : w4.cell? ⟨w3.heap.size, 1, none⟩ = some (.int .i64 r) := k4.cell (by first | go_simp)
    have zp4 : w1.heap.size < w4.heap.size := World.block_lt_of_cell? w4 _ p4_0
    have zq4 : w1.heap.size + 1 < w4.heap.size := World.block_lt_of_cell? w4 _ q4_0
    have zx4 : w2.heap.size < w4.heap.size := World.block_lt_of_cell? w4 _ x4_0
    have zy4 : w3.heap.size < w4.heap.size := World.block_lt_of_cell? w4 _ y4_0
    have c4 : Keep w w4 := Keep.trans (c3.alloc _) k4
    go_wp2_with fail
    refine (mOk_impl l r c d _).mono ?_
    rintro e w5 ⟨he, k5⟩
    rw [F.out.2.1.2.1, F.out.2.1.2.2, F.out.2.1.1] at he
    subst he
    have p5_0 : w5.cell? ⟨w1.heap.size, 0, none⟩ = some (.int .i64 a) := k5.cell (by first | exact p4_0 | go_simp)
    have p5_1 : w5.cell? ⟨w1.heap.size, 1, none⟩ = some (.int .i64 b) := k5.cell (by first | exact p4_1 | go_simp)
    have q5_0 : w5.cell? ⟨w1.heap.size + 1, 0, none⟩ = some (.int .i64 c) := k5.cell (by first | exact q4_0 | go_simp)
    have q5_1 : w5.cell? ⟨w1.heap.size + 1, 1, none⟩ = some (.int .i64 d) := k5.cell (by first | exact q4_1 | go_simp)
    have x5_0 : w5.cell? ⟨w2.heap.size, 0, none⟩ = some (.int .i64 l) := k5.cell (by first | exact x4_0 | go_simp)
    have x5_1 : w5.cell? ⟨w2.heap.size, 1, none⟩ = some (.int .i64 r) := k5.cell (by first | exact x4_1 | go_simp)
    have y5_0 : w5.cell? ⟨w3.heap.size, 0, none⟩ = some (.int .i64 l) := k5.cell (by first | exact y4_0 | go_simp)
    have y5_1 : w5.cell? ⟨w3.heap.size, 1, none⟩ = some (.int .i64 r) := k5.cell (by first | exact y4_1 | go_simp)
    have u5_0 : w5.cell? ⟨w4.heap.size, 0, none⟩ = some (.int .i64 a) := k5.cell (by first | go_simp)
    have u5_1 : w5.cell? ⟨w4.heap.size, 1, none⟩ = some (.int .i64 b) := k5.cell (by first | go_simp)
    have zp5 : w1.heap.size < w5.heap.size := World.block_lt_of_cell? w5 _ p5_0
    have zq5 : w1.heap.size + 1 < w5.heap.size := World.block_lt_of_cell? w5 _ q5_0
    have zx5 : w2.heap.size < w5.heap.size := World.block_lt_of_cell? w5 _ x5_0
    have zy5 : w3.heap.size < w5.heap.size := World.block_lt_of_cell? w5 _ y5_0
    have zu5 : w4.heap.size < w5.heap.size := World.block_lt_of_cell? w5 _ u5_0
    have c5 : Keep w w5 := Keep.trans (c4.alloc _) k5
    go_wp2_with fail
    refine (jOk_impl l r c d _).mono ?_
    rintro e w6 ⟨he, k6⟩
    rw [F.out.2.2.2.1, F.out.2.2.2.2, F.out.2.2.1] at he
    subst he
    have p6_0 : w6.cell? ⟨w1.heap.size, 0, none⟩ = some (.int .i64 a) := k6.cell (by first | exact p5_0 | go_simp)
    have p6_1 : w6.cell? ⟨w1.heap.size, 1, none⟩ = some (.int .i64 b) := k6.cell (by first | exact p5_1 | go_simp)
    have q6_0 : w6.cell? ⟨w1.heap.size + 1, 0, none⟩ = some (.int .i64 c) := k6.cell (by first | exact q5_0 | go_simp)
    have q6_1 : w6.cell? ⟨w1.heap.size + 1, 1, none⟩ = some (.int .i64 d) := k6.cell (by first | exact q5_1 | go_simp)
    have x6_0 : w6.cell? ⟨w2.heap.size, 0, none⟩ = some (.int .i64 l) := k6.cell (by first | exact x5_0 | go_simp)
    have x6_1 : w6.cell? ⟨w2.heap.size, 1, none⟩ = some (.int .i64 r) := k6.cell (by first | exact x5_1 | go_simp)
    have y6_0 : w6.cell? ⟨w3.heap.size, 0, none⟩ = some (.int .i64 l) := k6.cell (by first | exact y5_0 | go_simp)
    have y6_1 : w6.cell? ⟨w3.heap.size, 1, none⟩ = some (.int .i64 r) := k6.cell (by first | exact y5_1 | go_simp)
    have u6_0 : w6.cell? ⟨w4.heap.size, 0, none⟩ = some (.int .i64 a) := k6.cell (by first | exact u5_0 | go_simp)
    have u6_1 : w6.cell? ⟨w4.heap.size, 1, none⟩ = some (.int .i64 b) := k6.cell (by first | exact u5_1 | go_simp)
    have v6_0 : w6.cell? ⟨w5.heap.size, 0, none⟩ = some (.int .i64 c) := k6.cell (by first | go_simp)
    have v6_1 : w6.cell? ⟨w5.heap.size, 1, none⟩ = some (.int .i64 d) := k6.cell (by first | go_simp)
    have zp6 : w1.heap.size < w6.heap.size := World.block_lt_of_cell? w6 _ p6_0
    have zq6 : w1.heap.size + 1 < w6.heap.size := World.block_lt_of_cell? w6 _ q6_0
    have zx6 : w2.heap.size < w6.heap.size := World.block_lt_of_cell? w6 _ x6_0
    have zy6 : w3.heap.size < w6.heap.size := World.block_lt_of_cell? w6 _ y6_0
    have zu6 : w4.heap.size < w6.heap.size := World.block_lt_of_cell? w6 _ u6_0
    have zv6 : w5.heap.size < w6.heap.size := World.block_lt_of_cell? w6 _ v6_0
    have c6 : Keep w w6 := Keep.trans (c5.alloc _) k6
    go_wp2
    all_goals
      go_ret
      refine ⟨retB ?_, (show Keep w _ from (c6.alloc _))⟩
      first | rfl | (simp at *; omega) | (simp at *; done) | omega
end Go.Proofs.Ytalkfggkpjakiaa
