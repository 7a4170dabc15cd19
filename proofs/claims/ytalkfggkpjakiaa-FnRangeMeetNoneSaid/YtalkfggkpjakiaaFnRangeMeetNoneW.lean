/- The walk of the law on ranges that are apart. -/
import Derived.Test.YtalkfggkpjakiaaDrRgA
import Derived.Test.YtalkfggkpjakiaaRm
import Derived.Test.YtalkfggkpjakiaaFr
namespace Go.Proofs.Ytalkfggkpjakiaa
open Go.RowKit
set_option linter.unusedVariables false

set_option maxRecDepth 100000 in
set_option maxHeartbeats 3200000 in
theorem walk_FnRangeMeetNone (a0 : Option Addr) (len0 cap0 : Nat) (z0 : List Int) (w : World) (w0 : IsRow .u8 w a0 len0 cap0 z0) :
    Calls Try.prog 10 #[.slice a0 len0 cap0] w fun e w' => e = .returned (.bool true) ∧ Below w.heap.size w w' := by
  have ha := code_of_row w0
  obtain ⟨hl, hm⟩ := ha.1
  unfold maxLen at hm
  clear w0
  by_cases h : len0 ≤ 1048576
  case' neg =>
    have hd : decide (1048576 < (len0 : Int)) = true := by simp; omega
    go_enter Try.func10, Try.ntmps10
    go_wp2
    go_ret
    exact ⟨rfl, Below.refl _ _⟩
  have hd : decide (1048576 < (len0 : Int)) = false := by simp; omega
  go_enter Try.func10, Try.ntmps10
  go_wp2_with fail
  refine (drawRangeMeet a0 len0 cap0 _ ha).mono ?_
  rintro e w1 ⟨a, b, c, d, rfl, ha1, hb1, hc1, hd1, k1⟩
  have c1 : Keep w w1 := Keep.trans (Keep.refl w) k1
  go_wp2_with fail
  refine (mOk_impl a b c d _).mono ?_
  rintro e w2 ⟨rfl, k2⟩
  have p2_0 : w2.cell? ⟨w1.heap.size, 0, none⟩ = some (.int .i64 a) := k2.cell (by first | go_simp)
  have p2_1 : w2.cell? ⟨w1.heap.size, 1, none⟩ = some (.int .i64 b) := k2.cell (by first | go_simp)
  have q2_0 : w2.cell? ⟨w1.heap.size + 1, 0, none⟩ = some (.int .i64 c) := k2.cell (by first | go_simp)
  have q2_1 : w2.cell? ⟨w1.heap.size + 1, 1, none⟩ = some (.int .i64 d) := k2.cell (by first | go_simp)
  have zp2 : w1.heap.size < w2.heap.size := World.block_lt_of_cell? w2 _ p2_0
  have zq2 : w1.heap.size + 1 < w2.heap.size := World.block_lt_of_cell? w2 _ q2_0
  have c2 : Keep w w2 := Keep.trans ((c1.alloc _).alloc _) k2
  go_wp2_with fail
  refine (mOk_spec a b c d _).mono ?_
  rintro e w3 ⟨rfl, k3⟩
  have p3_0 : w3.cell? ⟨w1.heap.size, 0, none⟩ = some (.int .i64 a) := k3.cell (by first | exact p2_0 | go_simp)
  have p3_1 : w3.cell? ⟨w1.heap.size, 1, none⟩ = some (.int .i64 b) := k3.cell (by first | exact p2_1 | go_simp)
  have q3_0 : w3.cell? ⟨w1.heap.size + 1, 0, none⟩ = some (.int .i64 c) := k3.cell (by first | exact q2_0 | go_simp)
  have q3_1 : w3.cell? ⟨w1.heap.size + 1, 1, none⟩ = some (.int .i64 d) := k3.cell (by first | exact q2_1 | go_simp)
  have x3_0 : w3.cell? ⟨w2.heap.size, 0, none⟩ = some (.int .i64 (mLo a b c d)) := k3.cell (by first | go_simp)
  have x3_1 : w3.cell? ⟨w2.heap.size, 1, none⟩ = some (.int .i64 (mHi a b c d)) := k3.cell (by first | go_simp)
  have zp3 : w1.heap.size < w3.heap.size := World.block_lt_of_cell? w3 _ p3_0
  have zq3 : w1.heap.size + 1 < w3.heap.size := World.block_lt_of_cell? w3 _ q3_0
  have zx3 : w2.heap.size < w3.heap.size := World.block_lt_of_cell? w3 _ x3_0
  have c3 : Keep w w3 := Keep.trans (c2.alloc _) k3
  go_wp2_with fail
  refine (rg_spec a b _).mono ?_
  rintro e w4 ⟨rfl, k4⟩
  have p4_0 : w4.cell? ⟨w1.heap.size, 0, none⟩ = some (.int .i64 a) := k4.cell (by first | exact p3_0 | go_simp)
  have p4_1 : w4.cell? ⟨w1.heap.size, 1, none⟩ = some (.int .i64 b) := k4.cell (by first | exact p3_1 | go_simp)
  have q4_0 : w4.cell? ⟨w1.heap.size + 1, 0, none⟩ = some (.int .i64 c) := k4.cell (by first | exact q3_0 | go_simp)
  have q4_1 : w4.cell? ⟨w1.heap.size + 1, 1, none⟩ = some (.int .i64 d) := k4.cell (by first | exact q3_1 | go_simp)
  have x4_0 : w4.cell? ⟨w2.heap.size, 0, none⟩ = some (.int .i64 (mLo a b c d)) := k4.cell (by first | exact x3_0 | go_simp)
  have x4_1 : w4.cell? ⟨w2.heap.size, 1, none⟩ = some (.int .i64 (mHi a b c d)) := k4.cell (by first | exact x3_1 | go_simp)
  have y4_0 : w4.cell? ⟨w3.heap.size, 0, none⟩ = some (.int .i64 (mLo a b c d)) := k4.cell (by first | go_simp)
  have y4_1 : w4.cell? ⟨w3.heap.size, 1, none⟩ = some (.int .i64 (mHi a b c d)) := k4.cell (by first | go_simp)
  have zp4 : w1.heap.size < w4.heap.size := World.block_lt_of_cell? w4 _ p4_0
  have zq4 : w1.heap.size + 1 < w4.heap.size := World.block_lt_of_cell? w4 _ q4_0
  have zx4 : w2.heap.size < w4.heap.size := World.block_lt_of_cell? w4 _ x4_0
  have zy4 : w3.heap.size < w4.heap.size := World.block_lt_of_cell? w4 _ y4_0
  have c4 : Keep w w4 := Keep.trans (c3.alloc _) k4
  rcases Bool.eq_false_or_eq_true (rgOk a b) with h1 | h1
  case' inr =>
    go_wp2
    all_goals
      go_ret
      refine ⟨retB ?_, (show Keep w _ from c4)⟩
      first | rfl | (simp at *; omega) | (simp at *; done) | omega
  go_wp2_with fail
  refine (rg_spec c d _).mono ?_
  rintro e w5 ⟨rfl, k5⟩
  have p5_0 : w5.cell? ⟨w1.heap.size, 0, none⟩ = some (.int .i64 a) := k5.cell (by first | exact p4_0 | go_simp)
  have p5_1 : w5.cell? ⟨w1.heap.size, 1, none⟩ = some (.int .i64 b) := k5.cell (by first | exact p4_1 | go_simp)
  have q5_0 : w5.cell? ⟨w1.heap.size + 1, 0, none⟩ = some (.int .i64 c) := k5.cell (by first | exact q4_0 | go_simp)
  have q5_1 : w5.cell? ⟨w1.heap.size + 1, 1, none⟩ = some (.int .i64 d) := k5.cell (by first | exact q4_1 | go_simp)
  have x5_0 : w5.cell? ⟨w2.heap.size, 0, none⟩ = some (.int .i64 (mLo a b c d)) := k5.cell (by first | exact x4_0 | go_simp)
  have x5_1 : w5.cell? ⟨w2.heap.size, 1, none⟩ = some (.int .i64 (mHi a b c d)) := k5.cell (by first | exact x4_1 | go_simp)
  have y5_0 : w5.cell? ⟨w3.heap.size, 0, none⟩ = some (.int .i64 (mLo a b c d)) := k5.cell (by first | exact y4_0 | go_simp)
  have y5_1 : w5.cell? ⟨w3.heap.size, 1, none⟩ = some (.int .i64 (mHi a b c d)) := k5.cell (by first | exact y4_1 | go_simp)
  have zp5 : w1.heap.size < w5.heap.size := World.block_lt_of_cell? w5 _ p5_0
  have zq5 : w1.heap.size + 1 < w5.heap.size := World.block_lt_of_cell? w5 _ q5_0
  have zx5 : w2.heap.size < w5.heap.size := World.block_lt_of_cell? w5 _ x5_0
  have zy5 : w3.heap.size < w5.heap.size := World.block_lt_of_cell? w5 _ y5_0
  have c5 : Keep w w5 := Keep.trans c4 k5
  rcases Bool.eq_false_or_eq_true (rgOk c d) with h2 | h2
  case' inr =>
    go_wp2
    all_goals
      go_ret
      refine ⟨retB ?_, (show Keep w _ from c5)⟩
      first | rfl | (simp at *; omega) | (simp at *; done) | omega
  have hm2 : mOk a b c d = (decide (a ≤ d) && decide (c ≤ b)) := by simp [mOk, h1, h2]
  have HM := Lib.hid hm2
  clear hm2
  go_wp2
  all_goals
    go_ret
    refine ⟨retB ?_, (show Keep w _ from c5)⟩
    have hm2 := HM.out; first | rfl | (rw [hm2]; simp [*]; done) | (rw [hm2]; simp at *; omega) | (simp at *; omega) | (simp at *; done) | omega
end Go.Proofs.Ytalkfggkpjakiaa
