/- The walk of the law on ranges that are not empty. -/
import Derived.Test.YtalkfggkpjakiabDrRgA
import Derived.Test.YtalkfggkpjakiabRt
import Derived.Test.YtalkfggkpjakiabFr
namespace Go.Proofs.Ytalkfggkpjakiab
open Go.RowKit
set_option linter.unusedVariables false

set_option maxRecDepth 100000 in
set_option maxHeartbeats 3200000 in
theorem walk_FnRangePart (a0 : Option Addr) (len0 cap0 : Nat) (z0 : List Int) (w : World) (w0 : IsRow .u8 w a0 len0 cap0 z0) :
    Calls Try.prog 4 #[.slice a0 len0 cap0] w fun e w' => e = .returned (.bool true) ∧ Below w.heap.size w w' := by
  have ha := code_of_row w0
  obtain ⟨hl, hm⟩ := ha.1
  unfold maxLen at hm
  clear w0
  by_cases h : len0 ≤ 1048576
  case' neg =>
    have hd : decide (1048576 < (len0 : Int)) = true := by simp; omega
    go_enter Try.func4, Try.ntmps4
    go_wp2
    go_ret
    exact ⟨rfl, Below.refl _ _⟩
  have hd : decide (1048576 < (len0 : Int)) = false := by simp; omega
  go_enter Try.func4, Try.ntmps4
  go_wp2_with fail
  refine (drawRangeValid a0 len0 cap0 _ ha).mono ?_
  rintro e w1 ⟨a, b, rfl, ha1, hb1, k1⟩
  have c1 : Keep w w1 := Keep.trans (Keep.refl w) k1
  go_wp2_with fail
  refine (rg_impl a b _).mono ?_
  rintro e w2 ⟨rfl, k2⟩
  have p2_0 : w2.cell? ⟨w1.heap.size, 0, none⟩ = some (.int .i64 a) := k2.cell (by first | go_simp)
  have p2_1 : w2.cell? ⟨w1.heap.size, 1, none⟩ = some (.int .i64 b) := k2.cell (by first | go_simp)
  have zp2 : w1.heap.size < w2.heap.size := World.block_lt_of_cell? w2 _ p2_0
  have c2 : Keep w w2 := Keep.trans (c1.alloc _) k2
  go_wp2_with fail
  refine (rg_spec a b _).mono ?_
  rintro e w3 ⟨rfl, k3⟩
  have p3_0 : w3.cell? ⟨w1.heap.size, 0, none⟩ = some (.int .i64 a) := k3.cell (by first | exact p2_0 | go_simp)
  have p3_1 : w3.cell? ⟨w1.heap.size, 1, none⟩ = some (.int .i64 b) := k3.cell (by first | exact p2_1 | go_simp)
  have zp3 : w1.heap.size < w3.heap.size := World.block_lt_of_cell? w3 _ p3_0
  have c3 : Keep w w3 := Keep.trans c2 k3
  rcases Bool.eq_false_or_eq_true (rgOk a b) with h1 | h1
  case' inr =>
    go_wp2
    all_goals
      go_ret
      refine ⟨retB ?_, (show Keep w _ from c3)⟩
      first | rfl | (simp at *; omega) | (simp at *; done) | omega
  case' inl =>
    have F := Lib.hid (rgOk_facts' h1)
    have h2 : Hid (rgOk a a = true) := Lib.hid (by have := F.out; simp [rgOk, inB]; omega)
    have h3 : Hid (rgOk b b = true) := Lib.hid (by have := F.out; simp [rgOk, inB]; omega)
    go_wp2_with fail
    refine (rg_impl a a _).mono ?_
    rintro e w4 ⟨he, k4⟩
    rw [h2.out] at he
    subst he
    have p4_0 : w4.cell? ⟨w1.heap.size, 0, none⟩ = some (.int .i64 a) := k4.cell (by first | exact p3_0 | go_simp)
    have p4_1 : w4.cell? ⟨w1.heap.size, 1, none⟩ = some (.int .i64 b) := k4.cell (by first | exact p3_1 | go_simp)
    have zp4 : w1.heap.size < w4.heap.size := World.block_lt_of_cell? w4 _ p4_0
    have c4 : Keep w w4 := Keep.trans c3 k4
    go_wp2_with fail
    refine (rg_impl b b _).mono ?_
    rintro e w5 ⟨he, k5⟩
    rw [h3.out] at he
    subst he
    have p5_0 : w5.cell? ⟨w1.heap.size, 0, none⟩ = some (.int .i64 a) := k5.cell (by first | exact p4_0 | go_simp)
    have p5_1 : w5.cell? ⟨w1.heap.size, 1, none⟩ = some (.int .i64 b) := k5.cell (by first | exact p4_1 | go_simp)
    have zp5 : w1.heap.size < w5.heap.size := World.block_lt_of_cell? w5 _ p5_0
    have c5 : Keep w w5 := Keep.trans c4 k5
    by_cases hab : a = b
    case' pos =>
      have he : (a == b) = true := by simp [hab]
      have H := Lib.hid hab
      clear hab
      go_wp2
      all_goals
        go_ret
        refine ⟨retB ?_, (show Keep w _ from c5)⟩
        first | rfl | (simp at *; omega) | (simp at *; done) | omega
    case' neg =>
      have he : (a == b) = false := by simp [hab]
      have h4 : Hid (rgOk b a = false) := Lib.hid (by have := F.out; simp [rgOk, inB]; omega)
      have H := Lib.hid hab
      clear hab
      go_wp2_with fail
      refine (rg_impl b a _).mono ?_
      rintro e w6 ⟨he, k6⟩
      rw [h4.out] at he
      subst he
      have p6_0 : w6.cell? ⟨w1.heap.size, 0, none⟩ = some (.int .i64 a) := k6.cell (by first | exact p5_0 | go_simp)
      have p6_1 : w6.cell? ⟨w1.heap.size, 1, none⟩ = some (.int .i64 b) := k6.cell (by first | exact p5_1 | go_simp)
      have zp6 : w1.heap.size < w6.heap.size := World.block_lt_of_cell? w6 _ p6_0
      have c6 : Keep w w6 := Keep.trans c5 k6
      go_wp2
      all_goals
        go_ret
        refine ⟨retB ?_, (show Keep w _ from c6)⟩
        first | rfl | (simp at *; omega) | (simp at *; done) | omega
end Go.Proofs.Ytalkfggkpjakiab
