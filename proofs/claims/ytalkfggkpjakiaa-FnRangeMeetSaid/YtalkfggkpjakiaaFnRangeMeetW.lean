/- The walk of the law on the meeting of ranges. -/
import Derived.Test.YtalkfggkpjakiaaDrRgA
import Derived.Test.YtalkfggkpjakiaaRm
import Derived.Test.YtalkfggkpjakiaaFr
namespace Go.Proofs.Ytalkfggkpjakiaa
open Go.RowKit
set_option linter.unusedVariables false

theorem mYes {a b c d : Int} (h : mOk a b c d = true) : mLo a b c d = max a c ∧ mHi a b c d = min b d ∧ mOk c d a b = true ∧ mLo c d a b = max a c ∧ mHi c d a b = min b d := by
  have h' : mOk c d a b = true := by
    simp only [mOk, Bool.and_eq_true, decide_eq_true_eq] at h ⊢
    exact ⟨⟨⟨h.1.1.2, h.1.1.1⟩, h.2⟩, h.1.2⟩
  simp [mLo, mHi, h, h']; omega
theorem mNo {a b c d : Int} (h : mOk a b c d = false) : mLo a b c d = 0 ∧ mHi a b c d = 0 := by
  simp [mLo, mHi, h]
theorem mFacts {a b c d : Int} (h : mOk a b c d = true) : -99999 ≤ a ∧ a ≤ b ∧ b ≤ 99999 ∧ -99999 ≤ c ∧ c ≤ d ∧ d ≤ 99999 ∧ a ≤ d ∧ c ≤ b := by
  simp [mOk, rgOk, inB] at h; omega

set_option maxRecDepth 100000 in
set_option maxHeartbeats 3200000 in
theorem walk_FnRangeMeet (a0 : Option Addr) (len0 cap0 : Nat) (z0 : List Int) (w : World) (w0 : IsRow .u8 w a0 len0 cap0 z0) :
    Calls Try.prog 9 #[.slice a0 len0 cap0] w fun e w' => e = .returned (.bool true) ∧ Below w.heap.size w w' := by
  have ha := code_of_row w0
  obtain ⟨hl, hm⟩ := ha.1
  unfold maxLen at hm
  clear w0
  by_cases h : len0 ≤ 1048576
  case' neg =>
    have hd : decide (1048576 < (len0 : Int)) = true := by simp; omega
    go_enter Try.func9, Try.ntmps9
    go_wp2
    go_ret
    exact ⟨rfl, Below.refl _ _⟩
  have hd : decide (1048576 < (len0 : Int)) = false := by simp; omega
  go_enter Try.func9, Try.ntmps9
  go_wp2_with fail
  refine (drawRangeMeet a0 len0 cap0 _ ha).mono ?_
  rintro e w1 ⟨a, b, c, d, rfl, ha1, hb1, hc1, hd1, k1⟩
  have c1 : Keep w w1 := Keep.trans (Keep.refl w) k1
  rcases Bool.eq_false_or_eq_true (mOk a b c d) with hk0 | hk0
  case' inr =>
    have e1 := Lib.hid (mNo hk0).1
    have e2 := Lib.hid (mNo hk0).2
    have hk := Lib.hid hk0
    clear hk0
    go_wp2_with fail
    refine (mOk_impl a b c d _).mono ?_
    rintro e w2 ⟨he, k2⟩
    rw [e1.out, e2.out, hk.out] at he
    subst he
    have p2_0 : w2.cell? ⟨w1.heap.size, 0, none⟩ = some (.int .i64 a) := k2.cell (by first | go_simp)
    have p2_1 : w2.cell? ⟨w1.heap.size, 1, none⟩ = some (.int .i64 b) := k2.cell (by first | go_simp)
    have q2_0 : w2.cell? ⟨w1.heap.size + 1, 0, none⟩ = some (.int .i64 c) := k2.cell (by first | go_simp)
    have q2_1 : w2.cell? ⟨w1.heap.size + 1, 1, none⟩ = some (.int .i64 d) := k2.cell (by first | go_simp)
    have zp2 : w1.heap.size < w2.heap.size := World.block_lt_of_cell? w2 _ p2_0
    have zq2 : w1.heap.size + 1 < w2.heap.size := World.block_lt_of_cell? w2 _ q2_0
    have c2 : Keep w w2 := Keep.trans ((c1.alloc _).alloc _) k2
    go_wp2_with fail
    refine (mOk_spec a b c d _).mono ?_
    rintro e w3 ⟨he, k3⟩
    rw [e1.out, e2.out, hk.out] at he
    subst he
    have p3_0 : w3.cell? ⟨w1.heap.size, 0, none⟩ = some (.int .i64 a) := k3.cell (by first | exact p2_0 | go_simp)
    have p3_1 : w3.cell? ⟨w1.heap.size, 1, none⟩ = some (.int .i64 b) := k3.cell (by first | exact p2_1 | go_simp)
    have q3_0 : w3.cell? ⟨w1.heap.size + 1, 0, none⟩ = some (.int .i64 c) := k3.cell (by first | exact q2_0 | go_simp)
    have q3_1 : w3.cell? ⟨w1.heap.size + 1, 1, none⟩ = some (.int .i64 d) := k3.cell (by first | exact q2_1 | go_simp)
    have x3_0 : w3.cell? ⟨w2.heap.size, 0, none⟩ = some (.int .i64 0) := k3.cell (by first | go_simp)
    have x3_1 : w3.cell? ⟨w2.heap.size, 1, none⟩ = some (.int .i64 0) := k3.cell (by first | go_simp)
    have zp3 : w1.heap.size < w3.heap.size := World.block_lt_of_cell? w3 _ p3_0
    have zq3 : w1.heap.size + 1 < w3.heap.size := World.block_lt_of_cell? w3 _ q3_0
    have zx3 : w2.heap.size < w3.heap.size := World.block_lt_of_cell? w3 _ x3_0
    have c3 : Keep w w3 := Keep.trans (c2.alloc _) k3
    go_wp2
    all_goals
      go_ret
      refine ⟨retB ?_, (show Keep w _ from (c3.alloc _))⟩
      first | rfl | (simp at *; omega) | (simp at *; done) | omega
  case' inl =>
    obtain ⟨l, e1, hl⟩ : ∃ l : Int, Hid (mLo a b c d = l) ∧ Hid (l = max a c) := ⟨_, Lib.hid (mYes hk0).1, Lib.hid rfl⟩
    obtain ⟨r, e2, hr⟩ : ∃ r : Int, Hid (mHi a b c d = r) ∧ Hid (r = min b d) := ⟨_, Lib.hid (mYes hk0).2.1, Lib.hid rfl⟩
    have e3 := Lib.hid (mYes hk0).2.2.1
    have e4 : Hid (mLo c d a b = l) := Lib.hid ((mYes hk0).2.2.2.1.trans hl.out.symm)
    have e5 : Hid (mHi c d a b = r) := Lib.hid ((mYes hk0).2.2.2.2.trans hr.out.symm)
    have hk := Lib.hid hk0
    have f1 : a ≤ l := by rw [hl.out]; omega
    have f2 : c ≤ l := by rw [hl.out]; omega
    have f3 : r ≤ b := by rw [hr.out]; omega
    have f4 : r ≤ d := by rw [hr.out]; omega
    have f5 : l = a ∨ l = c := by rw [hl.out]; omega
    have f6 : r = b ∨ r = d := by rw [hr.out]; omega
    have F5 := Lib.hid f5
    have F6 := Lib.hid f6
    clear hk0 f5 f6
    go_wp2_with fail
    refine (mOk_impl a b c d _).mono ?_
    rintro e w2 ⟨he, k2⟩
    rw [e1.out, e2.out, hk.out] at he
    subst he
    have p2_0 : w2.cell? ⟨w1.heap.size, 0, none⟩ = some (.int .i64 a) := k2.cell (by first | go_simp)
    have p2_1 : w2.cell? ⟨w1.heap.size, 1, none⟩ = some (.int .i64 b) := k2.cell (by first | go_simp)
    have q2_0 : w2.cell? ⟨w1.heap.size + 1, 0, none⟩ = some (.int .i64 c) := k2.cell (by first | go_simp)
    have q2_1 : w2.cell? ⟨w1.heap.size + 1, 1, none⟩ = some (.int .i64 d) := k2.cell (by first | go_simp)
    have zp2 : w1.heap.size < w2.heap.size := World.block_lt_of_cell? w2 _ p2_0
    have zq2 : w1.heap.size + 1 < w2.heap.size := World.block_lt_of_cell? w2 _ q2_0
    have c2 : Keep w w2 := Keep.trans ((c1.alloc _).alloc _) k2
    go_wp2_with fail
    refine (mOk_spec a b c d _).mono ?_
    rintro e w3 ⟨he, k3⟩
    rw [e1.out, e2.out, hk.out] at he
    subst he
    have p3_0 : w3.cell? ⟨w1.heap.size, 0, none⟩ = some (.int .i64 a) := k3.cell (by first | exact p2_0 | go_simp)
    have p3_1 : w3.cell? ⟨w1.heap.size, 1, none⟩ = some (.int .i64 b) := k3.cell (by first | exact p2_1 | go_simp)
    have q3_0 : w3.cell? ⟨w1.heap.size + 1, 0, none⟩ = some (.int .i64 c) := k3.cell (by first | exact q2_0 | go_simp)
    have q3_1 : w3.cell? ⟨w1.heap.size + 1, 1, none⟩ = some (.int .i64 d) := k3.cell (by first | exact q2_1 | go_simp)
    have x3_0 : w3.cell? ⟨w2.heap.size, 0, none⟩ = some (.int .i64 l) := k3.cell (by first | go_simp)
    have x3_1 : w3.cell? ⟨w2.heap.size, 1, none⟩ = some (.int .i64 r) := k3.cell (by first | go_simp)
    have zp3 : w1.heap.size < w3.heap.size := World.block_lt_of_cell? w3 _ p3_0
    have zq3 : w1.heap.size + 1 < w3.heap.size := World.block_lt_of_cell? w3 _ q3_0
    have zx3 : w2.heap.size < w3.heap.size := World.block_lt_of_cell? w3 _ x3_0
    have c3 : Keep w w3 := Keep.trans (c2.alloc _) k3
    go_wp2_with fail
    refine (mOk_impl c d a b _).mono ?_
    rintro e w4 ⟨he, k4⟩
    rw [e4.out, e5.out, e3.out] at he
    subst he
    have p4_0 : w4.cell? ⟨w1.heap.size, 0, none⟩ = some (.int .i64 a) := k4.cell (by first | exact p3_0 | go_simp)
    have p4_1 : w4.cell? ⟨w1.heap.size, 1, none⟩ = some (.int .i64 b) := k4.cell (by first | exact p3_1 | go_simp)
    have q4_0 : w4.cell? ⟨w1.heap.size + 1, 0, none⟩ = some (.int .i64 c) := k4.cell (by first | exact q3_0 | go_simp)
    have q4_1 : w4.cell? ⟨w1.heap.size + 1, 1, none⟩ = some (.int .i64 d) := k4.cell (by first | exact q3_1 | go_simp)
    have x4_0 : w4.cell? ⟨w2.heap.size, 0, none⟩ = some (.int .i64 l) := k4.cell (by first | exact x3_0 | go_simp)
    have x4_1 : w4.cell? ⟨w2.heap.size, 1, none⟩ = some (.int .i64 r) := k4.cell (by first | exact x3_1 | go_simp)
    have y4_0 : w4.cell? ⟨w3.heap.size, 0, none⟩ = some (.int .i64 l) := k4.cell (by first | go_simp)
    have y4_1 : w4.cell? ⟨w3.heap.size, 1, none⟩ = some (.int .i64 r) := k4.cell (by first | go_simp)
    have zp4 : w1.heap.size < w4.heap.size := World.block_lt_of_cell? w4 _ p4_0
    have zq4 : w1.heap.size + 1 < w4.heap.size := World.block_lt_of_cell? w4 _ q4_0
    have zx4 : w2.heap.size < w4.heap.size := World.block_lt_of_cell? w4 _ x4_0
    have zy4 : w3.heap.size < w4.heap.size := World.block_lt_of_cell? w4 _ y4_0
    have c4 : Keep w w4 := Keep.trans (c3.alloc _) k4
    go_wp2
    all_goals
      go_ret
      refine ⟨retB ?_, (show Keep w _ from (c4.alloc _))⟩
      have f5 := F5.out; have f6 := F6.out; first | rfl | (simp at *; omega) | (simp at *; done) | omega
end Go.Proofs.Ytalkfggkpjakiaa
