/- The walk of the law on ranges of degrees. -/
import Derived.Test.YtalkfggkpjakiaaDrRgA
import Derived.Test.YtalkfggkpjakiaaRt
import Derived.Test.YtalkfggkpjakiaaFr
namespace Go.Proofs.Ytalkfggkpjakiaa
open Go.RowKit
set_option linter.unusedVariables false

theorem cYes {t : Int} (h : cOk t = true) : cLo t = 18 * t - 9 ∧ cHi t = 18 * t + 9 ∧ fLo t = 10 * (t - 320) - 5 ∧ fHi t = 10 * (t - 320) + 5 := by
  simp [cLo, cHi, fLo, fHi, h]
theorem cNo {t : Int} (h : cOk t = false) : cLo t = 0 ∧ cHi t = 0 ∧ fLo t = 0 ∧ fHi t = 0 := by
  simp [cLo, cHi, fLo, fHi, h]
theorem rOk2 {a b : Int} (h : -99999 ≤ a ∧ a ≤ b ∧ b ≤ 99999) : rgOk a b = true := by
  simp [rgOk, inB]; omega
theorem tYes {a b : Int} (h : rgOk a b = true) : tLo a b = 0 - (9 - a) / 18 ∧ tHi a b = (b + 9) / 18 := by
  simp [tLo, tHi, h]

set_option maxRecDepth 100000 in
set_option maxHeartbeats 3200000 in
theorem walk_FnRangeOfF (a0 : Option Addr) (len0 cap0 : Nat) (z0 : List Int) (w : World) (w0 : IsRow .u8 w a0 len0 cap0 z0) :
    Calls Try.prog 7 #[.slice a0 len0 cap0] w fun e w' => e = .returned (.bool true) ∧ Below w.heap.size w w' := by
  have ha := code_of_row w0
  obtain ⟨hl, hm⟩ := ha.1
  unfold maxLen at hm
  clear w0
  by_cases h : len0 ≤ 1048576
  case' neg =>
    have hd : decide (1048576 < (len0 : Int)) = true := by simp; omega
    go_enter Try.func7, Try.ntmps7
    go_wp2
    go_ret
    exact ⟨rfl, Below.refl _ _⟩
  have hd : decide (1048576 < (len0 : Int)) = false := by simp; omega
  go_enter Try.func7, Try.ntmps7
  go_wp2_with fail
  refine (drawRangeOfF a0 len0 cap0 _ ha).mono ?_
  rintro e w1 ⟨t, rfl, ⟨ht1, ht2⟩, k1⟩
  have c1 : Keep w w1 := Keep.trans ((Keep.refl w)) k1
  rcases cOk_cases t with ⟨hk0, h1, h2⟩ | ⟨hk, h3⟩
  case' inr =>
    go_wp2_with fail
    refine (of_impl t _).mono ?_
    rintro e w2 ⟨rfl, k2⟩
    have c2 : Keep w w2 := Keep.trans (c1) k2
    go_wp2_with fail
    refine (of_spec t _).mono ?_
    rintro e w3 ⟨rfl, k3⟩
    have x3_0 : w3.cell? ⟨w2.heap.size, 0, none⟩ = some (.int .i64 (fLo t)) := k3.cell (by first | go_simp)
    have x3_1 : w3.cell? ⟨w2.heap.size, 1, none⟩ = some (.int .i64 (fHi t)) := k3.cell (by first | go_simp)
    have zx3 : w2.heap.size < w3.heap.size := World.block_lt_of_cell? w3 _ x3_0
    have c3 : Keep w w3 := Keep.trans (c2.alloc _) k3
    go_wp2
    all_goals
      go_ret
      refine ⟨retB ?_, (show Keep w _ from c3.alloc _)⟩
      first | rfl | (simp at *; omega) | (simp at *; done) | omega
  case' inl =>
    have e1 := Lib.hid (cYes hk0).2.2.1
    have e2 := Lib.hid (cYes hk0).2.2.2
    have hk := Lib.hid hk0
    clear hk0
    go_wp2_with fail
    refine (of_impl t _).mono ?_
    rintro e w2 ⟨he, k2⟩
    rw [e1.out, e2.out, hk.out] at he
    subst he
    have c2 : Keep w w2 := Keep.trans (c1) k2
    go_wp2_with fail
    refine (of_spec t _).mono ?_
    rintro e w3 ⟨he, k3⟩
    rw [e1.out, e2.out, hk.out] at he
    subst he
    have x3_0 : w3.cell? ⟨w2.heap.size, 0, none⟩ = some (.int .i64 (10 * (t - 320) - 5)) := k3.cell (by first | go_simp)
    have x3_1 : w3.cell? ⟨w2.heap.size, 1, none⟩ = some (.int .i64 (10 * (t - 320) + 5)) := k3.cell (by first | go_simp)
    have zx3 : w2.heap.size < w3.heap.size := World.block_lt_of_cell? w3 _ x3_0
    have c3 : Keep w w3 := Keep.trans (c2.alloc _) k3
    rcases cOk_cases (t + 1) with ⟨q0, _, _⟩ | ⟨q0, _⟩
    case' inr =>
      have e6 := Lib.hid (cNo q0).2.2.1
      have e7 := Lib.hid (cNo q0).2.2.2
      have e8 := Lib.hid q0
      clear q0
      go_wp2_with fail
      refine (of_impl (t + 1) _).mono ?_
      rintro e w4 ⟨he, k4⟩
      rw [e6.out, e7.out, e8.out] at he
      subst he
      have x4_0 : w4.cell? ⟨w2.heap.size, 0, none⟩ = some (.int .i64 (10 * (t - 320) - 5)) := k4.cell (by first | exact x3_0 | go_simp)
      have x4_1 : w4.cell? ⟨w2.heap.size, 1, none⟩ = some (.int .i64 (10 * (t - 320) + 5)) := k4.cell (by first | exact x3_1 | go_simp)
      have y4_0 : w4.cell? ⟨w3.heap.size, 0, none⟩ = some (.int .i64 (10 * (t - 320) - 5)) := k4.cell (by first | go_simp)
      have y4_1 : w4.cell? ⟨w3.heap.size, 1, none⟩ = some (.int .i64 (10 * (t - 320) + 5)) := k4.cell (by first | go_simp)
      have zx4 : w2.heap.size < w4.heap.size := World.block_lt_of_cell? w4 _ x4_0
      have zy4 : w3.heap.size < w4.heap.size := World.block_lt_of_cell? w4 _ y4_0
      have c4 : Keep w w4 := Keep.trans (c3.alloc _) k4
      go_wp2
      all_goals
        go_ret
        refine ⟨retB ?_, (show Keep w _ from c4.alloc _)⟩
        first | rfl | (simp at *; omega) | (simp at *; done) | omega
    case' inl =>
      have e6 : Hid (fLo (t + 1) = 10 * (t - 320) + 5) := Lib.hid ((cYes q0).2.2.1.trans (by omega))
      have e7 : Hid (fHi (t + 1) = 10 * (t - 320) + 15) := Lib.hid ((cYes q0).2.2.2.trans (by omega))
      have e8 := Lib.hid q0
      clear q0
      go_wp2_with fail
      refine (of_impl (t + 1) _).mono ?_
      rintro e w4 ⟨he, k4⟩
      rw [e6.out, e7.out, e8.out] at he
      subst he
      have x4_0 : w4.cell? ⟨w2.heap.size, 0, none⟩ = some (.int .i64 (10 * (t - 320) - 5)) := k4.cell (by first | exact x3_0 | go_simp)
      have x4_1 : w4.cell? ⟨w2.heap.size, 1, none⟩ = some (.int .i64 (10 * (t - 320) + 5)) := k4.cell (by first | exact x3_1 | go_simp)
      have y4_0 : w4.cell? ⟨w3.heap.size, 0, none⟩ = some (.int .i64 (10 * (t - 320) - 5)) := k4.cell (by first | go_simp)
      have y4_1 : w4.cell? ⟨w3.heap.size, 1, none⟩ = some (.int .i64 (10 * (t - 320) + 5)) := k4.cell (by first | go_simp)
      have zx4 : w2.heap.size < w4.heap.size := World.block_lt_of_cell? w4 _ x4_0
      have zy4 : w3.heap.size < w4.heap.size := World.block_lt_of_cell? w4 _ y4_0
      have c4 : Keep w w4 := Keep.trans (c3.alloc _) k4
      go_wp2
      all_goals
        go_ret
        refine ⟨retB ?_, (show Keep w _ from c4.alloc _)⟩
        first | rfl | (simp at *; omega) | (simp at *; done) | omega
end Go.Proofs.Ytalkfggkpjakiaa
