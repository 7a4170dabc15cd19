/- The walk of the law on the freezing of water. -/
import Derived.Test.YtalkfggkpjakiaaDrRgA
import Derived.Test.YtalkfggkpjakiaaRt
import Derived.Test.YtalkfggkpjakiaaFr
namespace Go.Proofs.Ytalkfggkpjakiaa
open Go.RowKit
set_option linter.unusedVariables false

theorem cYes {t : Int} (h : cOk t = true) : cLo t = 18 * t - 9 ∧ cHi t = 18 * t + 9 ∧ fLo t = 10 * (t - 320) - 5 ∧ fHi t = 10 * (t - 320) + 5 := by
  simp [cLo, cHi, fLo, fHi, h]
theorem cNo {t : Int} (h : cOk t = false) : cLo t = 0 ∧ cHi t = 0 ∧ fLo t = 0 ∧ fHi t = 0 := by
  simp [cLo, cHi, fLo, fHi, h]
theorem rOk2 {a b : Int} (h : -99999 ≤ a ∧ a ≤ b ∧ b ≤ 99999) : rgOk a b = true := by
  simp [rgOk, inB]; omega
theorem tYes {a b : Int} (h : rgOk a b = true) : tLo a b = 0 - (9 - a) / 18 ∧ tHi a b = (b + 9) / 18 := by
  simp [tLo, tHi, h]

set_option maxRecDepth 100000 in
set_option maxHeartbeats 3200000 in
theorem walk_FnRangeFreeze (a0 : Option Addr) (len0 cap0 : Nat) (z0 : List Int) (w : World) (w0 : IsRow .u8 w a0 len0 cap0 z0) :
    Calls Try.prog 8 #[.slice a0 len0 cap0] w fun e w' => e = .returned (.bool true) ∧ Below w.heap.size w w' := by
  have ha := code_of_row w0
  obtain ⟨hl, hm⟩ := ha.1
  unfold maxLen at hm
  clear w0
  by_cases h : len0 ≤ 1048576
  case' neg =>
    have hd : decide (1048576 < (len0 : Int)) = true := by simp; omega
    go_enter Try.func8, Try.ntmps8
    go_wp2
    go_ret
    exact ⟨rfl, Below.refl _ _⟩
  have hd : decide (1048576 < (len0 : Int)) = false := by simp; omega
  go_enter Try.func8, Try.ntmps8
  go_wp2_with fail
  refine (drawRangeOfF a0 len0 cap0 _ ha).mono ?_
  rintro e w1 ⟨t, rfl, ⟨ht1, ht2⟩, k1⟩
  have c1 : Keep w w1 := Keep.trans (Keep.refl w) k1
  rcases cOk_cases t with ⟨hk0, h1, h2⟩ | ⟨hk, h3⟩
  case' inr =>
    go_wp2_with fail
    refine (of_impl t _).mono ?_
    rintro e w2 ⟨rfl, k2⟩
    have c2 : Keep w w2 := Keep.trans c1 k2
    go_wp2_with fail
    refine (of_spec t _).mono ?_
    rintro e w3 ⟨rfl, k3⟩
    have x3_0 : w3.cell? ⟨w2.heap.size, 0, none⟩ = some (.int .i64 (fLo t)) := k3.cell (by first | go_simp)
    have x3_1 : w3.cell? ⟨w2.heap.size, 1, none⟩ = some (.int .i64 (fHi t)) := k3.cell (by first | go_simp)
    have zx3 : w2.heap.size < w3.heap.size := World.block_lt_of_cell? w3 _ x3_0
    have c3 : Keep w w3 := Keep.trans (c2.alloc _) k3
    go_wp2
    all_goals
      go_ret
      refine ⟨retB ?_, (show Keep w _ from (c3.alloc _))⟩
      first | rfl | (simp at *; omega) | (simp at *; done) | omega
  case' inl =>
    have e1 := Lib.hid (cYes hk0).2.2.1
    have e2 := Lib.hid (cYes hk0).2.2.2
    have hk := Lib.hid hk0
    clear hk0
    have e5 : Hid (rgOk (10 * (t - 320) - 5) (10 * (t - 320) + 5) = true) := Lib.hid (rOk2 (by omega))
    obtain ⟨l, hl1, hl2⟩ : ∃ l : Int, Hid (tLo (10 * (t - 320) - 5) (10 * (t - 320) + 5) = l) ∧ Hid (l = 0 - (9 - (10 * (t - 320) - 5)) / 18) := ⟨_, Lib.hid (tYes e5.out).1, Lib.hid rfl⟩
    obtain ⟨r, hr1, hr2⟩ : ∃ r : Int, Hid (tHi (10 * (t - 320) - 5) (10 * (t - 320) + 5) = r) ∧ Hid (r = (10 * (t - 320) + 5 + 9) / 18) := ⟨_, Lib.hid (tYes e5.out).2, Lib.hid rfl⟩
    have e3 := hl1
    have e4 := hr1
    have e6 : Hid (cLo 0 = -9) := Lib.hid (by decide)
    have e7 : Hid (cHi 0 = 9) := Lib.hid (by decide)
    have e8 : Hid (cOk 0 = true) := Lib.hid (by decide)
    have b1 : -1000000 ≤ l := by have := hl2.out; omega
    have b2 : l ≤ 1000000 := by have := hl2.out; omega
    have b3 : -1000000 ≤ r := by have := hr2.out; omega
    have b4 : r ≤ 1000000 := by have := hr2.out; omega
    go_wp2_with fail
    refine (of_impl t _).mono ?_
    rintro e w2 ⟨he, k2⟩
    rw [e1.out, e2.out, hk.out] at he
    subst he
    have c2 : Keep w w2 := Keep.trans c1 k2
    go_wp2_with fail
    refine (of_spec t _).mono ?_
    rintro e w3 ⟨he, k3⟩
    rw [e1.out, e2.out, hk.out] at he
    subst he
    have x3_0 : w3.cell? ⟨w2.heap.size, 0, none⟩ = some (.int .i64 (10 * (t - 320) - 5)) := k3.cell (by first | go_simp)
    have x3_1 : w3.cell? ⟨w2.heap.size, 1, none⟩ = some (.int .i64 (10 * (t - 320) + 5)) := k3.cell (by first | go_simp)
    have zx3 : w2.heap.size < w3.heap.size := World.block_lt_of_cell? w3 _ x3_0
    have c3 : Keep w w3 := Keep.trans (c2.alloc _) k3
    go_wp2_with fail
    refine (oc_impl 0 _).mono ?_
    rintro e w4 ⟨he, k4⟩
    rw [e6.out, e7.out, e8.out] at he
    subst he
    have x4_0 : w4.cell? ⟨w2.heap.size, 0, none⟩ = some (.int .i64 (10 * (t - 320) - 5)) := k4.cell (by first | exact x3_0 | go_simp)
    have x4_1 : w4.cell? ⟨w2.heap.size, 1, none⟩ = some (.int .i64 (10 * (t - 320) + 5)) := k4.cell (by first | exact x3_1 | go_simp)
    have y4_0 : w4.cell? ⟨w3.heap.size, 0, none⟩ = some (.int .i64 (10 * (t - 320) - 5)) := k4.cell (by first | go_simp)
    have y4_1 : w4.cell? ⟨w3.heap.size, 1, none⟩ = some (.int .i64 (10 * (t - 320) + 5)) := k4.cell (by first | go_simp)
    have zx4 : w2.heap.size < w4.heap.size := World.block_lt_of_cell? w4 _ x4_0
    have zy4 : w3.heap.size < w4.heap.size := World.block_lt_of_cell? w4 _ y4_0
    have c4 : Keep w w4 := Keep.trans (c3.alloc _) k4
    go_wp2_with fail
    refine (rt_impl (10 * (t - 320) - 5) (10 * (t - 320) + 5) _).mono ?_
    rintro e w5 ⟨he, k5⟩
    rw [e3.out, e4.out, e5.out] at he
    subst he
    have x5_0 : w5.cell? ⟨w2.heap.size, 0, none⟩ = some (.int .i64 (10 * (t - 320) - 5)) := k5.cell (by first | exact x4_0 | go_simp)
    have x5_1 : w5.cell? ⟨w2.heap.size, 1, none⟩ = some (.int .i64 (10 * (t - 320) + 5)) := k5.cell (by first | exact x4_1 | go_simp)
    have y5_0 : w5.cell? ⟨w3.heap.size, 0, none⟩ = some (.int .i64 (10 * (t - 320) - 5)) := k5.cell (by first | exact y4_0 | go_simp)
    have y5_1 : w5.cell? ⟨w3.heap.size, 1, none⟩ = some (.int .i64 (10 * (t - 320) + 5)) := k5.cell (by first | exact y4_1 | go_simp)
    have v5_0 : w5.cell? ⟨w4.heap.size, 0, none⟩ = some (.int .i64 (-9)) := k5.cell (by first | go_simp)
    have v5_1 : w5.cell? ⟨w4.heap.size, 1, none⟩ = some (.int .i64 9) := k5.cell (by first | go_simp)
    have zx5 : w2.heap.size < w5.heap.size := World.block_lt_of_cell? w5 _ x5_0
    have zy5 : w3.heap.size < w5.heap.size := World.block_lt_of_cell? w5 _ y5_0
    have zv5 : w4.heap.size < w5.heap.size := World.block_lt_of_cell? w5 _ v5_0
    have c5 : Keep w w5 := Keep.trans (c4.alloc _) k5
    have LR : l = 0 - (9 - (10 * (t - 320) - 5)) / 18 ∧ r = (10 * (t - 320) + 5 + 9) / 18 := ⟨hl2.out, hr2.out⟩
    have HLR := Lib.hid LR
    clear LR
    have hc : t = 320 ∨ ((t == 320) = false ∧ t < 320) ∨ ((t == 320) = false ∧ 320 < t) := by simp; omega
    rcases hc with rfl | ⟨n1, n2⟩ | ⟨n1, n2⟩
    all_goals
      go_wp2
      all_goals
        go_ret
        refine ⟨retB ?_, (show Keep w _ from (c5.alloc _))⟩
        have LR := HLR.out; first | rfl | (simp at *; omega) | (simp at *; done) | omega
end Go.Proofs.Ytalkfggkpjakiaa
