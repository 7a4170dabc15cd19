/- The walk of the law on the tenths of a range. -/
import Derived.Test.YtalkfggkpjakiabDrRgA
import Derived.Test.YtalkfggkpjakiabRm
import Derived.Test.YtalkfggkpjakiabRt
import Derived.Test.YtalkfggkpjakiabFr
namespace Go.Proofs.Ytalkfggkpjakiab
open Go.RowKit
set_option linter.unusedVariables false

theorem cYes' {t : Int} (h : cOk t = true) : cLo t = 18 * t - 9 ∧ cHi t = 18 * t + 9 ∧ -2000 ≤ t ∧ t ≤ 2000 := by
  have h' : -2000 ≤ t ∧ t ≤ 2000 := by simp [cOk, inB] at h; omega
  exact ⟨by simp [cLo, h], by simp [cHi, h], h'.1, h'.2⟩
theorem tYes' {a b : Int} (h : rgOk a b = true) : tLo a b = 0 - (9 - a) / 18 ∧ tHi a b = (b + 9) / 18 := by
  simp [tLo, tHi, h]
theorem tNo' {a b : Int} (h : rgOk a b = false) : tLo a b = 0 ∧ tHi a b = 0 := by
  simp [tLo, tHi, h]
theorem meets {t a b : Int} (h : rgOk a b = true) (h1 : 18 * t - 9 ≤ b) (h2 : a ≤ 18 * t + 9) : cOk t = false ∨ mOk (cLo t) (cHi t) a b = true := by
  rcases Bool.eq_false_or_eq_true (cOk t) with hk | hk
  · obtain ⟨e1, e2, e3, e4⟩ := cYes' hk
    right
    rw [e1, e2]
    simp [rgOk, inB] at h
    simp [mOk, rgOk, inB]; omega
  · exact .inl hk
theorem apartFrom {t a b : Int} (h1 : b < 18 * t - 9 ∨ 18 * t + 9 < a) : cOk t = false ∨ mOk (cLo t) (cHi t) a b = false := by
  rcases Bool.eq_false_or_eq_true (cOk t) with hk | hk
  · obtain ⟨e1, e2, e3, e4⟩ := cYes' hk
    right
    rw [e1, e2]
    simp [mOk, rgOk, inB]; omega
  · exact .inl hk

set_option maxRecDepth 100000 in
set_option maxHeartbeats 3200000 in
theorem walk_FnRangeTenths (a0 : Option Addr) (len0 cap0 : Nat) (z0 : List Int) (w : World) (w0 : IsRow .u8 w a0 len0 cap0 z0) :
    Calls Try.prog 3 #[.slice a0 len0 cap0] w fun e w' => e = .returned (.bool true) ∧ Below w.heap.size w w' := by
  have ha := code_of_row w0
  obtain ⟨hl, hm⟩ := ha.1
  unfold maxLen at hm
  clear w0
  by_cases h : len0 ≤ 1048576
  case' neg =>
    have hd : decide (1048576 < (len0 : Int)) = true := by simp; omega
    go_enter Try.func3, Try.ntmps3
    go_wp2
    go_ret
    exact ⟨rfl, Below.refl _ _⟩
  have hd : decide (1048576 < (len0 : Int)) = false := by simp; omega
  go_enter Try.func3, Try.ntmps3
  go_wp2_with fail
  refine (drawRangeTenths a0 len0 cap0 _ ha).mono ?_
  rintro e w1 ⟨a, b, rfl, ha1, hb1, k1⟩
  have c1 : Keep w w1 := Keep.trans (Keep.refl w) k1
  rcases Bool.eq_false_or_eq_true (rgOk a b) with hk0 | hk0
  case' inr =>
    have e1 := Lib.hid (tNo' hk0).1
    have e2 := Lib.hid (tNo' hk0).2
    have hk := Lib.hid hk0
    clear hk0
    go_wp2_with fail
    refine (rt_impl a b _).mono ?_
    rintro e w2 ⟨he, k2⟩
    rw [e1.out, e2.out, hk.out] at he
    subst he
    have x2_0 : w2.cell? ⟨w1.heap.size, 0, none⟩ = some (.int .i64 a) := k2.cell (by first | go_simp)
    have x2_1 : w2.cell? ⟨w1.heap.size, 1, none⟩ = some (.int .i64 b) := k2.cell (by first | go_simp)
    have zx2 : w1.heap.size < w2.heap.size := World.block_lt_of_cell? w2 _ x2_0
    have c2 : Keep w w2 := Keep.trans (c1.alloc _) k2
    go_wp2_with fail
    refine (rt_spec a b _).mono ?_
    rintro e w3 ⟨he, k3⟩
    rw [e1.out, e2.out, hk.out] at he
    subst he
    have x3_0 : w3.cell? ⟨w1.heap.size, 0, none⟩ = some (.int .i64 a) := k3.cell (by first | exact x2_0 | go_simp)
    have x3_1 : w3.cell? ⟨w1.heap.size, 1, none⟩ = some (.int .i64 b) := k3.cell (by first | exact x2_1 | go_simp)
    have o3_0 : w3.cell? ⟨w2.heap.size, 0, none⟩ = some (.int .i64 0) := k3.cell (by first | go_simp)
    have o3_1 : w3.cell? ⟨w2.heap.size, 1, none⟩ = some (.int .i64 0) := k3.cell (by first | go_simp)
    have zx3 : w1.heap.size < w3.heap.size := World.block_lt_of_cell? w3 _ x3_0
    have zo3 : w2.heap.size < w3.heap.size := World.block_lt_of_cell? w3 _ o3_0
    have c3 : Keep w w3 := Keep.trans (c2.alloc _) k3
    go_wp2
    all_goals
      go_ret
      refine ⟨retB ?_, (show Keep w _ from (c3.alloc _))⟩
      first | rfl | (simp at *; omega) | (simp at *; done) | omega
  case' inl =>
    obtain ⟨l, e1, hl⟩ : ∃ l : Int, Hid (tLo a b = l) ∧ Hid (l = 0 - (9 - a) / 18) := ⟨_, Lib.hid (tYes' hk0).1, Lib.hid rfl⟩
    obtain ⟨r, e2, hr⟩ : ∃ r : Int, Hid (tHi a b = r) ∧ Hid (r = (b + 9) / 18) := ⟨_, Lib.hid (tYes' hk0).2, Lib.hid rfl⟩
    have hlr : Hid (l = 0 - (9 - a) / 18 ∧ r = (b + 9) / 18 ∧ -99999 ≤ a ∧ a ≤ b ∧ b ≤ 99999) := Lib.hid ⟨hl.out, hr.out, rgOk_facts' hk0⟩
    have b1 : -10000 ≤ l := by have := hlr.out; omega
    have b2 : l ≤ 10000 := by have := hlr.out; omega
    have b3 : -10000 ≤ r := by have := hlr.out; omega
    have b4 : r ≤ 10000 := by have := hlr.out; omega
    have b5 : l ≤ r := by have := hlr.out; omega
    have hkk := Lib.hid hk0
    have hk := hkk
    clear hk0
    obtain ⟨u1, hu1⟩ : ∃ u : Int, Hid (cLo (l) = u) := ⟨_, Lib.hid rfl⟩
    obtain ⟨v1, hv1⟩ : ∃ u : Int, Hid (cHi (l) = u) := ⟨_, Lib.hid rfl⟩
    obtain ⟨p1, hp1⟩ : ∃ u : Bool, Hid (cOk (l) = u) := ⟨_, Lib.hid rfl⟩
    obtain ⟨m1, hm1⟩ : ∃ u : Bool, Hid (mOk u1 v1 a b = u) := ⟨_, Lib.hid rfl⟩
    have g1 : Hid (p1 = false ∨ m1 = true) := Lib.hid (by
      rw [← hm1.out, ← hu1.out, ← hv1.out, ← hp1.out]
      exact meets hkk.out (by have := hlr.out; omega) (by have := hlr.out; omega))
    obtain ⟨u2, hu2⟩ : ∃ u : Int, Hid (cLo (r) = u) := ⟨_, Lib.hid rfl⟩
    obtain ⟨v2, hv2⟩ : ∃ u : Int, Hid (cHi (r) = u) := ⟨_, Lib.hid rfl⟩
    obtain ⟨p2, hp2⟩ : ∃ u : Bool, Hid (cOk (r) = u) := ⟨_, Lib.hid rfl⟩
    obtain ⟨m2, hm2⟩ : ∃ u : Bool, Hid (mOk u2 v2 a b = u) := ⟨_, Lib.hid rfl⟩
    have g2 : Hid (p2 = false ∨ m2 = true) := Lib.hid (by
      rw [← hm2.out, ← hu2.out, ← hv2.out, ← hp2.out]
      exact meets hkk.out (by have := hlr.out; omega) (by have := hlr.out; omega))
    obtain ⟨u3, hu3⟩ : ∃ u : Int, Hid (cLo (l - 1) = u) := ⟨_, Lib.hid rfl⟩
    obtain ⟨v3, hv3⟩ : ∃ u : Int, Hid (cHi (l - 1) = u) := ⟨_, Lib.hid rfl⟩
    obtain ⟨p3, hp3⟩ : ∃ u : Bool, Hid (cOk (l - 1) = u) := ⟨_, Lib.hid rfl⟩
    obtain ⟨m3, hm3⟩ : ∃ u : Bool, Hid (mOk u3 v3 a b = u) := ⟨_, Lib.hid rfl⟩
    have g3 : Hid (p3 = false ∨ m3 = false) := Lib.hid (by
      rw [← hm3.out, ← hu3.out, ← hv3.out, ← hp3.out]
      exact apartFrom (by have := hlr.out; omega))
    obtain ⟨u4, hu4⟩ : ∃ u : Int, Hid (cLo (r + 1) = u) := ⟨_, Lib.hid rfl⟩
    obtain ⟨v4, hv4⟩ : ∃ u : Int, Hid (cHi (r + 1) = u) := ⟨_, Lib.hid rfl⟩
    obtain ⟨p4, hp4⟩ : ∃ u : Bool, Hid (cOk (r + 1) = u) := ⟨_, Lib.hid rfl⟩
    obtain ⟨m4, hm4⟩ : ∃ u : Bool, Hid (mOk u4 v4 a b = u) := ⟨_, Lib.hid rfl⟩
    have g4 : Hid (p4 = false ∨ m4 = false) := Lib.hid (by
      rw [← hm4.out, ← hu4.out, ← hv4.out, ← hp4.out]
      exact apartFrom (by have := hlr.out; omega))
    go_wp2_with fail
    refine (rt_impl a b _).mono ?_
    rintro e w2 ⟨he, k2⟩
    rw [e1.out, e2.out, hk.out] at he
    subst he
    have x2_0 : w2.cell? ⟨w1.heap.size, 0, none⟩ = some (.int .i64 a) := k2.cell (by first | go_simp)
    have x2_1 : w2.cell? ⟨w1.heap.size, 1, none⟩ = some (.int .i64 b) := k2.cell (by first | go_simp)
    have zx2 : w1.heap.size < w2.heap.size := World.block_lt_of_cell? w2 _ x2_0
    have c2 : Keep w w2 := Keep.trans (c1.alloc _) k2
    go_wp2_with fail
    refine (rt_spec a b _).mono ?_
    rintro e w3 ⟨he, k3⟩
    rw [e1.out, e2.out, hk.out] at he
    subst he
    have x3_0 : w3.cell? ⟨w1.heap.size, 0, none⟩ = some (.int .i64 a) := k3.cell (by first | exact x2_0 | go_simp)
    have x3_1 : w3.cell? ⟨w1.heap.size, 1, none⟩ = some (.int .i64 b) := k3.cell (by first | exact x2_1 | go_simp)
    have o3_0 : w3.cell? ⟨w2.heap.size, 0, none⟩ = some (.int .i64 l) := k3.cell (by first | go_simp)
    have o3_1 : w3.cell? ⟨w2.heap.size, 1, none⟩ = some (.int .i64 r) := k3.cell (by first | go_simp)
    have zx3 : w1.heap.size < w3.heap.size := World.block_lt_of_cell? w3 _ x3_0
    have zo3 : w2.heap.size < w3.heap.size := World.block_lt_of_cell? w3 _ o3_0
    have c3 : Keep w w3 := Keep.trans (c2.alloc _) k3
    go_wp2_with fail
    refine (oc_impl (l) _).mono ?_
    rintro e w4 ⟨he, k4⟩
    rw [hu1.out, hv1.out, hp1.out] at he
    subst he
    have x4_0 : w4.cell? ⟨w1.heap.size, 0, none⟩ = some (.int .i64 a) := k4.cell (by first | exact x3_0 | go_simp)
    have x4_1 : w4.cell? ⟨w1.heap.size, 1, none⟩ = some (.int .i64 b) := k4.cell (by first | exact x3_1 | go_simp)
    have o4_0 : w4.cell? ⟨w2.heap.size, 0, none⟩ = some (.int .i64 l) := k4.cell (by first | exact o3_0 | go_simp)
    have o4_1 : w4.cell? ⟨w2.heap.size, 1, none⟩ = some (.int .i64 r) := k4.cell (by first | exact o3_1 | go_simp)
    have y4_0 : w4.cell? ⟨w3.heap.size, 0, none⟩ = some (.int .i64 l) := k4.cell (by first | go_simp)
    have y4_1 : w4.cell? ⟨w3.heap.size, 1, none⟩ = some (.int .i64 r) := k4.cell (by first | go_simp)
    have zx4 : w1.heap.size < w4.heap.size := World.block_lt_of_cell? w4 _ x4_0
    have zo4 : w2.heap.size < w4.heap.size := World.block_lt_of_cell? w4 _ o4_0
    have zy4 : w3.heap.size < w4.heap.size := World.block_lt_of_cell? w4 _ y4_0
    have c4 : Keep w w4 := Keep.trans (c3.alloc _) k4
    go_wp2_with fail
    refine (oc_impl (r) _).mono ?_
    rintro e w5 ⟨he, k5⟩
    rw [hu2.out, hv2.out, hp2.out] at he
    subst he
    have x5_0 : w5.cell? ⟨w1.heap.size, 0, none⟩ = some (.int .i64 a) := k5.cell (by first | exact x4_0 | go_simp)
    have x5_1 : w5.cell? ⟨w1.heap.size, 1, none⟩ = some (.int .i64 b) := k5.cell (by first | exact x4_1 | go_simp)
    have o5_0 : w5.cell? ⟨w2.heap.size, 0, none⟩ = some (.int .i64 l) := k5.cell (by first | exact o4_0 | go_simp)
    have o5_1 : w5.cell? ⟨w2.heap.size, 1, none⟩ = some (.int .i64 r) := k5.cell (by first | exact o4_1 | go_simp)
    have y5_0 : w5.cell? ⟨w3.heap.size, 0, none⟩ = some (.int .i64 l) := k5.cell (by first | exact y4_0 | go_simp)
    have y5_1 : w5.cell? ⟨w3.heap.size, 1, none⟩ = some (.int .i64 r) := k5.cell (by first | exact y4_1 | go_simp)
    have b15_0 : w5.cell? ⟨w4.heap.size, 0, none⟩ = some (.int .i64 u1) := k5.cell (by first | go_simp)
    have b15_1 : w5.cell? ⟨w4.heap.size, 1, none⟩ = some (.int .i64 v1) := k5.cell (by first | go_simp)
    have zx5 : w1.heap.size < w5.heap.size := World.block_lt_of_cell? w5 _ x5_0
    have zo5 : w2.heap.size < w5.heap.size := World.block_lt_of_cell? w5 _ o5_0
    have zy5 : w3.heap.size < w5.heap.size := World.block_lt_of_cell? w5 _ y5_0
    have zb15 : w4.heap.size < w5.heap.size := World.block_lt_of_cell? w5 _ b15_0
    have c5 : Keep w w5 := Keep.trans (c4.alloc _) k5
    go_wp2_with fail
    refine (oc_impl (l - 1) _).mono ?_
    rintro e w6 ⟨he, k6⟩
    rw [hu3.out, hv3.out, hp3.out] at he
    subst he
    have x6_0 : w6.cell? ⟨w1.heap.size, 0, none⟩ = some (.int .i64 a) := k6.cell (by first | exact x5_0 | go_simp)
    have x6_1 : w6.cell? ⟨w1.heap.size, 1, none⟩ = some (.int .i64 b) := k6.cell (by first | exact x5_1 | go_simp)
    have o6_0 : w6.cell? ⟨w2.heap.size, 0, none⟩ = some (.int .i64 l) := k6.cell (by first | exact o5_0 | go_simp)
    have o6_1 : w6.cell? ⟨w2.heap.size, 1, none⟩ = some (.int .i64 r) := k6.cell (by first | exact o5_1 | go_simp)
    have y6_0 : w6.cell? ⟨w3.heap.size, 0, none⟩ = some (.int .i64 l) := k6.cell (by first | exact y5_0 | go_simp)
    have y6_1 : w6.cell? ⟨w3.heap.size, 1, none⟩ = some (.int .i64 r) := k6.cell (by first | exact y5_1 | go_simp)
    have b16_0 : w6.cell? ⟨w4.heap.size, 0, none⟩ = some (.int .i64 u1) := k6.cell (by first | exact b15_0 | go_simp)
    have b16_1 : w6.cell? ⟨w4.heap.size, 1, none⟩ = some (.int .i64 v1) := k6.cell (by first | exact b15_1 | go_simp)
    have b26_0 : w6.cell? ⟨w5.heap.size, 0, none⟩ = some (.int .i64 u2) := k6.cell (by first | go_simp)
    have b26_1 : w6.cell? ⟨w5.heap.size, 1, none⟩ = some (.int .i64 v2) := k6.cell (by first | go_simp)
    have zx6 : w1.heap.size < w6.heap.size := World.block_lt_of_cell? w6 _ x6_0
    have zo6 : w2.heap.size < w6.heap.size := World.block_lt_of_cell? w6 _ o6_0
    have zy6 : w3.heap.size < w6.heap.size := World.block_lt_of_cell? w6 _ y6_0
    have zb16 : w4.heap.size < w6.heap.size := World.block_lt_of_cell? w6 _ b16_0
    have zb26 : w5.heap.size < w6.heap.size := World.block_lt_of_cell? w6 _ b26_0
    have c6 : Keep w w6 := Keep.trans (c5.alloc _) k6
    go_wp2_with fail
    refine (oc_impl (r + 1) _).mono ?_
    rintro e w7 ⟨he, k7⟩
    rw [hu4.out, hv4.out, hp4.out] at he
    subst he
    have x7_0 : w7.cell? ⟨w1.heap.size, 0, none⟩ = some (.int .i64 a) := k7.cell (by first | exact x6_0 | go_simp)
    have x7_1 : w7.cell? ⟨w1.heap.size, 1, none⟩ = some (.int .i64 b) := k7.cell (by first | exact x6_1 | go_simp)
    have o7_0 : w7.cell? ⟨w2.heap.size, 0, none⟩ = some (.int .i64 l) := k7.cell (by first | exact o6_0 | go_simp)
    have o7_1 : w7.cell? ⟨w2.heap.size, 1, none⟩ = some (.int .i64 r) := k7.cell (by first | exact o6_1 | go_simp)
    have y7_0 : w7.cell? ⟨w3.heap.size, 0, none⟩ = some (.int .i64 l) := k7.cell (by first | exact y6_0 | go_simp)
    have y7_1 : w7.cell? ⟨w3.heap.size, 1, none⟩ = some (.int .i64 r) := k7.cell (by first | exact y6_1 | go_simp)
    have b17_0 : w7.cell? ⟨w4.heap.size, 0, none⟩ = some (.int .i64 u1) := k7.cell (by first | exact b16_0 | go_simp)
    have b17_1 : w7.cell? ⟨w4.heap.size, 1, none⟩ = some (.int .i64 v1) := k7.cell (by first | exact b16_1 | go_simp)
    have b27_0 : w7.cell? ⟨w5.heap.size, 0, none⟩ = some (.int .i64 u2) := k7.cell (by first | exact b26_0 | go_simp)
    have b27_1 : w7.cell? ⟨w5.heap.size, 1, none⟩ = some (.int .i64 v2) := k7.cell (by first | exact b26_1 | go_simp)
    have b37_0 : w7.cell? ⟨w6.heap.size, 0, none⟩ = some (.int .i64 u3) := k7.cell (by first | go_simp)
    have b37_1 : w7.cell? ⟨w6.heap.size, 1, none⟩ = some (.int .i64 v3) := k7.cell (by first | go_simp)
    have zx7 : w1.heap.size < w7.heap.size := World.block_lt_of_cell? w7 _ x7_0
    have zo7 : w2.heap.size < w7.heap.size := World.block_lt_of_cell? w7 _ o7_0
    have zy7 : w3.heap.size < w7.heap.size := World.block_lt_of_cell? w7 _ y7_0
    have zb17 : w4.heap.size < w7.heap.size := World.block_lt_of_cell? w7 _ b17_0
    have zb27 : w5.heap.size < w7.heap.size := World.block_lt_of_cell? w7 _ b27_0
    have zb37 : w6.heap.size < w7.heap.size := World.block_lt_of_cell? w7 _ b37_0
    have c7 : Keep w w7 := Keep.trans (c6.alloc _) k7
    go_wp2_with fail
    refine (mOk_impl u1 v1 a b _).mono ?_
    rintro e w8 ⟨he, k8⟩
    rw [hm1.out] at he
    subst he
    have x8_0 : w8.cell? ⟨w1.heap.size, 0, none⟩ = some (.int .i64 a) := k8.cell (by first | exact x7_0 | go_simp)
    have x8_1 : w8.cell? ⟨w1.heap.size, 1, none⟩ = some (.int .i64 b) := k8.cell (by first | exact x7_1 | go_simp)
    have o8_0 : w8.cell? ⟨w2.heap.size, 0, none⟩ = some (.int .i64 l) := k8.cell (by first | exact o7_0 | go_simp)
    have o8_1 : w8.cell? ⟨w2.heap.size, 1, none⟩ = some (.int .i64 r) := k8.cell (by first | exact o7_1 | go_simp)
    have y8_0 : w8.cell? ⟨w3.heap.size, 0, none⟩ = some (.int .i64 l) := k8.cell (by first | exact y7_0 | go_simp)
    have y8_1 : w8.cell? ⟨w3.heap.size, 1, none⟩ = some (.int .i64 r) := k8.cell (by first | exact y7_1 | go_simp)
    have b18_0 : w8.cell? ⟨w4.heap.size, 0, none⟩ = some (.int .i64 u1) := k8.cell (by first | exact b17_0 | go_simp)
    have b18_1 : w8.cell? ⟨w4.heap.size, 1, none⟩ = some (.int .i64 v1) := k8.cell (by first | exact b17_1 | go_simp)
    have b28_0 : w8.cell? ⟨w5.heap.size, 0, none⟩ = some (.int .i64 u2) := k8.cell (by first | exact b27_0 | go_simp)
    have b28_1 : w8.cell? ⟨w5.heap.size, 1, none⟩ = some (.int .i64 v2) := k8.cell (by first | exact b27_1 | go_simp)
    have b38_0 : w8.cell? ⟨w6.heap.size, 0, none⟩ = some (.int .i64 u3) := k8.cell (by first | exact b37_0 | go_simp)
    have b38_1 : w8.cell? ⟨w6.heap.size, 1, none⟩ = some (.int .i64 v3) := k8.cell (by first | exact b37_1 | go_simp)
    have b48_0 : w8.cell? ⟨w7.heap.size, 0, none⟩ = some (.int .i64 u4) := k8.cell (by first | go_simp)
    have b48_1 : w8.cell? ⟨w7.heap.size, 1, none⟩ = some (.int .i64 v4) := k8.cell (by first | go_simp)
    have zx8 : w1.heap.size < w8.heap.size := World.block_lt_of_cell? w8 _ x8_0
    have zo8 : w2.heap.size < w8.heap.size := World.block_lt_of_cell? w8 _ o8_0
    have zy8 : w3.heap.size < w8.heap.size := World.block_lt_of_cell? w8 _ y8_0
    have zb18 : w4.heap.size < w8.heap.size := World.block_lt_of_cell? w8 _ b18_0
    have zb28 : w5.heap.size < w8.heap.size := World.block_lt_of_cell? w8 _ b28_0
    have zb38 : w6.heap.size < w8.heap.size := World.block_lt_of_cell? w8 _ b38_0
    have zb48 : w7.heap.size < w8.heap.size := World.block_lt_of_cell? w8 _ b48_0
    have c8 : Keep w w8 := Keep.trans (c7.alloc _) k8
    go_wp2_with fail
    refine (mOk_impl u2 v2 a b _).mono ?_
    rintro e w9 ⟨he, k9⟩
    rw [hm2.out] at he
    subst he
    have x9_0 : w9.cell? ⟨w1.heap.size, 0, none⟩ = some (.int .i64 a) := k9.cell (by first | exact x8_0 | go_simp)
    have x9_1 : w9.cell? ⟨w1.heap.size, 1, none⟩ = some (.int .i64 b) := k9.cell (by first | exact x8_1 | go_simp)
    have o9_0 : w9.cell? ⟨w2.heap.size, 0, none⟩ = some (.int .i64 l) := k9.cell (by first | exact o8_0 | go_simp)
    have o9_1 : w9.cell? ⟨w2.heap.size, 1, none⟩ = some (.int .i64 r) := k9.cell (by first | exact o8_1 | go_simp)
    have y9_0 : w9.cell? ⟨w3.heap.size, 0, none⟩ = some (.int .i64 l) := k9.cell (by first | exact y8_0 | go_simp)
    have y9_1 : w9.cell? ⟨w3.heap.size, 1, none⟩ = some (.int .i64 r) := k9.cell (by first | exact y8_1 | go_simp)
    have b19_0 : w9.cell? ⟨w4.heap.size, 0, none⟩ = some (.int .i64 u1) := k9.cell (by first | exact b18_0 | go_simp)
    have b19_1 : w9.cell? ⟨w4.heap.size, 1, none⟩ = some (.int .i64 v1) := k9.cell (by first | exact b18_1 | go_simp)
    have b29_0 : w9.cell? ⟨w5.heap.size, 0, none⟩ = some (.int .i64 u2) := k9.cell (by first | exact b28_0 | go_simp)
    have b29_1 : w9.cell? ⟨w5.heap.size, 1, none⟩ = some (.int .i64 v2) := k9.cell (by first | exact b28_1 | go_simp)
    have b39_0 : w9.cell? ⟨w6.heap.size, 0, none⟩ = some (.int .i64 u3) := k9.cell (by first | exact b38_0 | go_simp)
    have b39_1 : w9.cell? ⟨w6.heap.size, 1, none⟩ = some (.int .i64 v3) := k9.cell (by first | exact b38_1 | go_simp)
    have b49_0 : w9.cell? ⟨w7.heap.size, 0, none⟩ = some (.int .i64 u4) := k9.cell (by first | exact b48_0 | go_simp)
    have b49_1 : w9.cell? ⟨w7.heap.size, 1, none⟩ = some (.int .i64 v4) := k9.cell (by first | exact b48_1 | go_simp)
    have m19_0 : w9.cell? ⟨w8.heap.size, 0, none⟩ = some (.int .i64 (mLo u1 v1 a b)) := k9.cell (by first | go_simp)
    have m19_1 : w9.cell? ⟨w8.heap.size, 1, none⟩ = some (.int .i64 (mHi u1 v1 a b)) := k9.cell (by first | go_simp)
    have zx9 : w1.heap.size < w9.heap.size := World.block_lt_of_cell? w9 _ x9_0
    have zo9 : w2.heap.size < w9.heap.size := World.block_lt_of_cell? w9 _ o9_0
    have zy9 : w3.heap.size < w9.heap.size := World.block_lt_of_cell? w9 _ y9_0
    have zb19 : w4.heap.size < w9.heap.size := World.block_lt_of_cell? w9 _ b19_0
    have zb29 : w5.heap.size < w9.heap.size := World.block_lt_of_cell? w9 _ b29_0
    have zb39 : w6.heap.size < w9.heap.size := World.block_lt_of_cell? w9 _ b39_0
    have zb49 : w7.heap.size < w9.heap.size := World.block_lt_of_cell? w9 _ b49_0
    have zm19 : w8.heap.size < w9.heap.size := World.block_lt_of_cell? w9 _ m19_0
    have c9 : Keep w w9 := Keep.trans (c8.alloc _) k9
    go_wp2_with fail
    refine (mOk_impl u3 v3 a b _).mono ?_
    rintro e w10 ⟨he, k10⟩
    rw [hm3.out] at he
    subst he
    have x10_0 : w10.cell? ⟨w1.heap.size, 0, none⟩ = some (.int .i64 a) := k10.cell (by first | exact x9_0 | go_simp)
    have x10_1 : w10.cell? ⟨w1.heap.size, 1, none⟩ = some (.int .i64 b) := k10.cell (by first | exact x9_1 | go_simp)
    have o10_0 : w10.cell? ⟨w2.heap.size, 0, none⟩ = some (.int .i64 l) := k10.cell (by first | exact o9_0 | go_simp)
    have o10_1 : w10.cell? ⟨w2.heap.size, 1, none⟩ = some (.int .i64 r) := k10.cell (by first | exact o9_1 | go_simp)
    have y10_0 : w10.cell? ⟨w3.heap.size, 0, none⟩ = some (.int .i64 l) := k10.cell (by first | exact y9_0 | go_simp)
    have y10_1 : w10.cell? ⟨w3.heap.size, 1, none⟩ = some (.int .i64 r) := k10.cell (by first | exact y9_1 | go_simp)
    have b110_0 : w10.cell? ⟨w4.heap.size, 0, none⟩ = some (.int .i64 u1) := k10.cell (by first | exact b19_0 | go_simp)
    have b110_1 : w10.cell? ⟨w4.heap.size, 1, none⟩ = some (.int .i64 v1) := k10.cell (by first | exact b19_1 | go_simp)
    have b210_0 : w10.cell? ⟨w5.heap.size, 0, none⟩ = some (.int .i64 u2) := k10.cell (by first | exact b29_0 | go_simp)
    have b210_1 : w10.cell? ⟨w5.heap.size, 1, none⟩ = some (.int .i64 v2) := k10.cell (by first | exact b29_1 | go_simp)
    have b310_0 : w10.cell? ⟨w6.heap.size, 0, none⟩ = some (.int .i64 u3) := k10.cell (by first | exact b39_0 | go_simp)
    have b310_1 : w10.cell? ⟨w6.heap.size, 1, none⟩ = some (.int .i64 v3) := k10.cell (by first | exact b39_1 | go_simp)
    have b410_0 : w10.cell? ⟨w7.heap.size, 0, none⟩ = some (.int .i64 u4) := k10.cell (by first | exact b49_0 | go_simp)
    have b410_1 : w10.cell? ⟨w7.heap.size, 1, none⟩ = some (.int .i64 v4) := k10.cell (by first | exact b49_1 | go_simp)
    have m110_0 : w10.cell? ⟨w8.heap.size, 0, none⟩ = some (.int .i64 (mLo u1 v1 a b)) := k10.cell (by first | exact m19_0 | go_simp)
    have m110_1 : w10.cell? ⟨w8.heap.size, 1, none⟩ = some (.int .i64 (mHi u1 v1 a b)) := k10.cell (by first | exact m19_1 | go_simp)
    have m210_0 : w10.cell? ⟨w9.heap.size, 0, none⟩ = some (.int .i64 (mLo u2 v2 a b)) := k10.cell (by first | go_simp)
    have m210_1 : w10.cell? ⟨w9.heap.size, 1, none⟩ = some (.int .i64 (mHi u2 v2 a b)) := k10.cell (by first | go_simp)
    have zx10 : w1.heap.size < w10.heap.size := World.block_lt_of_cell? w10 _ x10_0
    have zo10 : w2.heap.size < w10.heap.size := World.block_lt_of_cell? w10 _ o10_0
    have zy10 : w3.heap.size < w10.heap.size := World.block_lt_of_cell? w10 _ y10_0
    have zb110 : w4.heap.size < w10.heap.size := World.block_lt_of_cell? w10 _ b110_0
    have zb210 : w5.heap.size < w10.heap.size := World.block_lt_of_cell? w10 _ b210_0
    have zb310 : w6.heap.size < w10.heap.size := World.block_lt_of_cell? w10 _ b310_0
    have zb410 : w7.heap.size < w10.heap.size := World.block_lt_of_cell? w10 _ b410_0
    have zm110 : w8.heap.size < w10.heap.size := World.block_lt_of_cell? w10 _ m110_0
    have zm210 : w9.heap.size < w10.heap.size := World.block_lt_of_cell? w10 _ m210_0
    have c10 : Keep w w10 := Keep.trans (c9.alloc _) k10
    go_wp2_with fail
    refine (mOk_impl u4 v4 a b _).mono ?_
    rintro e w11 ⟨he, k11⟩
    rw [hm4.out] at he
    subst he
    have x11_0 : w11.cell? ⟨w1.heap.size, 0, none⟩ = some (.int .i64 a) := k11.cell (by first | exact x10_0 | go_simp)
    have x11_1 : w11.cell? ⟨w1.heap.size, 1, none⟩ = some (.int .i64 b) := k11.cell (by first | exact x10_1 | go_simp)
    have o11_0 : w11.cell? ⟨w2.heap.size, 0, none⟩ = some (.int .i64 l) := k11.cell (by first | exact o10_0 | go_simp)
    have o11_1 : w11.cell? ⟨w2.heap.size, 1, none⟩ = some (.int .i64 r) := k11.cell (by first | exact o10_1 | go_simp)
    have y11_0 : w11.cell? ⟨w3.heap.size, 0, none⟩ = some (.int .i64 l) := k11.cell (by first | exact y10_0 | go_simp)
    have y11_1 : w11.cell? ⟨w3.heap.size, 1, none⟩ = some (.int .i64 r) := k11.cell (by first | exact y10_1 | go_simp)
    have b111_0 : w11.cell? ⟨w4.heap.size, 0, none⟩ = some (.int .i64 u1) := k11.cell (by first | exact b110_0 | go_simp)
    have b111_1 : w11.cell? ⟨w4.heap.size, 1, none⟩ = some (.int .i64 v1) := k11.cell (by first | exact b110_1 | go_simp)
    have b211_0 : w11.cell? ⟨w5.heap.size, 0, none⟩ = some (.int .i64 u2) := k11.cell (by first | exact b210_0 | go_simp)
    have b211_1 : w11.cell? ⟨w5.heap.size, 1, none⟩ = some (.int .i64 v2) := k11.cell (by first | exact b210_1 | go_simp)
    have b311_0 : w11.cell? ⟨w6.heap.size, 0, none⟩ = some (.int .i64 u3) := k11.cell (by first | exact b310_0 | go_simp)
    have b311_1 : w11.cell? ⟨w6.heap.size, 1, none⟩ = some (.int .i64 v3) := k11.cell (by first | exact b310_1 | go_simp)
    have b411_0 : w11.cell? ⟨w7.heap.size, 0, none⟩ = some (.int .i64 u4) := k11.cell (by first | exact b410_0 | go_simp)
    have b411_1 : w11.cell? ⟨w7.heap.size, 1, none⟩ = some (.int .i64 v4) := k11.cell (by first | exact b410_1 | go_simp)
    have m111_0 : w11.cell? ⟨w8.heap.size, 0, none⟩ = some (.int .i64 (mLo u1 v1 a b)) := k11.cell (by first | exact m110_0 | go_simp)
    have m111_1 : w11.cell? ⟨w8.heap.size, 1, none⟩ = some (.int .i64 (mHi u1 v1 a b)) := k11.cell (by first | exact m110_1 | go_simp)
    have m211_0 : w11.cell? ⟨w9.heap.size, 0, none⟩ = some (.int .i64 (mLo u2 v2 a b)) := k11.cell (by first | exact m210_0 | go_simp)
    have m211_1 : w11.cell? ⟨w9.heap.size, 1, none⟩ = some (.int .i64 (mHi u2 v2 a b)) := k11.cell (by first | exact m210_1 | go_simp)
    have m311_0 : w11.cell? ⟨w10.heap.size, 0, none⟩ = some (.int .i64 (mLo u3 v3 a b)) := k11.cell (by first | go_simp)
    have m311_1 : w11.cell? ⟨w10.heap.size, 1, none⟩ = some (.int .i64 (mHi u3 v3 a b)) := k11.cell (by first | go_simp)
    have zx11 : w1.heap.size < w11.heap.size := World.block_lt_of_cell? w11 _ x11_0
    have zo11 : w2.heap.size < w11.heap.size := World.block_lt_of_cell? w11 _ o11_0
    have zy11 : w3.heap.size < w11.heap.size := World.block_lt_of_cell? w11 _ y11_0
    have zb111 : w4.heap.size < w11.heap.size := World.block_lt_of_cell? w11 _ b111_0
    have zb211 : w5.heap.size < w11.heap.size := World.block_lt_of_cell? w11 _ b211_0
    have zb311 : w6.heap.size < w11.heap.size := World.block_lt_of_cell? w11 _ b311_0
    have zb411 : w7.heap.size < w11.heap.size := World.block_lt_of_cell? w11 _ b411_0
    have zm111 : w8.heap.size < w11.heap.size := World.block_lt_of_cell? w11 _ m111_0
    have zm211 : w9.heap.size < w11.heap.size := World.block_lt_of_cell? w11 _ m211_0
    have zm311 : w10.heap.size < w11.heap.size := World.block_lt_of_cell? w11 _ m311_0
    have c11 : Keep w w11 := Keep.trans (c10.alloc _) k11
    rcases g1.out with g1 | g1 <;> rcases g2.out with g2 | g2 <;> rcases g3.out with g3 | g3 <;> rcases g4.out with g4 | g4
    all_goals
      subst g1 g2 g3 g4
      go_wp2
      all_goals
        go_ret
        refine ⟨retB ?_, (show Keep w _ from (c11.alloc _))⟩
        first | rfl | (simp at *; omega) | (simp at *; done) | omega
end Go.Proofs.Ytalkfggkpjakiab
