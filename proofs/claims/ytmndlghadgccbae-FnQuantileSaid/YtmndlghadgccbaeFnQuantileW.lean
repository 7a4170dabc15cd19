/- P92: at least so many values are at most the quantile, and fewer are less. -/
import Derived.Test.YtmndlghadgccbaeDrQu
import Derived.Test.YtmndlghadgccbaeQu
import Derived.Test.YtmndlghadgccbaeQm
import Derived.Test.YtmndlghadgccbaeLw
import Derived.Test.YtmndlghadgccbaeHi
import Derived.Test.YtmndlghadgccbaeFr
namespace Go.Proofs.Ytmndlghadgccbae
open Go.RowKit
set_option linter.unusedVariables false

set_option maxRecDepth 100000 in
set_option maxHeartbeats 6400000 in
theorem walk_FnQuantile (a0 : Option Addr) (len0 cap0 : Nat) (z0 : List Int) (w : World) (w0 : IsRow .u8 w a0 len0 cap0 z0) :
    Calls Try.prog 5 #[.slice a0 len0 cap0] w fun e w' => e = .returned (.bool true) ∧ Below w.heap.size w w' := by
  have ha := code_of_row w0
  obtain ⟨hl0, hm0⟩ := ha.1
  unfold maxLen at hm0
  clear w0
  by_cases h : len0 ≤ 1048576
  case' neg =>
    have hd : decide (1048576 < (len0 : Int)) = true := by simp; omega
    go_enter Try.func5, Try.ntmps5
    go_wp2
    go_ret
    exact ⟨rfl, Below.refl _ _⟩
  have hd : decide (1048576 < (len0 : Int)) = false := by simp; omega
  go_enter Try.func5, Try.ntmps5
  go_wp2_with fail
  refine (drawQuantileOf a0 len0 cap0 _ ha).mono ?_
  rintro e w1 ⟨a, c, zs, num, den, rfl, ⟨hl13, hcap⟩, hB, hL1, ⟨n0, n1⟩, ⟨d0, d1⟩, k1⟩
  clear ha hB
  go_wp2_with fail
  refine (qu_impl a c zs num den _ hL1 (by omega)).mono ?_
  rintro e w2 ⟨rfl, k2⟩
  go_wp2_with fail
  refine (qu_spec a c zs num den _ (hL1.keep k2) (by omega)).mono ?_
  rintro e w3 ⟨rfl, k3⟩
  have K3 : Keep w w3 := (k1.trans k2).trans k3
  have hL := (hL1.keep k2).keep k3
  clear hL1 k1 k2 k3
  rcases Bool.eq_false_or_eq_true (quB zs num den) with hs | hs
  case' inr =>
    generalize quV zs num den = v at *
    rw [hs]
    clear hs
    go_wp2
    go_ret
    exact ⟨rfl, K3⟩
  obtain ⟨hmem, hup, hlow⟩ := qu_counts hs
  have HMem := Lib.hid hmem
  have HKn := Lib.hid (known_any a c zs w3 hL (by omega))
  have hkl := knl_le zs
  obtain ⟨_, hk0, ⟨hd1, hd2⟩, hn1, hn2⟩ := quB_facts hs
  rw [hs]
  clear hs hmem
  generalize quV zs num den = v at *
  have hup2 := Lib.hid hup
  have hlow2 := Lib.hid hlow
  clear hup hlow
  generalize knl zs = L at *
  have hm : num * (L.length : Int) ≤ 20 * 13 ∧ 0 ≤ num * (L.length : Int) := by
    have h1 : num * (L.length : Int) ≤ 20 * (L.length : Int) := Int.mul_le_mul_of_nonneg_right n1 (by omega)
    have h2 := Int.mul_nonneg (show 0 ≤ num by omega) (show 0 ≤ (L.length : Int) by omega)
    omega
  obtain ⟨t, ht⟩ : ∃ t, num * (L.length : Int) = t := ⟨_, rfl⟩
  rw [ht] at hm hup2 hlow2
  have hwt : IntKind.i64.wrap t = t := IntWalk.i64_in _ ⟨by omega, by omega⟩
  go_wp2_with fail
  refine HKn.out.mono ?_
  rintro e w4 ⟨g4, c4, rfl, hc4, hW4, hg4, hl4, k4⟩
  clear HKn
  have K4 : Keep w w4 := K3.trans k4
  go_wp2_with fail
  go_loopw [10, 11, 13] (fun p q i wr => ∃ u m1 m2 : Nat, u ≤ L.length ∧ m1 ≤ u ∧ m2 ≤ u ∧ p = .int .i64 m1 ∧ q = .int .i64 m2 ∧ i = .int .i64 u ∧ Hid (cLe (L.take u) v = m1) ∧ Hid (cLt (L.take u) v = m2) ∧ Keep w4 wr) (fun _ _ i _ => L.length - (intOf i).toNat)
  case atStart => exact ⟨0, 0, 0, by omega, by omega, by omega, rfl, rfl, rfl, Lib.hid (by simp [cLe]), Lib.hid (by simp [cLt]), Keep.refl _⟩
  case round =>
    obtain ⟨u, m1, m2, hu, hm1, hm2, rfl, rfl, rfl, H1, H2, hK2⟩ := hrel
    by_cases hul : u < L.length
    · obtain ⟨bz, oz, hae, hbz, du⟩ := (hW4.keep hK2).ls.at_ hul
      injection hae with hae
      injection hae with e1 e2 _
      subst e1; subst e2
      rw [Nat.zero_add] at du
      have T1 := Lib.hid (cLe_takeQ hul v)
      have T2 := Lib.hid (cLt_takeQ hul v)
      rw [H1.out] at T1
      rw [H2.out] at T2
      generalize L.getD u 0 = y at du T1 T2
      have u0 : (0 : Int) ≤ (u : Int) := by omega
      have uz : (u : Int) < (L.length : Int) := by omega
      rcases Int.lt_trichotomy y v with q1 | q1 | q1
      · have HT1 : Hid (cLe (L.take (u + 1)) v = m1 + 1) := Lib.hid (by rw [T1.out, if_pos (by omega)])
        have HT2 : Hid (cLt (L.take (u + 1)) v = m2 + 1) := Lib.hid (by rw [T2.out, if_pos q1])
        have d1 : decide (y ≤ v) = true := decide_eq_true (by omega)
        have d2 : decide (y < v) = true := decide_eq_true q1
        clear T1 T2 q1
        go_wp2
        go_roundw
        case rel => exact ⟨u + 1, m1 + 1, m2 + 1, by omega, by omega, by omega, by go_num, by go_num, by go_num, HT1, HT2, hK2⟩
        case measure => simp [intOf]; omega
      · subst q1
        have HT1 : Hid (cLe (L.take (u + 1)) y = m1 + 1) := Lib.hid (by rw [T1.out, if_pos (by omega)])
        have HT2 : Hid (cLt (L.take (u + 1)) y = m2) := Lib.hid (by rw [T2.out, if_neg (by omega), Nat.add_zero])
        have d1 : decide (y ≤ y) = true := decide_eq_true (by omega)
        have d2 : decide (y < y) = false := decide_eq_false (by omega)
        clear T1 T2
        go_wp2
        go_roundw
        case rel => exact ⟨u + 1, m1 + 1, m2, by omega, by omega, by omega, by go_num, rfl, by go_num, HT1, HT2, hK2⟩
        case measure => simp [intOf]; omega
      · have HT1 : Hid (cLe (L.take (u + 1)) v = m1) := Lib.hid (by rw [T1.out, if_neg (by omega), Nat.add_zero])
        have HT2 : Hid (cLt (L.take (u + 1)) v = m2) := Lib.hid (by rw [T2.out, if_neg (by omega), Nat.add_zero])
        have d1 : decide (y ≤ v) = false := decide_eq_false (by omega)
        have d2 : decide (y < v) = false := decide_eq_false (by omega)
        clear T1 T2 q1
        go_wp2
        go_roundw
        case rel => exact ⟨u + 1, m1, m2, by omega, by omega, by omega, rfl, rfl, by go_num, HT1, HT2, hK2⟩
        case measure => simp [intOf]; omega
    · obtain rfl : u = L.length := by omega
      rw [List.take_length] at H1 H2
      have q1 := hup2.out
      have q2 := hlow2.out
      rw [H1.out] at q1
      rw [H2.out] at q2
      have HI := Lib.hid (hasI_any (some ⟨g4, 0, none⟩) c4 L v wr (hW4.keep hK2).ls (by omega))
      rw [decide_eq_true HMem.out] at HI
      have s1 : 0 ≤ (m1 : Int) * den ∧ (m1 : Int) * den ≤ 13 * den := ⟨Int.mul_nonneg (by omega) (by omega), Int.mul_le_mul_of_nonneg_right (by omega) (by omega)⟩
      have s2 : 0 ≤ (m2 : Int) * den ∧ (m2 : Int) * den ≤ 13 * den := ⟨Int.mul_nonneg (by omega) (by omega), Int.mul_le_mul_of_nonneg_right (by omega) (by omega)⟩
      obtain ⟨x1, hx1⟩ : ∃ x1, (m1 : Int) * den = x1 := ⟨_, rfl⟩
      obtain ⟨x2, hx2⟩ : ∃ x2, (m2 : Int) * den = x2 := ⟨_, rfl⟩
      rw [hx1] at s1 q1
      rw [hx2] at s2 q2
      have hw1 : IntKind.i64.wrap x1 = x1 := IntWalk.i64_in _ ⟨by omega, by omega⟩
      have hw2 : IntKind.i64.wrap x2 = x2 := IntWalk.i64_in _ ⟨by omega, by omega⟩
      have f1 : decide (t ≤ x1) = true := decide_eq_true q1
      have f2 : decide (x2 < t) = true := decide_eq_true q2
      go_wp2_with fail
      refine HI.out.mono ?_
      rintro e w5 ⟨rfl, rfl⟩
      go_wp2
      go_ret
      exact ⟨rfl, K4.trans hK2⟩
end Go.Proofs.Ytmndlghadgccbae
