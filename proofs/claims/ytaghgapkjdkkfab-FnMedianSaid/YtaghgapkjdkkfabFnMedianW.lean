/- P55: a median is in the middle. -/
import Derived.Test.YtaghgapkjdkkfabDrSq
import Derived.Test.YtaghgapkjdkkfabMd
import Derived.Test.YtaghgapkjdkkfabLw
import Derived.Test.YtaghgapkjdkkfabHi
import Derived.Test.YtaghgapkjdkkfabFr
namespace Go.Proofs.Ytaghgapkjdkkfab
open Go.RowKit
set_option linter.unusedVariables false

theorem cGt_take {L : List Int} {q : Nat} (h : q < L.length) (x : Int) : cGt (L.take (q + 1)) x = cGt (L.take q) x + (if x < L.getD q 0 then 1 else 0) := by
  rw [List.take_succ_eq_append_getElem h, cGt, cGt, List.countP_append]
  simp [List.getD_eq_getElem?_getD, h, List.countP_cons]
set_option maxRecDepth 100000 in
set_option maxHeartbeats 6400000 in
theorem walk_FnMedian (a0 : Option Addr) (len0 cap0 : Nat) (z0 : List Int) (w : World) (w0 : IsRow .u8 w a0 len0 cap0 z0) :
    Calls Try.prog 6 #[.slice a0 len0 cap0] w fun e w' => e = .returned (.bool true) ∧ Below w.heap.size w w' := by
  have ha := code_of_row w0
  obtain ⟨hl0, hm0⟩ := ha.1
  unfold maxLen at hm0
  clear w0
  by_cases h : len0 ≤ 1048576
  case' neg =>
    have hd : decide (1048576 < (len0 : Int)) = true := by simp; omega
    go_enter Try.func6, Try.ntmps6
    go_wp2
    go_ret
    exact ⟨rfl, Below.refl _ _⟩
  have hd : decide (1048576 < (len0 : Int)) = false := by simp; omega
  go_enter Try.func6, Try.ntmps6
  go_wp2_with fail
  refine (drawMedianOf a0 len0 cap0 _ ha).mono ?_
  rintro e w1 ⟨a, c, zs, rfl, hl13, hcap, hB, hL1, k1⟩
  have HB := Lib.hid hB
  clear ha hB
  go_wp2_with fail
  refine (mo_impl a c zs _ hL1 (by omega)).mono ?_
  rintro e w2 ⟨rfl, k2⟩
  go_wp2_with fail
  refine (mo_spec a c zs _ (hL1.keep k2) (by omega)).mono ?_
  rintro e w3 ⟨rfl, k3⟩
  have K3 : Keep w w3 := (k1.trans k2).trans k3
  have hL := (hL1.keep k2).keep k3
  clear hL1 k1 k2 k3
  rcases Bool.eq_false_or_eq_true (moB zs) with hs | hs
  case' inr =>
    generalize moV zs = v at *
    rw [hs]
    go_wp2
    go_ret
    exact ⟨rfl, K3⟩
  obtain ⟨hq, h0⟩ := moB_facts hs
  have HS := Lib.hid hs
  have HV := Lib.hid (moV_yes hs)
  have HQ := Lib.hid hq
  rw [hs]
  clear hs hq
  have HM := Lib.hid (mdL_mem h0)
  have HC := Lib.hid (md_counts h0)
  have HK := Lib.hid (known_any a c zs w3 hL (by omega))
  rw [← HV.out] at HM HC
  generalize moV zs = v at *
  have hle : (knl zs).length ≤ 13 := by have : (knl zs).length ≤ zs.length := List.length_filter_le _ _; omega
  go_wp2_with fail
  refine HK.out.mono ?_
  rintro e w4 ⟨g4, c4, rfl, hc4, hW4, hg4, hl4, k4⟩
  clear HK HV
  generalize knl zs = L at *
  have K4 : Keep w w4 := K3.trans k4
  go_wp2_with fail
  go_loopw [8, 9, 11] (fun p q i wr => ∃ u n1 n2 : Nat, u ≤ L.length ∧ n1 ≤ u ∧ n2 ≤ u ∧ p = .int .i64 n1 ∧ q = .int .i64 n2 ∧ i = .int .i64 u ∧ Hid (cLt (L.take u) v = n1) ∧ Hid (cGt (L.take u) v = n2) ∧ Keep w4 wr) (fun _ _ i _ => L.length - (intOf i).toNat)
  case atStart => exact ⟨0, 0, 0, by omega, by omega, by omega, rfl, rfl, rfl, Lib.hid (by simp [cLt]), Lib.hid (by simp [cGt]), Keep.refl _⟩
  case round =>
    obtain ⟨u, n1, n2, hu, hn1, hn2, rfl, rfl, rfl, H1, H2, hK2⟩ := hrel
    by_cases hul : u < L.length
    · obtain ⟨bz, oz, hae, hbz, du⟩ := (hW4.keep hK2).ls.at_ hul
      injection hae with hae
      injection hae with e1 e2 _
      subst e1; subst e2
      rw [Nat.zero_add] at du
      have T1 := Lib.hid (cLt_take hul v)
      have T2 := Lib.hid (cGt_take hul v)
      rw [H1.out] at T1
      rw [H2.out] at T2
      generalize L.getD u 0 = y at du T1 T2
      rcases Int.lt_trichotomy y v with q1 | q1 | q1
      · have HT1 : Hid (cLt (L.take (u + 1)) v = n1 + 1) := Lib.hid (by rw [T1.out, if_pos q1])
        have HT2 : Hid (cGt (L.take (u + 1)) v = n2) := Lib.hid (by rw [T2.out, if_neg (by omega), Nat.add_zero])
        have q2 : ¬ v < y := by omega
        clear T1 T2
        go_wp2
        go_roundw
        case rel => exact ⟨u + 1, n1 + 1, n2, by omega, by omega, by omega, by go_num, rfl, by go_num, HT1, HT2, hK2⟩
        case measure => simp [intOf]; omega
      · subst q1
        have HT1 : Hid (cLt (L.take (u + 1)) y = n1) := Lib.hid (by rw [T1.out, if_neg (by omega), Nat.add_zero])
        have HT2 : Hid (cGt (L.take (u + 1)) y = n2) := Lib.hid (by rw [T2.out, if_neg (by omega), Nat.add_zero])
        clear T1 T2
        go_wp2
        go_roundw
        case rel => exact ⟨u + 1, n1, n2, by omega, by omega, by omega, rfl, rfl, by go_num, HT1, HT2, hK2⟩
        case measure => simp [intOf]; omega
      · have HT1 : Hid (cLt (L.take (u + 1)) v = n1) := Lib.hid (by rw [T1.out, if_neg (by omega), Nat.add_zero])
        have HT2 : Hid (cGt (L.take (u + 1)) v = n2 + 1) := Lib.hid (by rw [T2.out, if_pos q1])
        have q2 : ¬ y < v := by omega
        clear T1 T2
        go_wp2
        go_roundw
        case rel => exact ⟨u + 1, n1, n2 + 1, by omega, by omega, by omega, rfl, by go_num, by go_num, HT1, HT2, hK2⟩
        case measure => simp [intOf]; omega
    · obtain rfl : u = L.length := by omega
      rw [List.take_length] at H1 H2
      rw [H1.out, H2.out] at HC
      obtain ⟨q1, q2⟩ := HC.out
      have HI := Lib.hid (hasI_any (some ⟨g4, 0, none⟩) c4 L v wr (hW4.keep hK2).ls (by omega))
      rw [decide_eq_true HM.out] at HI
      have m1 : (2 : Int) * (n1 : Int) < (L.length : Int) := by omega
      have m2 : (2 : Int) * (n2 : Int) ≤ (L.length : Int) := by omega
      go_wp2_with fail
      refine HI.out.mono ?_
      rintro e w5 ⟨rfl, rfl⟩
      go_wp2
      go_ret
      exact ⟨rfl, K4.trans hK2⟩
end Go.Proofs.Ytaghgapkjdkkfab
