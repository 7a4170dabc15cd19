/- P37: the last report counts. -/
import Derived.Test.YtkapnbfjpglblabDrSw
import Derived.Test.YtkapnbfjpglblabFr
namespace Go.Proofs.Ytkapnbfjpglblab
open Go.RowKit
set_option linter.unusedVariables false

set_option maxRecDepth 100000 in
set_option maxHeartbeats 3200000 in
theorem walk_FnStoreValue (a0 : Option Addr) (len0 cap0 : Nat) (z0 : List Int) (w : World) (w0 : IsRow .u8 w a0 len0 cap0 z0) :
    Calls Try.prog 6 #[.slice a0 len0 cap0] w fun e w' => e = .returned (.bool true) ∧ Below w.heap.size w w' := by
  have ha := code_of_row w0
  obtain ⟨hl0, hm0⟩ := ha.1
  unfold maxLen at hm0
  clear w0
  by_cases h : len0 ≤ 1048576
  case' neg =>
    have hd : decide (1048576 < (len0 : Int)) = true := by simp; omega
    go_enter Try.func6, Try.ntmps6
    go_wp2
    go_ret
    exact ⟨rfl, Below.refl _ _⟩
  have hd : decide (1048576 < (len0 : Int)) = false := by simp; omega
  go_enter Try.func6, Try.ntmps6
  go_wp2_with fail
  refine (drawStoreValue a0 len0 cap0 _ ha).mono ?_
  rintro e w1 ⟨g, c, rs, n, s, d, t, rfl, hl, hcl, hF, k1⟩
  have hL1 := hF.rs
  clear ha hF
  go_wp2_with fail
  refine (svv_impl _ c rs n s d t _ hL1 (by omega) (by omega)).mono ?_
  rintro e w2 ⟨rfl, k2⟩
  go_wp2_with fail
  refine (svv_spec _ c rs n s d t _ (hL1.keep k2) (by omega) (by omega)).mono ?_
  rintro e w3 ⟨rfl, k3⟩
  have hL := (hL1.keep k2).keep k3
  have kk : Keep w w3 := (k1.trans k2).trans k3
  clear hL1 k1 k2 k3
  obtain ⟨X, hX⟩ : ∃ X, svV rs n s d t = X := ⟨_, rfl⟩
  have HX := Lib.hid hX
  rw [hX]
  clear hX
  rcases Bool.eq_false_or_eq_true (stB rs) with hs | hs
  case' inr =>
    replace hs := Lib.hid hs
    go_wp2_with fail
    refine (sv_spec _ c rs _ hL (by omega)).mono ?_
    rintro e w6 ⟨he, k6⟩
    rw [hs.out] at he
    subst he
    go_wp2
    go_ret
    exact ⟨rfl, kk.trans k6⟩
  replace hs := Lib.hid hs
  go_wp2_with fail
  refine (sv_spec _ c rs _ hL (by omega)).mono ?_
  rintro e w4 ⟨he, k6⟩
  rw [hs.out] at he
  subst he
  have L4 := Lib.hid (hL.keep k6)
  have K4 : Keep w w4 := kk.trans k6
  clear hL kk k6
  by_cases hn : 0 ≤ n ∧ n ≤ (rs.length : Int)
  case' neg =>
    by_cases hn0 : n < 0
    · go_wp2
      go_ret
      exact ⟨rfl, K4⟩
    · have hn1 : (rs.length : Int) < n := by omega
      go_wp2
      go_ret
      exact ⟨rfl, K4⟩
  obtain ⟨x, rfl⟩ : ∃ x : Nat, n = (x : Int) := ⟨n.toNat, by omega⟩
  have hxl : x ≤ rs.length := by omega
  have hn0 : ¬ (x : Int) < 0 := by omega
  have hn1 : ¬ (rs.length : Int) < (x : Int) := by omega
  have HV : Hid (X = vN rs s d t x) := Lib.hid (by rw [← HX.out, svV_yes (by rw [vrB, hs.out]; simp [inB]; omega)])
  clear hn HX
  go_wp2_with fail
  go_loop [10] (fun i => ∃ k : Nat, k ≤ x ∧ i = .int .i64 ((k : Int) - 1) ∧ Hid (X = vN rs s d t k)) (fun i => (intOf i + 1).toNat)
  case atStart => exact ⟨x, Nat.le_refl _, rfl, HV⟩
  case round =>
    obtain ⟨k, hk, rfl, HR⟩ := hrel
    match k, hk, HR with
    | 0, _, HR =>
      have h9 : X = -9999 := HR.out
      subst h9
      clear HV HR
      go_wp2
      go_ret
      exact ⟨rfl, K4⟩
    | j + 1, hk, HR =>
      have e : ((j + 1 : Nat) : Int) - 1 = (j : Int) := by omega
      rw [e]
      have hj0 : (0 : Int) ≤ (j : Int) := by omega
      have hj : j < rs.length := by omega
      obtain ⟨b, off, hbo, hb, ⟨c0, c1, c2, c3⟩⟩ := L4.out.at_ hj
      injection hbo with hbo
      injection hbo with hg0 hq0 _
      subst hg0
      subst hq0
      rw [Nat.zero_add] at c0 c1 c2 c3
      have HM : Hid (vN rs s d t (j + 1) = if decide (rS (rs.getD j r0) = s) && decide (rD (rs.getD j r0) = d) && decide (rK (rs.getD j r0) = t) then rV (rs.getD j r0) else vN rs s d t j) := Lib.hid rfl
      generalize rS (rs.getD j r0) = x0 at c0 HM
      generalize rD (rs.getD j r0) = x1 at c1 HM
      generalize rK (rs.getD j r0) = x2 at c2 HM
      generalize rV (rs.getD j r0) = x3 at c3 HM
      clear e HV
      have hcase : ((x0 == s) = false ∧ ¬ (x0 = s ∧ x1 = d ∧ x2 = t)) ∨ ((x0 == s) = true ∧ (x1 == d) = false ∧ ¬ (x0 = s ∧ x1 = d ∧ x2 = t)) ∨ ((x0 == s) = true ∧ (x1 == d) = true ∧ (x2 == t) = false ∧ ¬ (x0 = s ∧ x1 = d ∧ x2 = t)) ∨ ((x0 == s) = true ∧ (x1 == d) = true ∧ (x2 == t) = true ∧ (x0 = s ∧ x1 = d ∧ x2 = t)) := by
        by_cases h0 : x0 = s <;> by_cases h1 : x1 = d <;> by_cases h2 : x2 = t <;> simp [h0, h1, h2]
      rcases hcase with ⟨e0, hn⟩ | ⟨e0, e1, hn⟩ | ⟨e0, e1, e2, hn⟩ | ⟨e0, e1, e2, hy⟩
      case' inr.inr.inr =>
        have h9 : X = x3 := by rw [HR.out, HM.out, if_pos (by simp; exact ⟨⟨hy.1, hy.2.1⟩, hy.2.2⟩)]
        subst h9
        clear hy HM HR
        go_wp2
        go_ret
        exact ⟨rfl, K4⟩
      case' inl => have HF : Hid (X = vN rs s d t j) := Lib.hid (by rw [HR.out, HM.out, if_neg (by simpa using hn)])
      case' inr.inl => have HF : Hid (X = vN rs s d t j) := Lib.hid (by rw [HR.out, HM.out, if_neg (by simpa using hn)])
      case' inr.inr.inl => have HF : Hid (X = vN rs s d t j) := Lib.hid (by rw [HR.out, HM.out, if_neg (by simpa using hn)])
      all_goals
        clear hn HM HR
        go_wp2
        go_round
        case rel => exact ⟨j, by omega, by go_num, HF⟩
        case measure => simp [intOf]; try omega
end Go.Proofs.Ytkapnbfjpglblab
