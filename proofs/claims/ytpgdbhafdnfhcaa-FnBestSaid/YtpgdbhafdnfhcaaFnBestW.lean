/- P78: the best cuts have the least cost. -/
import Derived.Test.YtpgdbhafdnfhcaaDrCu
import Derived.Test.YtpgdbhafdnfhcaaBi
import Derived.Test.YtpgdbhafdnfhcaaBl
import Derived.Test.YtpgdbhafdnfhcaaFr
namespace Go.Proofs.Ytpgdbhafdnfhcaa
open Go.RowKit
set_option linter.unusedVariables false

set_option maxRecDepth 100000 in
set_option maxHeartbeats 6400000 in
theorem walk_FnBest (a0 : Option Addr) (len0 cap0 : Nat) (z0 : List Int) (w : World) (w0 : IsRow .u8 w a0 len0 cap0 z0) :
    Calls Try.prog 6 #[.slice a0 len0 cap0] w fun e w' => e = .returned (.bool true) ∧ Below w.heap.size w w' := by
  have ha := code_of_row w0
  obtain ⟨hl0, hm0⟩ := ha.1
  unfold maxLen at hm0
  clear w0
  by_cases h : len0 ≤ 1048576
  case' neg =>
    have hd : decide (1048576 < (len0 : Int)) = true := by simp; omega
    go_enter Try.func6, Try.ntmps6
    go_wp2
    go_ret
    exact ⟨rfl, Below.refl _ _⟩
  have hd : decide (1048576 < (len0 : Int)) = false := by simp; omega
  go_enter Try.func6, Try.ntmps6
  go_wp2_with fail
  refine (drawCutsCost a0 len0 cap0 _ ha).mono ?_
  rintro e w1 ⟨a, b0, ca, cb, zs, cs, price, rfl, ⟨hl11, hca⟩, ⟨hl13, hcb⟩, hL1, hC1, ⟨hx0, hx1⟩, k1⟩
  clear ha
  go_wp2_with fail
  refine (cc_impl a b0 ca cb zs cs price _ hL1 hC1 hca (by omega) (by omega)).mono ?_
  rintro e w2 ⟨rfl, k2⟩
  go_wp2_with fail
  refine (cc_spec a b0 ca cb zs cs price _ (hL1.keep k2) (hC1.keep k2) hca (by omega) (by omega)).mono ?_
  rintro e w3 ⟨rfl, k3⟩
  have K3 : Keep w w3 := (k1.trans k2).trans k3
  have hL := (hL1.keep k2).keep k3
  clear hL1 hC1 k1 k2 k3
  rcases Bool.eq_false_or_eq_true (ccB zs cs price) with hs | hs
  case' inr =>
    rw [ccV_no hs]
    clear hs
    go_wp2
    go_ret
    exact ⟨rfl, K3⟩
  obtain ⟨ho, hvc⟩ := ccB_parts hs
  obtain ⟨b1, b2, ⟨b3, b4⟩, b5, b6⟩ := cb_cost ho
  have hle := cb_least hs
  have hn0 : 0 ≤ ccV zs cs price ∧ ccV zs cs price ≤ 2000000 := by
    obtain ⟨l1, l8, hlc, pr0, pr1⟩ := cc_len hs
    obtain ⟨p, v, _, _, e4, _, v0, v1⟩ := cc_last hs
    have h1 := ccN_bd hs _ (Nat.le_refl _)
    have h2 : price * (cs.length : Int) ≤ 9999 * (cs.length : Int) := Int.mul_le_mul_of_nonneg_right pr1 (by omega)
    have h3 := Int.mul_nonneg pr0 (show 0 ≤ (cs.length : Int) by omega)
    rw [e4]; omega
  obtain ⟨hn0, hn1⟩ := hn0
  rw [← b2] at b3 b4
  have HI := Lib.hid (fun W (k : Keep w3 W) => cb_impl a ca zs price W (hL.keep k) (by omega) hca)
  rw [ho] at HI
  have HCC := Lib.hid (fun W (k : Keep w3 W) (x : Option Addr) (c : Nat) (hx : Ls W x (cbL zs price)) => cc_impl a x ca c zs (cbL zs price) price W (hL.keep k) hx hca (by omega) (by omega))
  have hdv : decide (ccV zs cs price < 0) = false := decide_eq_false (by omega)
  clear hs ho hvc b1 b2 b6 hL
  generalize cbL zs price = X at *
  generalize ccV zs X price = n at *
  generalize ccV zs cs price = out at *
  go_wp2_with fail
  refine (HI.out _ (Keep.refl _)).mono ?_
  rintro e w4 ⟨x, c, rfl, hxc, hF, k4⟩
  go_wp2_with fail
  refine (HCC.out _ k4 x c hF.ls).mono ?_
  rintro e w5 ⟨rfl, k5⟩
  have KF := (K3.trans k4).trans k5
  have d0 : decide (0 ≤ n) = true := decide_eq_true b3
  rcases hle with h9 | ⟨h9, h8⟩
  · have d1 : decide (n < out) = true := decide_eq_true h9
    go_wp2
    all_goals go_ret
    all_goals exact ⟨rfl, KF⟩
  · subst h9
    have d1 : decide (X.length ≤ cs.length) = true := decide_eq_true h8
    go_wp2
    all_goals go_ret
    all_goals exact ⟨by first | rfl | exact retB (by simp; omega) | exact retB (by simp), KF⟩
end Go.Proofs.Ytpgdbhafdnfhcaa
