/- P93: the quantile of a half is the median, that of all is the greatest value. -/
import Derived.Test.YtmndlghadgccbaeDrQu
import Derived.Test.YtmndlghadgccbaeQu
import Derived.Test.YtmndlghadgccbaeMd
import Derived.Test.YtmndlghadgccbaeFr
namespace Go.Proofs.Ytmndlghadgccbae
open Go.RowKit
set_option linter.unusedVariables false

theorem qu_med {zs : List Int} {num den : Int} (h : quB zs num den = true) : quB zs 1 2 = true ∧ quB zs 1 1 = true ∧ moB zs = true ∧ quV zs 1 2 = moV zs ∧ 0 < (soL zs).length ∧ quV zs 1 1 = (soL zs).getD ((soL zs).length - 1) 0 ∧ quV zs num den ≤ quV zs 1 1 ∧ (soL zs).getD 0 0 ≤ quV zs num den := by
  obtain ⟨hq, hk0, hd, hn⟩ := quB_facts h
  have hs12 : (knl zs).length ≤ 12 := Nat.le_trans (knl_le zs) (sq_facts hq).2.2
  have b2 : quB zs 1 2 = true := by rw [quB, hq, decide_eq_true hk0]; rfl
  have b1 : quB zs 1 1 = true := by rw [quB, hq, decide_eq_true hk0]; rfl
  have hB : moB zs = true := by rw [moB, hq]; simp only [Bool.true_and]; exact decide_eq_true (by omega)
  obtain ⟨k1, k2, _⟩ := quK_bd hk0 hs12 hd hn
  have e1 : quK (knl zs).length 1 1 = ((knl zs).length : Int) := by rw [quK]; omega
  have e2 : (quK (knl zs).length 1 2 - 1).toNat = ((knl zs).length - 1) / 2 := by rw [quK]; omega
  have v1 : quV zs 1 1 = (sorted (knl zs)).getD ((sorted (knl zs)).length - 1) 0 := by
    rw [quV_yes b1, e1, sorted_length]
    congr 1; omega
  have hp : (quK (knl zs).length num den - 1).toNat < (sorted (knl zs)).length := by rw [sorted_length]; omega
  refine ⟨b2, b1, hB, ?_, ?_, ?_, ?_, ?_⟩
  · rw [quV_yes b2, moV_yes hB, mdL, e2]
  · rw [soL_yes hq, sorted_length]; exact hk0
  · rw [v1, soL_yes hq]
  · rw [v1, quV_yes h]
    exact sorted_at (by omega) (by omega)
  · rw [quV_yes h, soL_yes hq]
    exact sorted_at (by omega) hp
set_option maxRecDepth 100000 in
set_option maxHeartbeats 6400000 in
theorem walk_FnQuantileMedian (a0 : Option Addr) (len0 cap0 : Nat) (z0 : List Int) (w : World) (w0 : IsRow .u8 w a0 len0 cap0 z0) :
    Calls Try.prog 6 #[.slice a0 len0 cap0] w fun e w' => e = .returned (.bool true) ∧ Below w.heap.size w w' := by
  have ha := code_of_row w0
  obtain ⟨hl0, hm0⟩ := ha.1
  unfold maxLen at hm0
  clear w0
  by_cases h : len0 ≤ 1048576
  case' neg =>
    have hd : decide (1048576 < (len0 : Int)) = true := by simp; omega
    go_enter Try.func6, Try.ntmps6
    go_wp2
    go_ret
    exact ⟨rfl, Below.refl _ _⟩
  have hd : decide (1048576 < (len0 : Int)) = false := by simp; omega
  go_enter Try.func6, Try.ntmps6
  go_wp2_with fail
  refine (drawQuantileOf a0 len0 cap0 _ ha).mono ?_
  rintro e w1 ⟨a, c, zs, num, den, rfl, ⟨hl13, hcap⟩, hB, hL1, ⟨n0, n1⟩, ⟨d0, d1⟩, k1⟩
  clear ha hB
  go_wp2_with fail
  refine (qu_impl a c zs num den _ hL1 (by omega)).mono ?_
  rintro e w2 ⟨rfl, k2⟩
  go_wp2_with fail
  refine (qu_spec a c zs num den _ (hL1.keep k2) (by omega)).mono ?_
  rintro e w3 ⟨rfl, k3⟩
  have K3 : Keep w w3 := (k1.trans k2).trans k3
  have hL := (hL1.keep k2).keep k3
  clear hL1 k1 k2 k3
  rcases Bool.eq_false_or_eq_true (quB zs num den) with hs | hs
  case' inr =>
    generalize quV zs num den = v at *
    rw [hs]
    clear hs
    go_wp2
    go_ret
    exact ⟨rfl, K3⟩
  obtain ⟨b2, b1, bm, e2, hs0, e1, ho1, ho2⟩ := qu_med hs
  have hs12 := soL_len zs
  have HQ2 := Lib.hid (fun W (k : Keep w3 W) => qu_impl a c zs 1 2 W (hL.keep k) (by omega))
  have HQ1 := Lib.hid (fun W (k : Keep w3 W) => qu_impl a c zs 1 1 W (hL.keep k) (by omega))
  have HMo := Lib.hid (fun W (k : Keep w3 W) => mo_impl a c zs W (hL.keep k) (by omega))
  have HSo := Lib.hid (fun W (k : Keep w3 W) => so_impl a c zs W (hL.keep k) (by omega))
  rw [b2, e2] at HQ2
  rw [b1, e1] at HQ1
  rw [bm] at HMo
  rw [e1] at ho1
  rw [hs]
  clear hs b2 b1 bm e2 e1
  generalize quV zs num den = out at *
  generalize moV zs = m at *
  generalize soL zs = S at *
  obtain ⟨q, hq⟩ : ∃ q, S.length = q + 1 := ⟨S.length - 1, by omega⟩
  have HQq := Lib.hid hq
  rw [hq, Nat.add_sub_cancel] at HQ1 ho1
  have qb : q ≤ 12 := by omega
  clear hq
  obtain ⟨y, hy⟩ : ∃ y, S.getD q 0 = y := ⟨_, rfl⟩
  obtain ⟨x, hx⟩ : ∃ x, S.getD 0 0 = x := ⟨_, rfl⟩
  have HY := Lib.hid hy
  have HX := Lib.hid hx
  rw [hy] at HQ1 ho1
  rw [hx] at ho2
  clear hy hx
  have f1 : decide (out ≤ y) = true := decide_eq_true ho1
  have f2 : decide (x ≤ out) = true := decide_eq_true ho2
  go_wp2_with fail
  refine (HQ2.out _ (Keep.refl _)).mono ?_
  rintro e w4 ⟨rfl, k4⟩
  go_wp2_with fail
  refine (HQ1.out _ k4).mono ?_
  rintro e w5 ⟨rfl, k5⟩
  have K5 := k4.trans k5
  go_wp2_with fail
  refine (HMo.out _ K5).mono ?_
  rintro e w6 ⟨rfl, k6⟩
  have K6 := K5.trans k6
  go_wp2_with fail
  refine (HSo.out _ K6).mono ?_
  rintro e w7 ⟨xa, xc, rfl, hxc, hFr, k7⟩
  have K7 := K6.trans k7
  obtain ⟨g, off, rfl, hb, hall⟩ := hFr.ls.all (by have := HQq.out; omega)
  have cy := hall q (by have := HQq.out; omega)
  have cx := hall 0 (by have := HQq.out; omega)
  rw [HY.out] at cy
  rw [HX.out, Nat.add_zero] at cx
  rw [HQq.out]
  have q0 : (0 : Int) ≤ (q : Int) := by omega
  have q1 : (q : Int) < (q : Int) + 1 := by omega
  have q2 : (0 : Int) < (q : Int) + 1 := by omega
  have f3 : decide (0 < (q : Int) + 1) = true := decide_eq_true q2
  have qw : IntKind.i64.wrap ((q : Int) + 1 - 1) = (q : Int) := by rw [Int.add_sub_cancel]; exact IntWalk.i64_in _ ⟨by omega, by omega⟩
  clear hall hFr hxc
  go_wp2
  go_ret
  exact ⟨rfl, K3.trans K7⟩
end Go.Proofs.Ytmndlghadgccbae
