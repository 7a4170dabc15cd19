/- P106: a day without a value has no rank. -/
import Derived.Test.YtdccpdclpidnbaaDrNo
import Derived.Test.YtdccpdclpidnbaaMw
import Derived.Test.YtdccpdclpidnbaaFr
import Derived.LoopTactic
import Derived.IntWalk
namespace Go.Proofs.Ytdccpdclpidnbaa
open Go.RowKit
set_option linter.unusedVariables false

set_option maxRecDepth 100000 in
set_option maxHeartbeats 6400000 in
theorem walk_FnRankNone (a0 : Option Addr) (len0 cap0 : Nat) (z0 : List Int) (w : World) (w0 : IsRow .u8 w a0 len0 cap0 z0) :
    Calls Try.prog 10 #[.slice a0 len0 cap0] w fun e w' => e = .returned (.bool true) ∧ Below w.heap.size w w' := by
  have ha := code_of_row w0
  obtain ⟨hl0, hm0⟩ := ha.1
  unfold maxLen at hm0
  clear w0
  by_cases h : len0 ≤ 1048576
  case' neg =>
    have hd : decide (1048576 < (len0 : Int)) = true := by simp; omega
    go_enter Try.func10, Try.ntmps10
    go_wp2
    go_ret
    exact ⟨rfl, Below.refl _ _⟩
  have hd : decide (1048576 < (len0 : Int)) = false := by simp; omega
  go_enter Try.func10, Try.ntmps10
  go_wp2_with fail
  refine (drawRankOf a0 len0 cap0 _ ha).mono ?_
  rintro e w1 ⟨a, c, zs, dy, rfl, hl13, hcap, hB, hL1, ⟨g0, g1⟩, k1⟩
  have HB := Lib.hid hB
  clear ha hB
  go_wp2_with fail
  refine (rk_impl a c zs dy _ hL1 (by omega)).mono ?_
  rintro e w2 ⟨rfl, k2⟩
  go_wp2_with fail
  refine (rk_spec a c zs dy _ (hL1.keep k2) (by omega)).mono ?_
  rintro e w3 ⟨rfl, k3⟩
  have K3 : Keep w w3 := (k1.trans k2).trans k3
  have hL := (hL1.keep k2).keep k3
  clear hL1 k1 k2 k3
  have HQ := Lib.hid (sqv_impl a c zs w3 hL (by omega))
  rcases Bool.eq_false_or_eq_true (sqB zs) with hq | hq
  case' inr =>
    rw [rkV_no (show rkB zs dy = false by rw [rkB, hq]; rfl)]
    rw [hq] at HQ
    clear hq
    go_wp2_with fail
    refine HQ.out.mono ?_
    rintro e w5 ⟨rfl, rfl⟩
    go_wp2
    go_ret
    exact ⟨rfl, K3⟩
  rw [hq] at HQ
  by_cases hd0 : dy < 0
  · rw [rkV_no (show rkB zs dy = false by rw [rkB, inB_no (.inl hd0), Bool.false_and, Bool.and_false])]
    have d : decide (dy < 0) = true := decide_eq_true hd0
    clear hq
    go_wp2_with fail
    refine HQ.out.mono ?_
    rintro e w5 ⟨rfl, rfl⟩
    go_wp2
    go_ret
    exact ⟨rfl, K3⟩
  have d : decide (dy < 0) = false := decide_eq_false hd0
  by_cases hd1 : (zs.length : Int) ≤ dy
  · rw [rkV_no (show rkB zs dy = false by rw [rkB, inB_no (by omega), Bool.false_and, Bool.and_false])]
    have d2 : decide ((zs.length : Int) ≤ dy) = true := decide_eq_true hd1
    clear hq
    go_wp2_with fail
    refine HQ.out.mono ?_
    rintro e w5 ⟨rfl, rfl⟩
    go_wp2
    go_ret
    exact ⟨rfl, K3⟩
  have d2 : decide ((zs.length : Int) ≤ dy) = false := decide_eq_false hd1
  obtain ⟨n, rfl⟩ := Int.eq_ofNat_of_zero_le (show 0 ≤ dy by omega)
  have hn : n < zs.length := by omega
  have en : ((n : Nat) : Int).toNat = n := by omega
  obtain ⟨bz, oz, rfl, hbz, cz⟩ := hL.at_ hn
  have n0 : (0 : Int) ≤ (n : Int) := by omega
  have n9 : decide (zs.length ≤ n) = false := decide_eq_false (by omega)
  have nz : (n : Int) < (zs.length : Int) := by omega
  by_cases hx : zs.getD n 0 = -9999
  · rw [rkV_no (show rkB zs (n : Int) = false by rw [rkB, en, hx]; simp)]
    rw [hx] at cz
    clear hq hx
    go_wp2_with fail
    refine HQ.out.mono ?_
    rintro e w5 ⟨rfl, rfl⟩
    go_wp2
    go_ret
    exact ⟨rfl, K3⟩
  · rw [rkV_yes (rkB_mk hq (by omega) (by rw [en]; exact hx)), en]
    have hxe : (zs.getD n 0 == -9999) = false := beq_eq_false_iff_ne.2 hx
    have hx2 : (zs.getD n 0 != -9999) = true := bne_iff_ne.2 hx
    clear hq hx
    generalize cLt (knl zs) (zs.getD n 0) = r at *
    generalize zs.getD n 0 = x at *
    have hr : ((r : Int) == -1) = false := beq_eq_false_iff_ne.2 (by omega)
    go_wp2_with fail
    refine HQ.out.mono ?_
    rintro e w5 ⟨rfl, rfl⟩
    go_wp2
    go_ret
    exact ⟨rfl, K3⟩
end Go.Proofs.Ytdccpdclpidnbaa
