/- P137: a trend is that of more pairs. -/
import Derived.Test.YtlaajompcbmdoacDrNo
import Derived.Test.YtlaajompcbmdoacPy
import Derived.Test.YtlaajompcbmdoacLw
import Derived.Test.YtlaajompcbmdoacFr
import Derived.LoopTactic
import Derived.IntWalk
namespace Go.Proofs.Ytlaajompcbmdoac
open Go.RowKit
set_option linter.unusedVariables false

set_option maxRecDepth 100000 in
set_option maxHeartbeats 6400000 in
theorem walk_FnTrend (a0 : Option Addr) (len0 cap0 : Nat) (z0 : List Int) (w : World) (w0 : IsRow .u8 w a0 len0 cap0 z0) :
    Calls Try.prog 6 #[.slice a0 len0 cap0] w fun e w' => e = .returned (.bool true) ∧ Below w.heap.size w w' := by
  have ha := code_of_row w0
  obtain ⟨hl0, hm0⟩ := ha.1
  unfold maxLen at hm0
  clear w0
  by_cases h : len0 ≤ 1048576
  case' neg =>
    have hd : decide (1048576 < (len0 : Int)) = true := by simp; omega
    go_enter Try.func6, Try.ntmps6
    go_wp2
    go_ret
    exact ⟨rfl, Below.refl _ _⟩
  have hd : decide (1048576 < (len0 : Int)) = false := by simp; omega
  go_enter Try.func6, Try.ntmps6
  go_wp2_with fail
  refine (drawTrendOf a0 len0 cap0 _ ha).mono ?_
  rintro e w1 ⟨a, c, zs, rfl, hl13, hcap, hB, hL1, k1⟩
  have HBt := Lib.hid hB
  clear ha hB
  go_wp2_with fail
  refine (tv_impl a c zs _ hL1 (by omega)).mono ?_
  rintro e w2 ⟨rfl, k2⟩
  go_wp2_with fail
  refine (tv_spec a c zs _ (hL1.keep k2) (by omega)).mono ?_
  rintro e w3 ⟨rfl, k3⟩
  have K3 : Keep w w3 := (k1.trans k2).trans k3
  have hL := (hL1.keep k2).keep k3
  clear hL1 k1 k2 k3
  rcases Bool.eq_false_or_eq_true (sqB zs) with hs | hs
  case' inr =>
    rw [tr_no hs]
    clear hs
    go_wp2
    go_ret
    exact ⟨rfl, K3⟩
  have HBk := Lib.hid (tr_back hs)
  have HY := Lib.hid (tr_yes hs)
  have HRev := Lib.hid (fun W (k : Keep w3 W) => back_any a c zs W (hL.keep k) (by omega))
  have HP := Lib.hid (pp_impl a c zs w3 hL (by omega))
  have HT := Lib.hid (fun W g' c' (h : Ls W g' zs.reverse) => tv_impl g' c' zs.reverse W h (by rw [List.length_reverse]; omega))
  rw [HBk.out] at HT
  have hcase : (prD zs < prU zs ∧ trV zs = 1) ∨ (¬ prD zs < prU zs ∧ prU zs < prD zs ∧ trV zs = -1) ∨ (¬ prD zs < prU zs ∧ ¬ prU zs < prD zs ∧ trV zs = 0) := by
    rw [HY.out]; split
    · left; exact ⟨by assumption, rfl⟩
    · split
      · right; left; exact ⟨by assumption, by assumption, rfl⟩
      · right; right; exact ⟨by assumption, by assumption, rfl⟩
  clear hs HY HBk
  generalize prU zs = u at *
  generalize prD zs = d at *
  generalize trV zs = x at *
  generalize zs.reverse = Z at *
  rcases hcase with ⟨h1, rfl⟩ | ⟨h1, h2, rfl⟩ | ⟨h1, h2, rfl⟩
  all_goals
    go_wp2_with fail
    refine HP.out.mono ?_
    rintro e w4 ⟨rfl, k4⟩
    go_wp2_with fail
    refine (HRev.out _ k4).mono ?_
    rintro e w5 ⟨g5, c5, rfl, hc5, hW5, hg5, hl5, k5⟩
    go_wp2_with fail
    refine (HT.out _ _ c5 hW5.ls).mono ?_
    rintro e w6 ⟨rfl, k6⟩
    go_wp2
    go_ret
    exact ⟨retB (by first | rfl | (simp; omega) | (simp; done)), ((K3.trans k4).trans k5).trans k6⟩
end Go.Proofs.Ytlaajompcbmdoac
