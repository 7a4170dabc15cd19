/- P136: pairs have a direction. -/
import Derived.Test.YtlaajompcbmdoacDrNo
import Derived.Test.YtlaajompcbmdoacPy
import Derived.Test.YtlaajompcbmdoacSo
import Derived.Test.YtlaajompcbmdoacLw
import Derived.Test.YtlaajompcbmdoacFr
import Derived.LoopTactic
import Derived.IntWalk
namespace Go.Proofs.Ytlaajompcbmdoac
open Go.RowKit
set_option linter.unusedVariables false

set_option maxRecDepth 100000 in
set_option maxHeartbeats 6400000 in
theorem walk_FnPairsBack (a0 : Option Addr) (len0 cap0 : Nat) (z0 : List Int) (w : World) (w0 : IsRow .u8 w a0 len0 cap0 z0) :
    Calls Try.prog 5 #[.slice a0 len0 cap0] w fun e w' => e = .returned (.bool true) ∧ Below w.heap.size w w' := by
  have ha := code_of_row w0
  obtain ⟨hl0, hm0⟩ := ha.1
  unfold maxLen at hm0
  clear w0
  by_cases h : len0 ≤ 1048576
  case' neg =>
    have hd : decide (1048576 < (len0 : Int)) = true := by simp; omega
    go_enter Try.func5, Try.ntmps5
    go_wp2
    go_ret
    exact ⟨rfl, Below.refl _ _⟩
  have hd : decide (1048576 < (len0 : Int)) = false := by simp; omega
  go_enter Try.func5, Try.ntmps5
  go_wp2_with fail
  refine (drawPairsOf a0 len0 cap0 _ ha).mono ?_
  rintro e w1 ⟨a, c, zs, rfl, hl13, hcap, hB, hL1, k1⟩
  have HBt := Lib.hid hB
  clear ha hB
  go_wp2_with fail
  refine (pp_impl a c zs _ hL1 (by omega)).mono ?_
  rintro e w2 ⟨rfl, k2⟩
  go_wp2_with fail
  refine (pp_spec a c zs _ (hL1.keep k2) (by omega)).mono ?_
  rintro e w3 ⟨rfl, k3⟩
  have K3 : Keep w w3 := (k1.trans k2).trans k3
  have hL := (hL1.keep k2).keep k3
  clear hL1 k1 k2 k3
  rcases Bool.eq_false_or_eq_true (sqB zs) with hs | hs
  case' inr =>
    rw [(pr_no hs).1, (pr_no hs).2]
    clear hs
    go_wp2
    go_ret
    exact ⟨rfl, K3⟩
  have HBk := Lib.hid (pr_back (zs := zs))
  have HSo := Lib.hid (fun h0 => so_pairs hs h0)
  have HRev := Lib.hid (back_any a c zs w3 hL (by omega))
  have HP1 := Lib.hid (fun W g' c' (h : Ls W g' zs.reverse) => pp_impl g' c' zs.reverse W h (by rw [List.length_reverse]; omega))
  rw [HBk.out.1, HBk.out.2] at HP1
  have HSr := Lib.hid (fun W (k : Keep w3 W) => so_impl a c zs W (hL.keep k) (by omega))
  have hsl : (soL zs).length ≤ 13 := by
    rw [soL_yes hs, sorted_length]; have := knl_le zs; omega
  have HP2 := Lib.hid (fun W g' c' (h : Ls W g' (soL zs)) => pp_impl g' c' (soL zs) W h (by omega))
  have hnn := (pr_yes hs)
  have hd0 : (prU zs < 0) = False := eq_false (by rw [hnn.1]; omega)
  clear hnn hs HBk
  generalize prU zs = u at *
  generalize prD zs = d at *
  generalize zs.reverse = Z at *
  go_wp2_with fail
  refine HRev.out.mono ?_
  rintro e w4 ⟨g4, c4, rfl, hc4, hW4, hg4, hl4, k4⟩
  go_wp2_with fail
  refine (HP1.out _ _ c4 hW4.ls).mono ?_
  rintro e w5 ⟨rfl, k5⟩
  go_wp2_with fail
  refine (HSr.out _ (k4.trans k5)).mono ?_
  rintro e w6 ⟨g6, c6, rfl, hc6, hF6, k6⟩
  go_wp2_with fail
  refine (HP2.out _ g6 c6 hF6.ls).mono ?_
  rintro e w7 ⟨rfl, k7⟩
  have K7 := (((K3.trans k4).trans k5).trans k6).trans k7
  by_cases h0 : (soL zs).length = 0
  · have d0 : (((soL zs).length : Int) == 0) = true := beq_iff_eq.2 (by omega)
    generalize (soL zs).length = m at *
    generalize prU (soL zs) = y1 at *
    generalize prD (soL zs) = y2 at *
    clear HSo HP2 HRev HP1 HSr hF6
    go_wp2
    go_ret
    exact ⟨rfl, K7⟩
  · have d0 : (((soL zs).length : Int) == 0) = false := beq_eq_false_iff_ne.2 (by omega)
    have hz := (HSo.out (by omega)).2
    rw [hz]
    generalize (soL zs).length = m at *
    generalize prU (soL zs) = y1 at *
    clear HSo HP2 HRev HP1 HSr hF6
    go_wp2
    go_ret
    exact ⟨rfl, K7⟩
end Go.Proofs.Ytlaajompcbmdoac
