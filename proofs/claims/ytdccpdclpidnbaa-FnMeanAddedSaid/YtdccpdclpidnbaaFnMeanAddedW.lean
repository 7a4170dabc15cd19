/- P101: a mean moves with its values; the order of days has no influence. -/
import Derived.Test.YtdccpdclpidnbaaDrNo
import Derived.Test.YtdccpdclpidnbaaMw
import Derived.Test.YtdccpdclpidnbaaAd
import Derived.Test.YtdccpdclpidnbaaFr
import Derived.LoopTactic
import Derived.IntWalk
namespace Go.Proofs.Ytdccpdclpidnbaa
open Go.RowKit
set_option linter.unusedVariables false

set_option maxRecDepth 100000 in
set_option maxHeartbeats 6400000 in
theorem walk_FnMeanAdded (a0 : Option Addr) (len0 cap0 : Nat) (z0 : List Int) (w : World) (w0 : IsRow .u8 w a0 len0 cap0 z0) :
    Calls Try.prog 5 #[.slice a0 len0 cap0] w fun e w' => e = .returned (.bool true) ∧ Below w.heap.size w w' := by
  have ha := code_of_row w0
  obtain ⟨hl0, hm0⟩ := ha.1
  unfold maxLen at hm0
  clear w0
  by_cases h : len0 ≤ 1048576
  case' neg =>
    have hd : decide (1048576 < (len0 : Int)) = true := by simp; omega
    go_enter Try.func5, Try.ntmps5
    go_wp2
    go_ret
    exact ⟨rfl, Below.refl _ _⟩
  have hd : decide (1048576 < (len0 : Int)) = false := by simp; omega
  go_enter Try.func5, Try.ntmps5
  go_wp2_with fail
  refine (drawMeanOf a0 len0 cap0 _ ha).mono ?_
  rintro e w1 ⟨a, c, zs, gp, rfl, hl13, hcap, hB, hL1, ⟨g0, g1⟩, k1⟩
  have HB := Lib.hid hB
  clear ha hB
  go_wp2_with fail
  refine (me_impl a c zs gp _ hL1 (by omega)).mono ?_
  rintro e w2 ⟨rfl, k2⟩
  go_wp2_with fail
  refine (me_spec a c zs gp _ (hL1.keep k2) (by omega)).mono ?_
  rintro e w3 ⟨rfl, k3⟩
  have K3 : Keep w w3 := (k1.trans k2).trans k3
  have hL := (hL1.keep k2).keep k3
  clear hL1 k1 k2 k3
  rcases Bool.eq_false_or_eq_true (meB zs gp) with hs | hs
  case' inr =>
    generalize meV zs gp = v at *
    rw [hs]
    clear hs
    go_wp2
    go_ret
    exact ⟨rfl, K3⟩
  have HBk := Lib.hid (me_back zs gp)
  have HAd := Lib.hid (fun h2 : meB (zs.map (addD 2)) gp = true => me_added hs h2)
  have HBack := Lib.hid (back_any a c zs w3 hL (by omega))
  have HAdd := Lib.hid (fun W (k : Keep w3 W) => addedD_any 2 (by omega) (by omega) a c zs W (hL.keep k) HB.out (by omega))
  have HM := Lib.hid (fun W a' c' (h : Ls W a' zs.reverse) => me_impl a' c' zs.reverse gp W h (by rw [List.length_reverse]; omega))
  rw [HBk.out.1, HBk.out.2] at HM
  have HM2 := Lib.hid (fun W a' c' (h : Ls W a' (zs.map (addD 2))) => me_impl a' c' (zs.map (addD 2)) gp W h (by rw [List.length_map]; omega))
  have mo : -12000 ≤ meV zs gp ∧ meV zs gp ≤ 12000 := by
    have h1 := meB_facts hs
    rw [meV_yes hs]
    exact rq_between (by omega) (by
      have := isum_ge (m := -12000) (L := knl zs) fun x hx => by have := knl_bd h1.1 x hx; omega
      exact this) (by
      have := isum_le (m := 12000) (L := knl zs) fun x hx => by have := knl_bd h1.1 x hx; omega
      exact this)
  rw [hs] at HM ⊢
  clear hs HBk
  generalize meV zs gp = v at *
  generalize zs.reverse = Z at *
  generalize zs.map (addD 2) = Y at *
  go_wp2_with fail
  refine HBack.out.mono ?_
  rintro e w4 ⟨g4, c4, rfl, hc4, hW4, hg4, hl4, k4⟩
  go_wp2_with fail
  refine (HM.out _ _ c4 hW4.ls).mono ?_
  rintro e w5 ⟨rfl, k5⟩
  go_wp2_with fail
  refine (HAdd.out _ (k4.trans k5)).mono ?_
  rintro e w6 ⟨g6, c6, rfl, hc6, hW6, hg6, hl6, k6⟩
  go_wp2_with fail
  refine (HM2.out _ _ c6 hW6.ls).mono ?_
  rintro e w7 ⟨rfl, k7⟩
  have K7 := (((K3.trans k4).trans k5).trans k6).trans k7
  rcases Bool.eq_false_or_eq_true (meB Y gp) with hy | hy
  · have hv := HAd.out hy
    rw [hy, hv]
    go_wp2
    go_ret
    exact ⟨rfl, K7⟩
  · generalize meV Y gp = y at *
    rw [hy]
    go_wp2
    go_ret
    exact ⟨rfl, K7⟩
end Go.Proofs.Ytdccpdclpidnbaa
