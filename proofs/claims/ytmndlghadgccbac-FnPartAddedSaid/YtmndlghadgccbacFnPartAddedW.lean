/- P73: only differences count for the cost of a part. -/
import Derived.Test.YtmndlghadgccbacDrCt
import Derived.Test.YtmndlghadgccbacKp
import Derived.Test.YtmndlghadgccbacPq
import Derived.Test.YtmndlghadgccbacLw
import Derived.Test.YtmndlghadgccbacFr
namespace Go.Proofs.Ytmndlghadgccbac
open Go.RowKit
set_option linter.unusedVariables false

set_option maxRecDepth 100000 in
set_option maxHeartbeats 6400000 in
theorem walk_FnPartAdded (a0 : Option Addr) (len0 cap0 : Nat) (z0 : List Int) (w : World) (w0 : IsRow .u8 w a0 len0 cap0 z0) :
    Calls Try.prog 4 #[.slice a0 len0 cap0] w fun e w' => e = .returned (.bool true) ∧ Below w.heap.size w w' := by
  have ha := code_of_row w0
  obtain ⟨hl0, hm0⟩ := ha.1
  unfold maxLen at hm0
  clear w0
  by_cases h : len0 ≤ 1048576
  case' neg =>
    have hd : decide (1048576 < (len0 : Int)) = true := by simp; omega
    go_enter Try.func4, Try.ntmps4
    go_wp2
    go_ret
    exact ⟨rfl, Below.refl _ _⟩
  have hd : decide (1048576 < (len0 : Int)) = false := by simp; omega
  go_enter Try.func4, Try.ntmps4
  go_wp2_with fail
  refine (drawPartCost a0 len0 cap0 _ ha).mono ?_
  rintro e w1 ⟨a, c, zs, rfl, hl11, hcap, hB, hL1, k1⟩
  have HB := Lib.hid hB
  clear ha hB
  go_wp2_with fail
  refine (pc_impl a c zs _ hL1 (by omega)).mono ?_
  rintro e w2 ⟨rfl, k2⟩
  go_wp2_with fail
  refine (pc_spec a c zs _ (hL1.keep k2) (by omega)).mono ?_
  rintro e w3 ⟨rfl, k3⟩
  have K3 : Keep w w3 := (k1.trans k2).trans k3
  have hL := (hL1.keep k2).keep k3
  clear hL1 k1 k2 k3
  have HR := Lib.hid (pcV_rev zs)
  rcases Bool.eq_false_or_eq_true (shB zs) with hs | hs
  case' inr =>
    rw [pcV_no hs]
    clear hs
    go_wp2
    go_ret
    exact ⟨rfl, K3⟩
  have HV := Lib.hid (fun h2 => pcV_add hs h2)
  have hv0 : 0 ≤ pcV zs := by rw [pcV_yes hs]; exact pcN_nn _ _ _
  have hdv : decide (pcV zs < 0) = false := decide_eq_false (by omega)
  clear hs
  generalize pcV zs = v at *
  go_wp2_with fail
  refine (added_any a c zs _ hL HB.out (by omega)).mono ?_
  rintro e w4 ⟨g4, c4, rfl, hc4, hW4, hg4, hl4, k4⟩
  have HP4 := Lib.hid (pc_impl (some ⟨g4, 0, none⟩) c4 (zs.map add1) w4 hW4.ls (by rw [List.length_map]; omega))
  rw [List.length_map] at HP4 ⊢
  have HX : Hid (pcV (zs.map add1) = v ∨ pcV (zs.map add1) = -1) := Lib.hid (by
    rcases Bool.eq_false_or_eq_true (shB (zs.map add1)) with h2 | h2
    · exact .inl (HV.out h2)
    · exact .inr (pcV_no h2))
  generalize pcV (zs.map add1) = x at *
  go_wp2_with fail
  refine HP4.out.mono ?_
  rintro e w5 ⟨rfl, k5⟩
  have K5 : Keep w w5 := (K3.trans k4).trans k5
  have hL5 := (hL.keep k4).keep k5
  clear HP4 HV
  go_wp2_with fail
  refine (back_any a c zs _ hL5 (by omega)).mono ?_
  rintro e w6 ⟨g6, c6, rfl, hc6, hW6, hg6, hl6, k6⟩
  have HB6 := Lib.hid (pc_impl (some ⟨g6, 0, none⟩) c6 zs.reverse w6 hW6.ls (by rw [List.length_reverse]; omega))
  rw [HR.out, List.length_reverse] at HB6
  rw [List.length_reverse]
  rcases HX.out with rfl | rfl
  all_goals
    go_wp2_with fail
    refine HB6.out.mono ?_
    rintro e w7 ⟨rfl, k7⟩
    go_wp2
    go_ret
    exact ⟨rfl, (K5.trans k6).trans k7⟩
end Go.Proofs.Ytmndlghadgccbac
