/- CutsCost: the program answers as its model, and leaves its arguments alone. -/
import Derived.Test.YtmndlghadgccbacKd
import Derived.Test.YtmndlghadgccbacTj
import Derived.Test.YtmndlghadgccbacFr
namespace Go.Proofs.Ytmndlghadgccbac
open Go.RowKit
set_option linter.unusedVariables false

set_option maxRecDepth 100000 in
set_option maxHeartbeats 1000000 in
theorem walk_FnExactCutsCost (a0 : Option Addr) (len0 cap0 : Nat) (z0 : List Int) (a1 : Option Addr) (len1 cap1 : Nat) (z1 : List Int) (a2 : Int) (w : World) (w0 : IsRow .i64 w a0 len0 cap0 z0) (w1 : IsRow .i64 w a1 len1 cap1 z1) (w2 : (Lit.int .i64 a2).wf = true) :
    Calls Try.prog 14 #[.slice a0 len0 cap0, .slice a1 len1 cap1, .int .i64 a2] w fun e w' => e = .returned (.bool true) ∧ Below w.heap.size w w' := by
  obtain ⟨y0, hl0, hL0, ⟨hm0, hM0⟩, hW0⟩ := ls_of_row w0
  subst hl0
  clear w0 hW0
  unfold maxLen at hM0
  obtain ⟨y1, hl1, hL1, ⟨hm1, hM1⟩, hW1⟩ := ls_of_row w1
  subst hl1
  clear w1 hW1
  unfold maxLen at hM1
  clear w2
  by_cases h0 : y0.length ≤ 1048576
  case' neg =>
    have hd0 : decide (1048576 < (y0.length : Int)) = true := by simp; omega
    go_enter Try.func14, Try.ntmps14
    go_wp2
    go_ret
    exact ⟨rfl, Below.refl _ _⟩
  have hd0 : decide (1048576 < (y0.length : Int)) = false := by simp; omega
  by_cases h1 : y1.length ≤ 1048576
  case' neg =>
    have hd1 : decide (1048576 < (y1.length : Int)) = true := by simp; omega
    go_enter Try.func14, Try.ntmps14
    go_wp2
    go_ret
    exact ⟨rfl, Below.refl _ _⟩
  have hd1 : decide (1048576 < (y1.length : Int)) = false := by simp; omega
  go_enter Try.func14, Try.ntmps14
  go_wp2_with fail
  refine (toI_lt _ _ y0 _ (hL0) h0).mono ?_
  rintro e w1 ⟨g1, hg1, hl1, rfl, hW1, k1⟩
  have c1 : Keep w w1 := Keep.trans (Keep.refl w) k1
  go_wp2_with fail
  refine (toI_lt _ _ y1 _ (hL1.keep c1) h1).mono ?_
  rintro e w2 ⟨g2, hg2, hl2, rfl, hW2, k2⟩
  have c2 : Keep w w2 := Keep.trans c1 k2
  go_wp2_with fail
  refine (cc_spec _ _ _ _ y0 y1 a2 _ (hW1.keep k2).ls hW2.ls (by first | exact Nat.le_refl _ | omega) h0 h1).mono ?_
  rintro e w3 ⟨rfl, k3⟩
  have c3 : Keep w w3 := Keep.trans c2 k3
  go_wp2_with fail
  refine (toI_lt _ _ y0 _ (hL0.keep c3) h0).mono ?_
  rintro e w4 ⟨g4, hg4, hl4, rfl, hW4, k4⟩
  have c4 : Keep w w4 := Keep.trans c3 k4
  go_wp2_with fail
  refine (toI_lt _ _ y1 _ (hL1.keep c4) h1).mono ?_
  rintro e w5 ⟨g5, hg5, hl5, rfl, hW5, k5⟩
  have c5 : Keep w w5 := Keep.trans c4 k5
  go_wp2_with fail
  refine (cc_impl _ _ _ _ y0 y1 a2 _ (hW4.keep k5).ls hW5.ls (by first | exact Nat.le_refl _ | omega) h0 h1).mono ?_
  rintro e w6 ⟨rfl, k6⟩
  have c6 : Keep w w6 := Keep.trans c5 k6
  go_wp2_with fail
  refine (toI_lt _ _ y0 _ (hL0.keep c6) h0).mono ?_
  rintro e w7 ⟨g7, hg7, hl7, rfl, hW7, k7⟩
  have c7 : Keep w w7 := Keep.trans c6 k7
  go_wp2_with fail
  refine (eqI_same _ _ _ _ y0 _ (((hW4.keep k5).keep k6).keep k7).ls hW7.ls h0).mono ?_
  rintro e w8 ⟨rfl, n8, rfl⟩
  have c8 := c7.drewN n8
  have k8 := (Keep.refl w7).drewN n8
  go_wp2_with fail
  refine (toI_lt _ _ y1 _ (hL1.keep c8) h1).mono ?_
  rintro e w9 ⟨g9, hg9, hl9, rfl, hW9, k9⟩
  have c9 : Keep w w9 := Keep.trans c8 k9
  go_wp2_with fail
  refine (eqI_same _ _ _ _ y1 _ ((((hW5.keep k6).keep k7).keep k8).keep k9).ls hW9.ls h1).mono ?_
  rintro e w10 ⟨rfl, n10, rfl⟩
  have c10 := c9.drewN n10
  have k10 := (Keep.refl w9).drewN n10
  go_wp2
  go_ret
  exact ⟨rfl, c10⟩
end Go.Proofs.Ytmndlghadgccbac
