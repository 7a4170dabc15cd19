/- ChainCheck: the program answers as its model, and leaves its arguments alone. -/
import Derived.Test.YtaggciojccoidaaDoorCl
import Derived.Test.YtaggciojccoidaaDoorTah
import Derived.Test.YtaggciojccoidaaDoorTr
import Derived.Test.YtaggciojccoidaaDoorTj
import Derived.Test.YtaggciojccoidaaDoorFr
namespace Go.Proofs.YtaggciojccoidaaDoor
open Go.RowKit
set_option linter.unusedVariables false

set_option maxRecDepth 100000 in
set_option maxHeartbeats 1000000 in
theorem walk_FnExactChainCheck (a0 : Option Addr) (len0 cap0 : Nat) (z0 : Nat → Nat → Int) (a1 : Option Addr) (len1 cap1 : Nat) (z1 : List Int) (w : World) (w0 : IsRows 4 w a0 len0 cap0 z0) (w1 : IsRow .i64 w a1 len1 cap1 z1) (T : TabsH w) :
    Calls Tryd.prog 8 #[.slice a0 len0 cap0, .slice a1 len1 cap1] w fun e w' => e = .returned (.bool true) ∧ Below w.heap.size w w' := by
  have HT := Lib.hid T
  clear T
  obtain ⟨y0, hl0, hL0, ⟨hm0, hM0⟩⟩ := rs_of_rows w0
  subst hl0
  clear w0
  obtain ⟨y1, hl1, hL1, ⟨hm1, hM1⟩, hW1⟩ := ls_of_row w1
  subst hl1
  clear w1 hW1
  unfold maxLen at hM0 hM1
  by_cases h1 : y1.length ≤ 1048576
  case' neg =>
    have hd1 : decide (1048576 < (y1.length : Int)) = true := by simp; omega
    go_enter Tryd.func8, Tryd.ntmps8
    go_wp2
    go_ret
    exact ⟨rfl, Below.refl _ _⟩
  have hd1 : decide (1048576 < (y1.length : Int)) = false := by simp; omega
  by_cases h0 : y0.length ≤ 1048576
  case' neg =>
    go_enter Tryd.func8, Tryd.ntmps8
    go_wp2_with (go_at_call 19; refine (sz_big _ _ _ _ (by omega) (by omega)).mono ?_; rintro e w' ⟨rfl, rfl⟩)
    go_ret
    exact ⟨rfl, Below.refl _ _⟩
  have hd0 : decide (1048576 - (y0.length : Int) < 0) = false := by simp; omega
  go_enter Tryd.func8, Tryd.ntmps8
  go_wp2_with fail
  refine (sz_any _ _ _ _ h0).mono ?_
  rintro e w' ⟨rfl, rfl⟩
  go_wp2_with fail
  refine (toR_any _ _ y0 _ hL0 h0).mono ?_
  rintro e w1 ⟨g1, hg1, rfl, hW1, k1, hl_k1⟩
  go_wp2_with fail
  refine (toI_lt _ _ y1 _ (hL1.keep k1) h1).mono ?_
  rintro e w1b ⟨g1b, hg1b, hl1b, rfl, hW1b, k1b⟩
  have c1 : Keep w w1b := Keep.trans k1 k1b
  go_wp2_with fail
  refine (ck_spec _ _ y0 _ _ y1 _ (hW1.keep k1b).rs (by omega) hW1b.ls (by omega)).mono ?_
  rintro e w2 ⟨rfl, k2⟩
  have c2 : Keep w w2 := Keep.trans c1 k2
  go_wp2_with fail
  refine (toR_any _ _ y0 _ (hL0.keep c2) h0).mono ?_
  rintro e w3 ⟨g3, hg3, rfl, hW3, k3, hl_k3⟩
  have c3 : Keep w w3 := Keep.trans c2 k3
  go_wp2_with fail
  refine (toI_lt _ _ y1 _ (hL1.keep c3) h1).mono ?_
  rintro e w3b ⟨g3b, hg3b, hl3b, rfl, hW3b, k3b⟩
  have c3b : Keep w w3b := Keep.trans c3 k3b
  go_wp2_with fail
  refine (ck_impl _ _ y0 _ _ y1 _ (hW3.keep k3b).rs (by omega) hW3b.ls (by omega) (HT.out.keep c3b)).mono ?_
  rintro e w4 ⟨rfl, k4⟩
  have c4 : Keep w w4 := Keep.trans c3b k4
  go_wp2_with fail
  refine (toR_any _ _ y0 _ (hL0.keep c4) h0).mono ?_
  rintro e w5 ⟨g5, hg5, rfl, hW5, k5, hl_k5⟩
  have c5 : Keep w w5 := Keep.trans c4 k5
  go_wp2_with fail
  refine (eqR_same _ _ _ _ y0 _ (((hW3.keep k3b).keep k4).keep k5).rs hW5.rs h0).mono ?_
  rintro e w6 ⟨rfl, k6⟩
  have c6 : Keep w w6 := Keep.trans c5 k6
  go_wp2_with fail
  refine (toI_lt _ _ y1 _ (hL1.keep c6) h1).mono ?_
  rintro e w7 ⟨g7, hg7, hl7, rfl, hW7, k7⟩
  have c7 : Keep w w7 := Keep.trans c6 k7
  go_wp2_with fail
  refine (eqI_same _ _ _ _ y1 _ ((((hW3b.keep k4).keep k5).keep k6).keep k7).ls hW7.ls h1).mono ?_
  rintro e w8 ⟨rfl, n8, rfl⟩
  go_wp2
  go_ret
  exact ⟨rfl, c7.drewN n8⟩
end Go.Proofs.YtaggciojccoidaaDoor
