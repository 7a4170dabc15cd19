/- BulletinText: the program answers as its model, and leaves its argument alone. -/
import Derived.Test.YtcfffgbnkjclfaaDoorBx
import Derived.Test.YtcfffgbnkjclfaaDoorTi
import Derived.Test.YtcfffgbnkjclfaaDoorFr
namespace Go.Proofs.YtcfffgbnkjclfaaDoor
open Go.RowKit
set_option linter.unusedVariables false

set_option maxRecDepth 100000 in
set_option maxHeartbeats 1000000 in
theorem walk_FnExactBulletinText (a0 : Int) (a1 : Int) (a2 : Int) (a3 : Option Addr) (len3 cap3 : Nat) (z3 : List Int) (w : World) (w0 : (Lit.int .i64 a0).wf = true) (w1 : (Lit.int .i64 a1).wf = true) (w2 : (Lit.int .i64 a2).wf = true) (w3 : IsRow .i64 w a3 len3 cap3 z3) (T : Tabs w) :
    Calls Tryd.prog 8 #[.int .i64 a0, .int .i64 a1, .int .i64 a2, .slice a3 len3 cap3] w fun e w' => e = .returned (.bool true) ∧ Below w.heap.size w w' := by
  obtain ⟨y0, hl0, hL0, ⟨hm0, hM0⟩, _⟩ := ls_of_row w3
  subst hl0
  clear w0 w1 w2 w3
  have HT := Lib.hid T
  clear T
  unfold maxLen at hM0
  by_cases h0 : y0.length ≤ 1048576
  case' neg =>
    have hd0 : decide (1048576 < (y0.length : Int)) = true := by simp; omega
    go_enter Tryd.func8, Tryd.ntmps8
    go_wp2
    go_ret
    exact ⟨rfl, Below.refl _ _⟩
  have hd0 : decide (1048576 < (y0.length : Int)) = false := by simp; omega
  go_enter Tryd.func8, Tryd.ntmps8
  go_wp2_with fail
  refine (toI_any _ _ y0 _ hL0 h0).mono ?_
  rintro e w1 ⟨g1, hg1, rfl, hW1, k1⟩
  have c1 : Keep w w1 := Keep.trans (Keep.refl w) k1
  go_wp2_with fail
  refine (bt_spec' _ _ a0 a1 a2 y0 _ hW1.ls (by omega)).mono ?_
  rintro e w2 ⟨rfl, k2⟩
  have c2 : Keep w w2 := Keep.trans c1 k2
  go_wp2_with fail
  refine (toI_any _ _ y0 _ (hL0.keep c2) h0).mono ?_
  rintro e w3 ⟨g3, hg3, rfl, hW3, k3⟩
  have c3 : Keep w w3 := Keep.trans c2 k3
  go_wp2_with fail
  refine (bt_impl' _ _ a0 a1 a2 y0 _ (HT.out.keep c3) hW3.ls (by omega)).mono ?_
  rintro e w4 ⟨rfl, k4⟩
  have c4 : Keep w w4 := Keep.trans c3 k4
  generalize btT a0 a1 a2 y0 = u
  go_wp2_with fail
  refine (toI_any _ _ y0 _ (hL0.keep c4) h0).mono ?_
  rintro e w5 ⟨g5, hg5, rfl, hW5, k5⟩
  have c5 : Keep w w5 := Keep.trans c4 k5
  have hx := (hW3.keep k4).keep k5
  go_wp2_with fail
  refine (eqI_same _ _ _ _ y0 _ hx.ls hW5.ls h0).mono ?_
  rintro e w6 ⟨rfl, n6, rfl⟩
  have c6 := c5.drewN n6
  go_wp2
  go_ret
  exact ⟨rfl, c6⟩
end Go.Proofs.YtcfffgbnkjclfaaDoor
