/- BulletinParse: the program answers as its model; its answer is new memory. -/
import Derived.Test.YtpdpcnblpcalaaaDoorBue
import Derived.Test.YtpdpcnblpcalaaaDoorTe
import Derived.Test.YtpdpcnblpcalaaaDoorMg
import Derived.Test.YtpdpcnblpcalaaaDoorFr
namespace Go.Proofs.YtpdpcnblpcalaaaDoor
open Go.RowKit
set_option linter.unusedVariables false

set_option maxRecDepth 100000 in
set_option maxHeartbeats 2000000 in
theorem walk_FnExactBulletinParse (a0 : ByteArray) (w : World) (w0 : a0.size ≤ maxLen) (T : TabsE w) :
    Calls Tryd.prog 5 #[.string a0] w fun e w' => e = .returned (.bool true) ∧ Below w.heap.size w w' := by
  unfold maxLen at w0
  by_cases h : a0.size ≤ 1048576
  case' neg =>
    have hd : decide (1048576 < (a0.size : Int)) = true := by simp; omega
    go_enter Tryd.func5, Tryd.ntmps5
    go_wp2
    go_ret
    exact ⟨rfl, Below.refl _ _⟩
  have hd : decide (1048576 < (a0.size : Int)) = false := by simp; omega
  obtain ⟨rs, b, hl, _, _, _, hone⟩ := bp_one a0
  have H1 := Lib.hid (fun W => (bp_spec a0 W h).mono (hone W))
  have H2 := Lib.hid (fun W (hT : TabsE W) => (bp_impl a0 W hT h).mono (hone W))
  have HT := Lib.hid T
  have HZ : rs.length ≤ 1048576 := by omega
  have hbb : (b != b) = false := by simp
  clear T hone
  go_enter Tryd.func5, Tryd.ntmps5
  go_wp2_with fail
  refine (H1.out _).mono ?_
  rintro e w1 ⟨p1, q1, rfl, hq1, hF1, k1⟩
  go_wp2_with fail
  refine (H2.out _ (HT.out.keep k1)).mono ?_
  rintro e w2 ⟨p2, q2, rfl, hq2, hF2, k2⟩
  have c2 := k1.trans k2
  have L2 := hF1.rs.keep k2
  go_wp2_with fail
  refine (eqR_same _ _ _ _ rs _ hF2.rs L2 HZ).mono ?_
  rintro e w3 ⟨rfl, k3⟩
  have c3 := c2.trans k3
  have F3 := hF2.keep k3
  have L3 := L2.keep k3
  have lo1 : Lo w1.heap.size p1 rs.length := hF1.rs.lo
  go_wp2_with fail
  refine (markFR _ _ _ w1 _ F3 HZ).mono ?_
  rintro e w4 ⟨rfl, hb4, ys, hy, hYs, hMk⟩
  have s13 : w1.heap.size ≤ w3.heap.size := Nat.le_trans k2.size k3.size
  have b4 : Below w1.heap.size w3 w4 := hb4 s13
  have c4 : Keep w w4 := Below.trans c3 (b4.mono k1.size)
  have L4 := L3.below lo1 b4
  have dm : decide (1 + 4 * (rs.length : Int) < 0) = false := by simp; omega
  have HH := Lib.hid (heldR p2 q2 ys w4 hYs hMk (by rw [hy]; exact HZ))
  rw [hy] at HH
  go_wp2_with fail
  refine HH.out.mono ?_
  rintro e w' ⟨rfl, rfl⟩
  go_wp2_with fail
  refine (H2.out _ (HT.out.keep c4)).mono ?_
  rintro e w5 ⟨p5, q5, rfl, hq5, hF5, k5⟩
  have c5 := c4.trans k5
  have L5 := L4.keep k5
  have Y5 := hYs.keep k5
  go_wp2_with fail
  refine (eqR_same _ _ _ _ rs _ hF5.rs L5 HZ).mono ?_
  rintro e w6 ⟨rfl, k6⟩
  have c6 := c5.trans k6
  have HH2 := Lib.hid (heldR p2 q2 ys w6 (Y5.keep k6) hMk (by rw [hy]; exact HZ))
  rw [hy] at HH2
  go_wp2_with fail
  refine HH2.out.mono ?_
  rintro e w' ⟨rfl, rfl⟩
  go_wp2
  go_ret
  exact ⟨rfl, c6⟩
end Go.Proofs.YtpdpcnblpcalaaaDoor
