/- DiffOf: the program answers as its model; its answer is new memory. -/
import Derived.Test.YtamdfdbhkmgflaaKo
import Derived.Test.YtamdfdbhkmgflaaMg
import Derived.Test.YtamdfdbhkmgflaaMf
import Derived.Test.YtamdfdbhkmgflaaFr
namespace Go.Proofs.Ytamdfdbhkmgflaa
open Go.RowKit
set_option linter.unusedVariables false

set_option maxRecDepth 100000 in
set_option maxHeartbeats 2000000 in
theorem walk_FnExactDiffOf (a0 : Option Addr) (len0 cap0 : Nat) (z0 : Nat → Nat → Int) (a1 : Int) (a2 : Int) (w : World) (w0 : IsRows 4 w a0 len0 cap0 z0) (w1 : (Lit.int .i64 a1).wf = true) (w2 : (Lit.int .i64 a2).wf = true) :
    Calls Try.prog 5 #[.slice a0 len0 cap0, .int .i64 a1, .int .i64 a2] w fun e w' => e = .returned (.bool true) ∧ Below w.heap.size w w' := by
  obtain ⟨y0, hl0, hL0, ⟨hm0, hM0⟩⟩ := rs_of_rows w0
  subst hl0
  clear w0 w1 w2
  unfold maxLen at hM0
  by_cases h0 : y0.length ≤ 1048576
  case' neg =>
    go_enter Try.func5, Try.ntmps5
    go_wp2_with (go_at_call 12; refine (sz_big _ _ _ _ (by omega) (by omega)).mono ?_; rintro e w' ⟨rfl, rfl⟩)
    go_ret
    exact ⟨rfl, Below.refl _ _⟩
  have hd0 : decide (1048576 - (y0.length : Int) < 0) = false := by simp; omega
  go_enter Try.func5, Try.ntmps5
  go_wp2_with fail
  refine (sz_any _ _ _ _ h0).mono ?_
  rintro e w' ⟨rfl, rfl⟩
  have HZ : (dfL y0 a1 a2).length ≤ 1048576 := Nat.le_trans (dfL_len y0 a1 a2) (by omega)
  go_wp2_with fail
  refine (toR_any _ _ y0 _ hL0 h0).mono ?_
  rintro e w1 ⟨g1, hg1, rfl, hW1, k1, hl_k1⟩
  have c1 : Keep w w1 := Keep.trans (Keep.refl w) k1
  go_wp2_with fail
  refine (df_spec _ _ y0 a1 a2 _ hW1.rs (by omega) (by omega)).mono ?_
  rintro e w2 ⟨p2, q2, rfl, hF2, k2⟩
  have c2 : Keep w w2 := Keep.trans c1 k2
  have s2 := c2.size
  go_wp2_with fail
  refine (toR_any _ _ y0 _ (hL0.keep c2) h0).mono ?_
  rintro e w3 ⟨g3, hg3, rfl, hW3, k3, hl_k3⟩
  have c3 : Keep w w3 := Keep.trans c2 k3
  have L3 := hF2.ks.keep k3
  have lo3 : Lo g3 p2 _ := hF2.ks.lo.mono hg3
  go_wp2_with fail
  refine (df_impl _ _ y0 a1 a2 _ hW3.rs (by omega) (by omega)).mono ?_
  rintro e w4 ⟨p4, q4, rfl, hF4, k4⟩
  have c4 : Keep w w4 := Keep.trans c3 k4
  have L4 := L3.keep k4
  go_wp2_with fail
  refine (eqKs_same _ _ _ _ (dfL y0 a1 a2) _ hF4.ks L4 HZ).mono ?_
  rintro e w5 ⟨rfl, k5⟩
  have c5 := c4.trans k5
  go_wp2_with fail
  refine (toR_any _ _ y0 _ (hL0.keep c5) h0).mono ?_
  rintro e w6 ⟨g6, hg6, rfl, hW6, k6, hl_k6⟩
  have c6 : Keep w w6 := Keep.trans c5 k6
  have hx := ((hW3.keep k4).keep k5).keep k6
  go_wp2_with fail
  refine (eqR_same _ _ _ _ y0 _ hx.rs hW6.rs h0).mono ?_
  rintro e w7 ⟨rfl, k7⟩
  have c7 : Keep w w7 := Keep.trans c6 k7
  have L7 := ((L4.keep k5).keep k6).keep k7
  have F7 := ((hF4.keep k5).keep k6).keep k7
  have R7 := hx.keep k7
  go_wp2_with fail
  refine (markR g3 _ y0 _ R7 h0).mono ?_
  rintro e w8 ⟨rfl, ho8, _⟩
  have c8 : Keep w w8 := Keep.trans' c7 ho8 (by omega)
  have L8 := L7.onlyLo lo3 ho8
  have s3 := k3.size
  have s37 := ((k4.trans k5).trans k6).trans k7 |>.size
  have F8 : FrK w3 w8 p4 (dfL y0 a1 a2) := F7.only ho8 hl_k3
  have dk : decide (1 + 4 * (y0.length : Int) < 0) = false := by simp; omega
  go_wp2_with fail
  refine (eqKs_same _ _ _ _ (dfL y0 a1 a2) _ F8.ks L8 HZ).mono ?_
  rintro e w9 ⟨rfl, k9⟩
  have c9 := c8.trans k9
  have F9 := F8.keep k9
  have L9 := L8.keep k9
  go_wp2_with fail
  refine (markFK _ _ _ w3 _ F9 HZ).mono ?_
  rintro e w10 ⟨rfl, hb10, ys, hy, hYs, hMk⟩
  have s39 : w3.heap.size ≤ w9.heap.size := Nat.le_trans (Nat.le_trans s37 ho8.size) k9.size
  have b10 : Below w3.heap.size w9 w10 := hb10 s39
  have sw3 := c3.size
  have c10 : Keep w w10 := Below.trans c9 (b10.mono sw3)
  have L10 := L9.below (lo3.mono (show g3 ≤ w3.heap.size from Nat.le_of_lt hl_k3)) b10
  have dm : decide (1 + 3 * ((dfL y0 a1 a2).length : Int) < 0) = false := by simp; omega
  have HH := Lib.hid (heldK p4 q4 ys w10 hYs hMk (by rw [hy]; exact HZ))
  rw [hy] at HH
  go_wp2_with fail
  refine HH.out.mono ?_
  rintro e w' ⟨rfl, rfl⟩
  go_wp2_with fail
  refine (toR_any _ _ y0 _ (hL0.keep c10) h0).mono ?_
  rintro e w11 ⟨g11, hg11, rfl, hW11, k11, hl_k11⟩
  have c11 : Keep w w11 := Keep.trans c10 k11
  go_wp2_with fail
  refine (df_impl _ _ y0 a1 a2 _ hW11.rs (by omega) (by omega)).mono ?_
  rintro e w12 ⟨p12, q12, rfl, hF12, k12⟩
  have c12 : Keep w w12 := Keep.trans c11 k12
  have L12 := (L10.keep k11).keep k12
  have Y12 := (hYs.keep k11).keep k12
  go_wp2_with fail
  refine (eqKs_same _ _ _ _ (dfL y0 a1 a2) _ hF12.ks L12 HZ).mono ?_
  rintro e w13 ⟨rfl, k13⟩
  have c13 := c12.trans k13
  have HH2 := Lib.hid (heldK p4 q4 ys w13 (Y12.keep k13) hMk (by rw [hy]; exact HZ))
  rw [hy] at HH2
  go_wp2_with fail
  refine HH2.out.mono ?_
  rintro e w' ⟨rfl, rfl⟩
  go_wp2
  go_ret
  exact ⟨rfl, c13⟩
end Go.Proofs.Ytamdfdbhkmgflaa
