/- MonthsOf: the program answers as its model; its answer is new memory. -/
import Derived.Test.YtohoeonfoolpdaaDoorMvaniggehh
import Derived.Test.YtohoeonfoolpdaaDoorRv
import Derived.Test.YtohoeonfoolpdaaDoorTi
import Derived.Test.YtohoeonfoolpdaaDoorMf
import Derived.Test.YtohoeonfoolpdaaDoorFr
namespace Go.Proofs.YtohoeonfoolpdaaDoor
open Go.RowKit
set_option linter.unusedVariables false

set_option maxRecDepth 100000 in
set_option maxHeartbeats 1000000 in
theorem walk_FnExactMonthsOf (a0 : Option Addr) (len0 cap0 : Nat) (z0 : List Int) (a1 : Int) (a2 : Int) (w : World) (w0 : IsRow .i64 w a0 len0 cap0 z0) (w1 : (Lit.int .i64 a1).wf = true) (w2 : (Lit.int .i64 a2).wf = true) (T : Tabs w) :
    Calls Tryd.prog 6 #[.slice a0 len0 cap0, .int .i64 a1, .int .i64 a2] w fun e w' => e = .returned (.bool true) ∧ Below w.heap.size w w' := by
  obtain ⟨y0, hl0, hL0, ⟨hm0, hM0⟩, hW0⟩ := ls_of_row w0
  subst hl0
  clear w0 hW0
  have hfw : IntKind.i64.wrap a1 = a1 := wrap_wf w1
  have HT := Lib.hid T
  clear w1 w2 T
  obtain ⟨b, hb⟩ : ∃ b, mthOk y0 a1 a2 = b := ⟨_, rfl⟩
  unfold maxLen at hM0
  by_cases h0 : y0.length ≤ 1048576
  case' neg =>
    have hd0 : decide (1048576 < (y0.length : Int)) = true := by simp; omega
    go_enter Tryd.func6, Tryd.ntmps6
    go_wp2
    go_ret
    exact ⟨rfl, Below.refl _ _⟩
  have hd0 : decide (1048576 < (y0.length : Int)) = false := by simp; omega
  go_enter Tryd.func6, Tryd.ntmps6
  have HZ : (mthL y0 a1 a2).length ≤ 1048576 := Nat.le_trans (mthL_len a1 a2 (zs := y0)) (by omega)
  go_wp2_with fail
  refine (toI_lt _ _ y0 _ (hL0) h0).mono ?_
  rintro e w1 ⟨g1, hg1, hl1, rfl, hW1, k1⟩
  have c1 : Keep w w1 := Keep.trans (Keep.refl w) k1
  go_wp2_with fail
  refine (mth_spec _ _ y0 a1 a2 _ hW1.ls h0 hfw).mono ?_
  rintro e w2 ⟨ps, qs, rfl, _, hFs, k2⟩
  have c2 : Keep w w2 := Keep.trans c1 k2
  have Ls2 := hFs.rs
  go_wp2_with fail
  refine (toI_lt _ _ y0 _ (hL0.keep c2) h0).mono ?_
  rintro e w3 ⟨g3, hg3, hl3, rfl, hW3, k3⟩
  have c3 : Keep w w3 := Keep.trans c2 k3
  have sz2 := c2.size
  have szk3 := k3.size
  go_wp2_with fail
  refine (mth_impl _ _ y0 a1 a2 _ (HT.out.keep c3) hW3.ls h0 hfw).mono ?_
  rintro e w4 ⟨p4, q4, rfl, _, hF4, k4⟩
  have c4 : Keep w w4 := Keep.trans c3 k4
  go_wp2_with fail
  refine (eqM_same _ _ _ _ _ _ hF4.rs ((Ls2.keep k3).keep k4) HZ).mono ?_
  rintro e w5 ⟨rfl, k5⟩
  have c5 : Keep w w5 := Keep.trans c4 k5
  go_wp2_with fail
  refine (toI_lt _ _ y0 _ (hL0.keep c5) h0).mono ?_
  rintro e w6 ⟨g6, hg6, hl6, rfl, hW6, k6⟩
  have c6 : Keep w w6 := Keep.trans c5 k6
  go_wp2_with fail
  refine (eqI_same _ _ _ _ y0 _ (((hW3.keep k4).keep k5).keep k6).ls hW6.ls h0).mono ?_
  rintro e w7 ⟨rfl, n7, rfl⟩
  have c7 := c6.drewN n7
  have k7 := (Keep.refl w6).drewN n7
  have Fm7 := (((hF4.keep k5).keep k6).keep k7)
  have Lm7 := (((((Ls2.keep k3).keep k4).keep k5).keep k6).keep k7)
  have lo7 := hFs.rs.lo
  have X0_7 := ((((hW3.keep k4).keep k5).keep k6).keep k7)
  go_wp2_with fail
  refine (markW g3 _ y0 1 _ X0_7 h0 (by omega) (by omega)).mono ?_
  rintro e w8 ⟨rfl, ho8⟩
  have c8 : Keep w w8 := Keep.trans' c7 ho8 (by omega)
  have Lm8 := Lm7.onlyLo (lo7.mono (show w2.heap.size ≤ g3 by omega)) ho8
  have Fm8 := Fm7.only ho8 (show g3 < w3.heap.size by omega)
  have szo8 := ho8.size
  have dk : decide ((1 + (y0.length : Int)) < 0) = false := by simp; omega
  go_wp2_with fail
  refine (eqM_same _ _ _ _ _ _ Fm8.rs Lm8 HZ).mono ?_
  rintro e w9 ⟨rfl, k9⟩
  have c9 : Keep w w9 := Keep.trans c8 k9
  have Fd := Fm8.keep k9
  have Ld := Lm8.keep k9
  go_wp2_with fail
  refine (markFM _ _ _ w3 _ Fd HZ).mono ?_
  rintro e w10 ⟨rfl, hb10, ys, hy, hYs, hMk⟩
  have szk4 := k4.size
  have szk5 := k5.size
  have szk6 := k6.size
  have szk7 := k7.size
  have szk9 := k9.size
  have sbi : w3.heap.size ≤ w9.heap.size := by simp only [World.heap_drewN] at *; omega
  have bd := hb10 sbi
  have c10 : Keep w w10 := Below.trans c9 (bd.mono (c3.size))
  have Le := Ld.below (lo7.mono (show w2.heap.size ≤ w3.heap.size by omega)) bd
  have dm : decide (1 + 4 * ((mthL y0 a1 a2).length : Int) < 0) = false := by simp; omega
  have HH := Lib.hid (heldM p4 q4 ys w10 hYs hMk (by rw [hy]; exact HZ))
  rw [hy] at HH
  go_wp2_with fail
  refine HH.out.mono ?_
  rintro e w' ⟨rfl, rfl⟩
  go_wp2_with fail
  refine (toI_lt _ _ y0 _ (hL0.keep c10) h0).mono ?_
  rintro e w11 ⟨g11, hg11, hl11, rfl, hW11, k11⟩
  have c11 : Keep w w11 := Keep.trans c10 k11
  go_wp2_with fail
  refine (mth_impl _ _ y0 a1 a2 _ (HT.out.keep c11) hW11.ls h0 hfw).mono ?_
  rintro e w12 ⟨p12, q12, rfl, _, hF12, k12⟩
  have c12 : Keep w w12 := Keep.trans c11 k12
  have Lz := ((Le.keep k11).keep k12)
  have Yz := ((hYs.keep k11).keep k12)
  go_wp2_with fail
  refine (eqM_same _ _ _ _ _ _ hF12.rs Lz HZ).mono ?_
  rintro e w13 ⟨rfl, k13⟩
  have c13 : Keep w w13 := Keep.trans c12 k13
  have HH2 := Lib.hid (heldM p4 q4 ys w13 (Yz.keep k13) hMk (by rw [hy]; exact HZ))
  rw [hy] at HH2
  go_wp2_with fail
  refine HH2.out.mono ?_
  rintro e w' ⟨rfl, rfl⟩
  go_wp2
  go_ret
  exact ⟨rfl, c13⟩
end Go.Proofs.YtohoeonfoolpdaaDoor
