/- CutsBest: the program answers as its model; its answer is new memory, and its argument does not turn. -/
import Derived.Test.YtpgdbhafdnfhcaaBi
import Derived.Test.YtpgdbhafdnfhcaaBp
import Derived.Test.YtpgdbhafdnfhcaaBl
import Derived.Test.YtpgdbhafdnfhcaaTj
import Derived.Test.YtpgdbhafdnfhcaaMf
import Derived.Test.YtpgdbhafdnfhcaaFr
namespace Go.Proofs.Ytpgdbhafdnfhcaa
open Go.RowKit
set_option linter.unusedVariables false

theorem nwb_frB {L : List Int} {b : Bool} {w w' : World} {e : Ending} (h : NwB L b w e w') : ∃ (a : Option Addr) (c : Nat), e = .returned (.tuple #[.slice a L.length c, .bool b]) ∧ Fresh w w' a L ∧ Keep w w' := by
  obtain ⟨a, c, he, _, hF, k⟩ := h
  exact ⟨a, c, he, hF, k⟩
theorem cbL_le (zs : List Int) (pr : Int) : (cbL zs pr).length ≤ 7 := by
  rcases Bool.eq_false_or_eq_true (cbOk zs pr) with h | h
  · exact (cb_cost h).2.2.2.1
  · rw [cbL_no h]; simp
set_option maxRecDepth 100000 in
set_option maxHeartbeats 1000000 in
theorem walk_FnExactCutsBest (a0 : Option Addr) (len0 cap0 : Nat) (z0 : List Int) (a1 : Int) (w : World) (w0 : IsRow .i64 w a0 len0 cap0 z0) (w1 : (Lit.int .i64 a1).wf = true) :
    Calls Try.prog 10 #[.slice a0 len0 cap0, .int .i64 a1] w fun e w' => e = .returned (.bool true) ∧ Below w.heap.size w w' := by
  obtain ⟨y0, hl0, hL0, ⟨hm0, hM0⟩, hW0⟩ := ls_of_row w0
  subst hl0
  clear w0 hW0
  unfold maxLen at hM0
  clear w1
  by_cases h0 : y0.length ≤ 1048576
  case' neg =>
    have hd0 : decide (1048576 < (y0.length : Int)) = true := by simp; omega
    go_enter Try.func10, Try.ntmps10
    go_wp2
    go_ret
    exact ⟨rfl, Below.refl _ _⟩
  have hd0 : decide (1048576 < (y0.length : Int)) = false := by simp; omega
  go_enter Try.func10, Try.ntmps10
  have HZ : (cbL y0 a1).length ≤ 1048576 := Nat.le_trans (cbL_le y0 a1) (by omega)
  go_wp2_with fail
  refine (toI_lt _ _ y0 _ (hL0) h0).mono ?_
  rintro e w1 ⟨g1, hg1, hl1, rfl, hW1, k1⟩
  have c1 : Keep w w1 := Keep.trans (Keep.refl w) k1
  go_wp2_with fail
  refine ((cb_spec _ _ y0 a1 _ hW1.ls h0 (by first | exact Nat.le_refl _ | omega)).mono fun _ _ h => nwb_frB h).mono ?_
  rintro e w2 ⟨ps, qs, rfl, hFs, k2⟩
  have c2 : Keep w w2 := Keep.trans c1 k2
  have Ls2 := hFs.ls
  go_wp2_with fail
  refine (toI_lt _ _ y0 _ (hL0.keep c2) h0).mono ?_
  rintro e w3 ⟨g3, hg3, hl3, rfl, hW3, k3⟩
  have c3 : Keep w w3 := Keep.trans c2 k3
  have sz2 := c2.size
  have szk3 := k3.size
  go_wp2_with fail
  refine ((cb_impl _ _ y0 a1 _ hW3.ls h0 (by first | exact Nat.le_refl _ | omega)).mono fun _ _ h => nwb_frB h).mono ?_
  rintro e w4 ⟨p4, q4, rfl, hF4, k4⟩
  have c4 : Keep w w4 := Keep.trans c3 k4
  go_wp2_with fail
  refine (eqI_same _ _ _ _ _ _ hF4.ls ((Ls2.keep k3).keep k4) HZ).mono ?_
  rintro e w5 ⟨rfl, n5, rfl⟩
  have c5 := c4.drewN n5
  have k5 := (Keep.refl w4).drewN n5
  go_wp2_with fail
  refine (toI_lt _ _ y0 _ (hL0.keep c5) h0).mono ?_
  rintro e w6 ⟨g6, hg6, hl6, rfl, hW6, k6⟩
  have c6 : Keep w w6 := Keep.trans c5 k6
  go_wp2_with fail
  refine (eqI_same _ _ _ _ y0 _ (((hW3.keep k4).keep k5).keep k6).ls hW6.ls h0).mono ?_
  rintro e w7 ⟨rfl, n7, rfl⟩
  have c7 := c6.drewN n7
  have k7 := (Keep.refl w6).drewN n7
  have Fm7 := (((hF4.keep k5).keep k6).keep k7)
  have Lm7 := (((((Ls2.keep k3).keep k4).keep k5).keep k6).keep k7)
  have lo7 := hFs.ls.lo
  have X0_7 := ((((hW3.keep k4).keep k5).keep k6).keep k7)
  go_wp2_with fail
  refine (markW g3 _ y0 1 _ X0_7 h0 (by omega) (by omega)).mono ?_
  rintro e w8 ⟨rfl, ho8⟩
  have c8 : Keep w w8 := Keep.trans' c7 ho8 (by omega)
  have Lm8 := Lm7.only (lo7.mono (show w2.heap.size ≤ g3 by omega)) ho8
  have Fm8 := Fm7.only ho8 (show g3 < w3.heap.size by omega)
  have szo8 := ho8.size
  have dk : decide ((1 + (y0.length : Int)) < 0) = false := by simp; omega
  go_wp2_with fail
  refine (eqI_same _ _ _ _ _ _ Fm8.ls Lm8 HZ).mono ?_
  rintro e w9 ⟨rfl, n9, rfl⟩
  have c9 := c8.drewN n9
  have k9 := (Keep.refl w8).drewN n9
  have Fd := Fm8.drewN n9
  have Ld := Lm8.drewN n9
  go_wp2_with fail
  refine (markF _ _ _ w3 _ Fd HZ).mono ?_
  rintro e w10 ⟨rfl, hb10, ys, hy, hYs, hMk⟩
  have szk4 := k4.size
  have szk5 := k5.size
  have szk6 := k6.size
  have szk7 := k7.size
  have sbi : w3.heap.size ≤ w8.heap.size := by simp only [World.heap_drewN] at *; omega
  have bd := hb10 sbi
  have c10 : Keep w w10 := Below.trans c9 (bd.mono (c3.size))
  have Le := Ld.below (lo7.mono (show w2.heap.size ≤ w3.heap.size by omega)) bd
  have dm : decide (1 + ((cbL y0 a1).length : Int) < 0) = false := by simp; omega
  have HH := Lib.hid (heldI p4 q4 ys w10 hYs hMk (by rw [hy]; exact HZ))
  rw [hy] at HH
  go_wp2_with fail
  refine HH.out.mono ?_
  rintro e w' ⟨rfl, rfl⟩
  go_wp2_with fail
  refine (toI_lt _ _ y0 _ (hL0.keep c10) h0).mono ?_
  rintro e w11 ⟨g11, hg11, hl11, rfl, hW11, k11⟩
  have c11 : Keep w w11 := Keep.trans c10 k11
  go_wp2_with fail
  refine ((cb_impl _ _ y0 a1 _ hW11.ls h0 (by first | exact Nat.le_refl _ | omega)).mono fun _ _ h => nwb_frB h).mono ?_
  rintro e w12 ⟨p12, q12, rfl, hF12, k12⟩
  have c12 : Keep w w12 := Keep.trans c11 k12
  have Lz := ((Le.keep k11).keep k12)
  have Yz := ((hYs.keep k11).keep k12)
  go_wp2_with fail
  refine (eqI_same _ _ _ _ _ _ hF12.ls Lz HZ).mono ?_
  rintro e w13 ⟨rfl, n13, rfl⟩
  have c13 := c12.drewN n13
  have k13 := (Keep.refl w12).drewN n13
  have HH2 := Lib.hid (heldI p4 q4 ys (w12.drewN n13) (Yz.drewN n13) hMk (by rw [hy]; exact HZ))
  rw [hy] at HH2
  go_wp2_with fail
  refine HH2.out.mono ?_
  rintro e w' ⟨rfl, rfl⟩
  go_wp2
  go_ret
  exact ⟨rfl, c13⟩
end Go.Proofs.Ytpgdbhafdnfhcaa
