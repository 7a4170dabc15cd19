/- AdjustOf: the program answers as its model; its answer is new memory, and no argument turns. -/
import Derived.Test.YtehjjoalnfpgdaaAq
import Derived.Test.YtehjjoalnfpgdaaAt
import Derived.Test.YtehjjoalnfpgdaaTj
import Derived.Test.YtehjjoalnfpgdaaFr
namespace Go.Proofs.Ytehjjoalnfpgdaa
open Go.RowKit
set_option linter.unusedVariables false

set_option maxRecDepth 100000 in
set_option maxHeartbeats 1000000 in
theorem walk_FnExactAdjustOf (a0 : Option Addr) (len0 cap0 : Nat) (z0 : List Int) (a1 : Option Addr) (len1 cap1 : Nat) (z1 : List Int) (w : World) (w0 : IsRow .i64 w a0 len0 cap0 z0) (w1 : IsRow .i64 w a1 len1 cap1 z1) :
    Calls Try.prog 11 #[.slice a0 len0 cap0, .slice a1 len1 cap1] w fun e w' => e = .returned (.bool true) ∧ Below w.heap.size w w' := by
  obtain ⟨y0, hl0, hL0, ⟨hm0, hM0⟩, hW0⟩ := ls_of_row w0
  subst hl0
  clear w0 hW0
  unfold maxLen at hM0
  obtain ⟨y1, hl1, hL1, ⟨hm1, hM1⟩, hW1⟩ := ls_of_row w1
  subst hl1
  clear w1 hW1
  unfold maxLen at hM1
  by_cases h0 : y0.length ≤ 1048576
  case' neg =>
    have hd0 : decide (1048576 < (y0.length : Int)) = true := by simp; omega
    go_enter Try.func11, Try.ntmps11
    go_wp2
    go_ret
    exact ⟨rfl, Below.refl _ _⟩
  have hd0 : decide (1048576 < (y0.length : Int)) = false := by simp; omega
  by_cases h1 : y1.length ≤ 1048576
  case' neg =>
    have hd1 : decide (1048576 < (y1.length : Int)) = true := by simp; omega
    go_enter Try.func11, Try.ntmps11
    go_wp2
    go_ret
    exact ⟨rfl, Below.refl _ _⟩
  have hd1 : decide (1048576 < (y1.length : Int)) = false := by simp; omega
  go_enter Try.func11, Try.ntmps11
  have HZ : (aoL y0 y1).length ≤ 1048576 := Nat.le_trans (aoL_le y0 y1) (by omega)
  go_wp2_with fail
  refine (toI_lt _ _ y0 _ (hL0) h0).mono ?_
  rintro e w1 ⟨g1, hg1, hl1, rfl, hW1, k1⟩
  have c1 : Keep w w1 := Keep.trans (Keep.refl w) k1
  go_wp2_with fail
  refine (toI_lt _ _ y1 _ (hL1.keep c1) h1).mono ?_
  rintro e w2 ⟨g2, hg2, hl2, rfl, hW2, k2⟩
  have c2 : Keep w w2 := Keep.trans c1 k2
  go_wp2_with fail
  refine ((ao_spec _ _ _ _ y0 y1 _ (hW1.keep k2).ls hW2.ls (by first | exact Nat.le_refl _ | omega) h0 h1).mono fun _ _ h => nwb_fr3 h).mono ?_
  rintro e w3 ⟨ps, qs, rfl, hFs, k3⟩
  have c3 : Keep w w3 := Keep.trans c2 k3
  have Ls3 := hFs.ls
  go_wp2_with fail
  refine (toI_lt _ _ y0 _ (hL0.keep c3) h0).mono ?_
  rintro e w4 ⟨g4, hg4, hl4, rfl, hW4, k4⟩
  have c4 : Keep w w4 := Keep.trans c3 k4
  go_wp2_with fail
  refine (toI_lt _ _ y1 _ (hL1.keep c4) h1).mono ?_
  rintro e w5 ⟨g5, hg5, hl5, rfl, hW5, k5⟩
  have c5 : Keep w w5 := Keep.trans c4 k5
  have sz3 := c3.size
  have szk4 := k4.size
  have szk5 := k5.size
  go_wp2_with fail
  refine ((ao_impl _ _ _ _ y0 y1 _ (hW4.keep k5).ls hW5.ls (by first | exact Nat.le_refl _ | omega) h0 h1).mono fun _ _ h => nwb_fr3 h).mono ?_
  rintro e w6 ⟨p4, q4, rfl, hF4, k6⟩
  have c6 : Keep w w6 := Keep.trans c5 k6
  go_wp2_with fail
  refine (eqI_same _ _ _ _ _ _ hF4.ls (((Ls3.keep k4).keep k5).keep k6) HZ).mono ?_
  rintro e w7 ⟨rfl, n7, rfl⟩
  have c7 := c6.drewN n7
  have k7 := (Keep.refl w6).drewN n7
  go_wp2_with fail
  refine (toI_lt _ _ y0 _ (hL0.keep c7) h0).mono ?_
  rintro e w8 ⟨g8, hg8, hl8, rfl, hW8, k8⟩
  have c8 : Keep w w8 := Keep.trans c7 k8
  go_wp2_with fail
  refine (eqI_same _ _ _ _ y0 _ ((((hW4.keep k5).keep k6).keep k7).keep k8).ls hW8.ls h0).mono ?_
  rintro e w9 ⟨rfl, n9, rfl⟩
  have c9 := c8.drewN n9
  have k9 := (Keep.refl w8).drewN n9
  go_wp2_with fail
  refine (toI_lt _ _ y1 _ (hL1.keep c9) h1).mono ?_
  rintro e w10 ⟨g10, hg10, hl10, rfl, hW10, k10⟩
  have c10 : Keep w w10 := Keep.trans c9 k10
  go_wp2_with fail
  refine (eqI_same _ _ _ _ y1 _ (((((hW5.keep k6).keep k7).keep k8).keep k9).keep k10).ls hW10.ls h1).mono ?_
  rintro e w11 ⟨rfl, n11, rfl⟩
  have c11 := c10.drewN n11
  have k11 := (Keep.refl w10).drewN n11
  have Fm11 := (((((hF4.keep k7).keep k8).keep k9).keep k10).keep k11)
  have Lm11 := ((((((((Ls3.keep k4).keep k5).keep k6).keep k7).keep k8).keep k9).keep k10).keep k11)
  have lo11 := hFs.ls.lo
  have X0_11 := (((((((hW4.keep k5).keep k6).keep k7).keep k8).keep k9).keep k10).keep k11)
  have X1_11 := ((((((hW5.keep k6).keep k7).keep k8).keep k9).keep k10).keep k11)
  go_wp2_with fail
  refine (markW g4 _ y0 1 _ X0_11 h0 (by omega) (by omega)).mono ?_
  rintro e w12 ⟨rfl, ho12⟩
  have c12 : Keep w w12 := Keep.trans' c11 ho12 (by omega)
  have Lm12 := Lm11.only (lo11.mono (show w3.heap.size ≤ g4 by omega)) ho12
  have Fm12 := Fm11.only ho12 (show g4 < w5.heap.size by omega)
  have X1_12 := ho12.wr X1_11 (by omega)
  have szo12 := ho12.size
  go_wp2_with fail
  refine (markW g5 _ y1 (1 + (y0.length : Int)) _ X1_12 h1 (by omega) (by omega)).mono ?_
  rintro e w13 ⟨rfl, ho13⟩
  have c13 : Keep w w13 := Keep.trans' c12 ho13 (by omega)
  have Lm13 := Lm12.only (lo11.mono (show w3.heap.size ≤ g5 by omega)) ho13
  have Fm13 := Fm12.only ho13 (show g5 < w5.heap.size by omega)
  have szo13 := ho13.size
  have dk : decide (((1 + (y0.length : Int)) + (y1.length : Int)) < 0) = false := by simp; omega
  go_wp2_with fail
  refine (eqI_same _ _ _ _ _ _ Fm13.ls Lm13 HZ).mono ?_
  rintro e w14 ⟨rfl, n14, rfl⟩
  have c14 := c13.drewN n14
  have k14 := (Keep.refl w13).drewN n14
  have Fd := Fm13.drewN n14
  have Ld := Lm13.drewN n14
  go_wp2_with fail
  refine (markF _ _ _ w5 _ Fd HZ).mono ?_
  rintro e w15 ⟨rfl, hb15, ys, hy, hYs, hMk⟩
  have szk6 := k6.size
  have szk7 := k7.size
  have szk8 := k8.size
  have szk9 := k9.size
  have szk10 := k10.size
  have szk11 := k11.size
  have sbi : w5.heap.size ≤ w13.heap.size := by simp only [World.heap_drewN] at *; omega
  have bd := hb15 sbi
  have c15 : Keep w w15 := Below.trans c14 (bd.mono (c5.size))
  have Le := Ld.below (lo11.mono (show w3.heap.size ≤ w5.heap.size by omega)) bd
  have dm : decide (1 + ((aoL y0 y1).length : Int) < 0) = false := by simp; omega
  have HH := Lib.hid (heldI p4 q4 ys w15 hYs hMk (by rw [hy]; exact HZ))
  rw [hy] at HH
  go_wp2_with fail
  refine HH.out.mono ?_
  rintro e w' ⟨rfl, rfl⟩
  go_wp2_with fail
  refine (toI_lt _ _ y0 _ (hL0.keep c15) h0).mono ?_
  rintro e w16 ⟨g16, hg16, hl16, rfl, hW16, k16⟩
  have c16 : Keep w w16 := Keep.trans c15 k16
  go_wp2_with fail
  refine (toI_lt _ _ y1 _ (hL1.keep c16) h1).mono ?_
  rintro e w17 ⟨g17, hg17, hl17, rfl, hW17, k17⟩
  have c17 : Keep w w17 := Keep.trans c16 k17
  go_wp2_with fail
  refine ((ao_impl _ _ _ _ y0 y1 _ (hW16.keep k17).ls hW17.ls (by first | exact Nat.le_refl _ | omega) h0 h1).mono fun _ _ h => nwb_fr3 h).mono ?_
  rintro e w18 ⟨p12, q12, rfl, hF12, k18⟩
  have c18 : Keep w w18 := Keep.trans c17 k18
  have Lz := (((Le.keep k16).keep k17).keep k18)
  have Yz := (((hYs.keep k16).keep k17).keep k18)
  go_wp2_with fail
  refine (eqI_same _ _ _ _ _ _ hF12.ls Lz HZ).mono ?_
  rintro e w19 ⟨rfl, n19, rfl⟩
  have c19 := c18.drewN n19
  have k19 := (Keep.refl w18).drewN n19
  have HH2 := Lib.hid (heldI p4 q4 ys (w18.drewN n19) (Yz.drewN n19) hMk (by rw [hy]; exact HZ))
  rw [hy] at HH2
  go_wp2_with fail
  refine HH2.out.mono ?_
  rintro e w' ⟨rfl, rfl⟩
  go_wp2
  go_ret
  exact ⟨rfl, c19⟩
end Go.Proofs.Ytehjjoalnfpgdaa
