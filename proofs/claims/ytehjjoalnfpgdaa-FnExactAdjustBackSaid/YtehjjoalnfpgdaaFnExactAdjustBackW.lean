/- AdjustBack: the program answers as its model; its answer is new memory, and no argument turns. -/
import Derived.Test.YtehjjoalnfpgdaaAq
import Derived.Test.YtehjjoalnfpgdaaAt
import Derived.Test.YtehjjoalnfpgdaaTj
import Derived.Test.YtehjjoalnfpgdaaFr
namespace Go.Proofs.Ytehjjoalnfpgdaa
open Go.RowKit
set_option linter.unusedVariables false

set_option maxRecDepth 100000 in
set_option maxHeartbeats 1000000 in
theorem walk_FnExactAdjustBack (a0 : Option Addr) (len0 cap0 : Nat) (z0 : List Int) (a1 : Option Addr) (len1 cap1 : Nat) (z1 : List Int) (a2 : Option Addr) (len2 cap2 : Nat) (z2 : List Int) (w : World) (w0 : IsRow .i64 w a0 len0 cap0 z0) (w1 : IsRow .i64 w a1 len1 cap1 z1) (w2 : IsRow .i64 w a2 len2 cap2 z2) :
    Calls Try.prog 12 #[.slice a0 len0 cap0, .slice a1 len1 cap1, .slice a2 len2 cap2] w fun e w' => e = .returned (.bool true) ∧ Below w.heap.size w w' := by
  obtain ⟨y0, hl0, hL0, ⟨hm0, hM0⟩, hW0⟩ := ls_of_row w0
  subst hl0
  clear w0 hW0
  unfold maxLen at hM0
  obtain ⟨y1, hl1, hL1, ⟨hm1, hM1⟩, hW1⟩ := ls_of_row w1
  subst hl1
  clear w1 hW1
  unfold maxLen at hM1
  obtain ⟨y2, hl2, hL2, ⟨hm2, hM2⟩, hW2⟩ := ls_of_row w2
  subst hl2
  clear w2 hW2
  unfold maxLen at hM2
  by_cases h0 : y0.length ≤ 1048576
  case' neg =>
    have hd0 : decide (1048576 < (y0.length : Int)) = true := by simp; omega
    go_enter Try.func12, Try.ntmps12
    go_wp2
    go_ret
    exact ⟨rfl, Below.refl _ _⟩
  have hd0 : decide (1048576 < (y0.length : Int)) = false := by simp; omega
  by_cases h1 : y1.length ≤ 1048576
  case' neg =>
    have hd1 : decide (1048576 < (y1.length : Int)) = true := by simp; omega
    go_enter Try.func12, Try.ntmps12
    go_wp2
    go_ret
    exact ⟨rfl, Below.refl _ _⟩
  have hd1 : decide (1048576 < (y1.length : Int)) = false := by simp; omega
  by_cases h2 : y2.length ≤ 1048576
  case' neg =>
    have hd2 : decide (1048576 < (y2.length : Int)) = true := by simp; omega
    go_enter Try.func12, Try.ntmps12
    go_wp2
    go_ret
    exact ⟨rfl, Below.refl _ _⟩
  have hd2 : decide (1048576 < (y2.length : Int)) = false := by simp; omega
  go_enter Try.func12, Try.ntmps12
  have HZ : (abL y0 y1 y2).length ≤ 1048576 := Nat.le_trans (abL_le y0 y1 y2) (by omega)
  go_wp2_with fail
  refine (toI_lt _ _ y0 _ (hL0) h0).mono ?_
  rintro e w1 ⟨g1, hg1, hl1, rfl, hW1, k1⟩
  have c1 : Keep w w1 := Keep.trans (Keep.refl w) k1
  go_wp2_with fail
  refine (toI_lt _ _ y1 _ (hL1.keep c1) h1).mono ?_
  rintro e w2 ⟨g2, hg2, hl2, rfl, hW2, k2⟩
  have c2 : Keep w w2 := Keep.trans c1 k2
  go_wp2_with fail
  refine (toI_lt _ _ y2 _ (hL2.keep c2) h2).mono ?_
  rintro e w3 ⟨g3, hg3, hl3, rfl, hW3, k3⟩
  have c3 : Keep w w3 := Keep.trans c2 k3
  go_wp2_with fail
  refine ((ab_spec _ _ _ _ _ _ y0 y1 y2 _ ((hW1.keep k2).keep k3).ls (hW2.keep k3).ls hW3.ls (by first | exact Nat.le_refl _ | omega) h0 h1 h2).mono fun _ _ h => nwb_fr3 h).mono ?_
  rintro e w4 ⟨ps, qs, rfl, hFs, k4⟩
  have c4 : Keep w w4 := Keep.trans c3 k4
  have Ls4 := hFs.ls
  go_wp2_with fail
  refine (toI_lt _ _ y0 _ (hL0.keep c4) h0).mono ?_
  rintro e w5 ⟨g5, hg5, hl5, rfl, hW5, k5⟩
  have c5 : Keep w w5 := Keep.trans c4 k5
  go_wp2_with fail
  refine (toI_lt _ _ y1 _ (hL1.keep c5) h1).mono ?_
  rintro e w6 ⟨g6, hg6, hl6, rfl, hW6, k6⟩
  have c6 : Keep w w6 := Keep.trans c5 k6
  go_wp2_with fail
  refine (toI_lt _ _ y2 _ (hL2.keep c6) h2).mono ?_
  rintro e w7 ⟨g7, hg7, hl7, rfl, hW7, k7⟩
  have c7 : Keep w w7 := Keep.trans c6 k7
  have sz4 := c4.size
  have szk5 := k5.size
  have szk6 := k6.size
  have szk7 := k7.size
  go_wp2_with fail
  refine ((ab_impl _ _ _ _ _ _ y0 y1 y2 _ ((hW5.keep k6).keep k7).ls (hW6.keep k7).ls hW7.ls (by first | exact Nat.le_refl _ | omega) h0 h1 h2).mono fun _ _ h => nwb_fr3 h).mono ?_
  rintro e w8 ⟨p4, q4, rfl, hF4, k8⟩
  have c8 : Keep w w8 := Keep.trans c7 k8
  go_wp2_with fail
  refine (eqI_same _ _ _ _ _ _ hF4.ls ((((Ls4.keep k5).keep k6).keep k7).keep k8) HZ).mono ?_
  rintro e w9 ⟨rfl, n9, rfl⟩
  have c9 := c8.drewN n9
  have k9 := (Keep.refl w8).drewN n9
  go_wp2_with fail
  refine (toI_lt _ _ y0 _ (hL0.keep c9) h0).mono ?_
  rintro e w10 ⟨g10, hg10, hl10, rfl, hW10, k10⟩
  have c10 : Keep w w10 := Keep.trans c9 k10
  go_wp2_with fail
  refine (eqI_same _ _ _ _ y0 _ (((((hW5.keep k6).keep k7).keep k8).keep k9).keep k10).ls hW10.ls h0).mono ?_
  rintro e w11 ⟨rfl, n11, rfl⟩
  have c11 := c10.drewN n11
  have k11 := (Keep.refl w10).drewN n11
  go_wp2_with fail
  refine (toI_lt _ _ y1 _ (hL1.keep c11) h1).mono ?_
  rintro e w12 ⟨g12, hg12, hl12, rfl, hW12, k12⟩
  have c12 : Keep w w12 := Keep.trans c11 k12
  go_wp2_with fail
  refine (eqI_same _ _ _ _ y1 _ ((((((hW6.keep k7).keep k8).keep k9).keep k10).keep k11).keep k12).ls hW12.ls h1).mono ?_
  rintro e w13 ⟨rfl, n13, rfl⟩
  have c13 := c12.drewN n13
  have k13 := (Keep.refl w12).drewN n13
  go_wp2_with fail
  refine (toI_lt _ _ y2 _ (hL2.keep c13) h2).mono ?_
  rintro e w14 ⟨g14, hg14, hl14, rfl, hW14, k14⟩
  have c14 : Keep w w14 := Keep.trans c13 k14
  go_wp2_with fail
  refine (eqI_same _ _ _ _ y2 _ (((((((hW7.keep k8).keep k9).keep k10).keep k11).keep k12).keep k13).keep k14).ls hW14.ls h2).mono ?_
  rintro e w15 ⟨rfl, n15, rfl⟩
  have c15 := c14.drewN n15
  have k15 := (Keep.refl w14).drewN n15
  have Fm15 := (((((((hF4.keep k9).keep k10).keep k11).keep k12).keep k13).keep k14).keep k15)
  have Lm15 := (((((((((((Ls4.keep k5).keep k6).keep k7).keep k8).keep k9).keep k10).keep k11).keep k12).keep k13).keep k14).keep k15)
  have lo15 := hFs.ls.lo
  have X0_15 := ((((((((((hW5.keep k6).keep k7).keep k8).keep k9).keep k10).keep k11).keep k12).keep k13).keep k14).keep k15)
  have X1_15 := (((((((((hW6.keep k7).keep k8).keep k9).keep k10).keep k11).keep k12).keep k13).keep k14).keep k15)
  have X2_15 := ((((((((hW7.keep k8).keep k9).keep k10).keep k11).keep k12).keep k13).keep k14).keep k15)
  go_wp2_with fail
  refine (markW g5 _ y0 1 _ X0_15 h0 (by omega) (by omega)).mono ?_
  rintro e w16 ⟨rfl, ho16⟩
  have c16 : Keep w w16 := Keep.trans' c15 ho16 (by omega)
  have Lm16 := Lm15.only (lo15.mono (show w4.heap.size ≤ g5 by omega)) ho16
  have Fm16 := Fm15.only ho16 (show g5 < w7.heap.size by omega)
  have X1_16 := ho16.wr X1_15 (by omega)
  have X2_16 := ho16.wr X2_15 (by omega)
  have szo16 := ho16.size
  go_wp2_with fail
  refine (markW g6 _ y1 (1 + (y0.length : Int)) _ X1_16 h1 (by omega) (by omega)).mono ?_
  rintro e w17 ⟨rfl, ho17⟩
  have c17 : Keep w w17 := Keep.trans' c16 ho17 (by omega)
  have Lm17 := Lm16.only (lo15.mono (show w4.heap.size ≤ g6 by omega)) ho17
  have Fm17 := Fm16.only ho17 (show g6 < w7.heap.size by omega)
  have X2_17 := ho17.wr X2_16 (by omega)
  have szo17 := ho17.size
  go_wp2_with fail
  refine (markW g7 _ y2 ((1 + (y0.length : Int)) + (y1.length : Int)) _ X2_17 h2 (by omega) (by omega)).mono ?_
  rintro e w18 ⟨rfl, ho18⟩
  have c18 : Keep w w18 := Keep.trans' c17 ho18 (by omega)
  have Lm18 := Lm17.only (lo15.mono (show w4.heap.size ≤ g7 by omega)) ho18
  have Fm18 := Fm17.only ho18 (show g7 < w7.heap.size by omega)
  have szo18 := ho18.size
  have dk : decide ((((1 + (y0.length : Int)) + (y1.length : Int)) + (y2.length : Int)) < 0) = false := by simp; omega
  go_wp2_with fail
  refine (eqI_same _ _ _ _ _ _ Fm18.ls Lm18 HZ).mono ?_
  rintro e w19 ⟨rfl, n19, rfl⟩
  have c19 := c18.drewN n19
  have k19 := (Keep.refl w18).drewN n19
  have Fd := Fm18.drewN n19
  have Ld := Lm18.drewN n19
  go_wp2_with fail
  refine (markF _ _ _ w7 _ Fd HZ).mono ?_
  rintro e w20 ⟨rfl, hb20, ys, hy, hYs, hMk⟩
  have szk8 := k8.size
  have szk9 := k9.size
  have szk10 := k10.size
  have szk11 := k11.size
  have szk12 := k12.size
  have szk13 := k13.size
  have szk14 := k14.size
  have szk15 := k15.size
  have sbi : w7.heap.size ≤ w18.heap.size := by simp only [World.heap_drewN] at *; omega
  have bd := hb20 sbi
  have c20 : Keep w w20 := Below.trans c19 (bd.mono (c7.size))
  have Le := Ld.below (lo15.mono (show w4.heap.size ≤ w7.heap.size by omega)) bd
  have dm : decide (1 + ((abL y0 y1 y2).length : Int) < 0) = false := by simp; omega
  have HH := Lib.hid (heldI p4 q4 ys w20 hYs hMk (by rw [hy]; exact HZ))
  rw [hy] at HH
  go_wp2_with fail
  refine HH.out.mono ?_
  rintro e w' ⟨rfl, rfl⟩
  go_wp2_with fail
  refine (toI_lt _ _ y0 _ (hL0.keep c20) h0).mono ?_
  rintro e w21 ⟨g21, hg21, hl21, rfl, hW21, k21⟩
  have c21 : Keep w w21 := Keep.trans c20 k21
  go_wp2_with fail
  refine (toI_lt _ _ y1 _ (hL1.keep c21) h1).mono ?_
  rintro e w22 ⟨g22, hg22, hl22, rfl, hW22, k22⟩
  have c22 : Keep w w22 := Keep.trans c21 k22
  go_wp2_with fail
  refine (toI_lt _ _ y2 _ (hL2.keep c22) h2).mono ?_
  rintro e w23 ⟨g23, hg23, hl23, rfl, hW23, k23⟩
  have c23 : Keep w w23 := Keep.trans c22 k23
  go_wp2_with fail
  refine ((ab_impl _ _ _ _ _ _ y0 y1 y2 _ ((hW21.keep k22).keep k23).ls (hW22.keep k23).ls hW23.ls (by first | exact Nat.le_refl _ | omega) h0 h1 h2).mono fun _ _ h => nwb_fr3 h).mono ?_
  rintro e w24 ⟨p12, q12, rfl, hF12, k24⟩
  have c24 : Keep w w24 := Keep.trans c23 k24
  have Lz := ((((Le.keep k21).keep k22).keep k23).keep k24)
  have Yz := ((((hYs.keep k21).keep k22).keep k23).keep k24)
  go_wp2_with fail
  refine (eqI_same _ _ _ _ _ _ hF12.ls Lz HZ).mono ?_
  rintro e w25 ⟨rfl, n25, rfl⟩
  have c25 := c24.drewN n25
  have k25 := (Keep.refl w24).drewN n25
  have HH2 := Lib.hid (heldI p4 q4 ys (w24.drewN n25) (Yz.drewN n25) hMk (by rw [hy]; exact HZ))
  rw [hy] at HH2
  go_wp2_with fail
  refine HH2.out.mono ?_
  rintro e w' ⟨rfl, rfl⟩
  go_wp2
  go_ret
  exact ⟨rfl, c25⟩
end Go.Proofs.Ytehjjoalnfpgdaa
