/- DoubtfulOf: the program answers as its model; its answer is new memory. -/
import Derived.Test.YtaghgapkjdkkfabDe
import Derived.Test.YtaghgapkjdkkfabTj
import Derived.Test.YtaghgapkjdkkfabFr
namespace Go.Proofs.Ytaghgapkjdkkfab
open Go.RowKit
set_option linter.unusedVariables false

set_option maxRecDepth 100000 in
set_option maxHeartbeats 2000000 in
theorem walk_FnExactDoubtfulOf (a0 : Option Addr) (len0 cap0 : Nat) (z0 : Nat → Nat → Int) (a1 : Option Addr) (len1 cap1 : Nat) (z1 : List Int) (a2 : Int) (a3 : Int) (w : World) (w0 : IsRows 3 w a0 len0 cap0 z0) (w1 : IsRow .i64 w a1 len1 cap1 z1) (w2 : (Lit.int .i64 a2).wf = true) (w3 : (Lit.int .i64 a3).wf = true) :
    Calls Try.prog 14 #[.slice a0 len0 cap0, .slice a1 len1 cap1, .int .i64 a2, .int .i64 a3] w fun e w' => e = .returned (.bool true) ∧ Below w.heap.size w w' := by
  obtain ⟨y0, hl0, hL0, ⟨hm0, hM0⟩⟩ := ss_of_rows w0
  subst hl0
  clear w0
  unfold maxLen at hM0
  obtain ⟨y1, hl1, hL1, ⟨hm1, hM1⟩, hW1⟩ := ls_of_row w1
  subst hl1
  clear w1 hW1
  unfold maxLen at hM1
  clear w2
  have hmost := Lib.hid (wf_most w3)
  clear w3
  by_cases h1 : y1.length ≤ 1048576
  case' neg =>
    have hd1 : decide (1048576 < (y1.length : Int)) = true := by simp; omega
    go_enter Try.func14, Try.ntmps14
    go_wp2
    go_ret
    exact ⟨rfl, Below.refl _ _⟩
  have hd1 : decide (1048576 < (y1.length : Int)) = false := by simp; omega
  by_cases h0 : y0.length ≤ 1048576
  case' neg =>
    go_enter Try.func14, Try.ntmps14
    go_wp2_with (go_at_call 35; refine (szS_big _ _ _ _ (by omega) (by omega)).mono ?_; rintro e w' ⟨rfl, rfl⟩)
    go_ret
    exact ⟨rfl, Below.refl _ _⟩
  have hd0 : decide (1048576 - (y0.length : Int) < 0) = false := by simp; omega
  go_enter Try.func14, Try.ntmps14
  go_wp2_with fail
  refine (szS_any _ _ _ _ h0).mono ?_
  rintro e w' ⟨rfl, rfl⟩
  have HZ : (dbL y0 y1 a2 a3).length ≤ 1048576 := Nat.le_trans (dbL_len y0 y1 a2 a3) (by omega)
  go_wp2_with fail
  refine (toS_any _ _ y0 _ hL0 h0).mono ?_
  rintro e w1 ⟨g1, hg1, rfl, hX1, k1, hl_k1⟩
  have c1 : Keep w w1 := Keep.trans (Keep.refl w) k1
  go_wp2_with fail
  refine (toI_lt _ _ y1 _ (hL1.keep c1) h1).mono ?_
  rintro e v1 ⟨f1, hf1, hlf1, rfl, hV1, j1⟩
  have d1 : Keep w v1 := Keep.trans c1 j1
  have hX1' := hX1.keep j1
  go_wp2_with fail
  refine (db_specF _ _ y0 _ _ y1 a2 a3 _ hX1'.ss h0 hV1.ls h1 hmost.out).mono ?_
  rintro e w2 ⟨p2, q2, rfl, hF2, k2⟩
  have c2 : Keep w w2 := Keep.trans d1 k2
  have s2 := c2.size
  clear hX1 hX1' hV1
  go_wp2_with fail
  refine (toS_any _ _ y0 _ (hL0.keep c2) h0).mono ?_
  rintro e w3 ⟨g3, hg3, rfl, hW3, k3, hl_k3⟩
  have c3 : Keep w w3 := Keep.trans c2 k3
  have L3 := hF2.ls.keep k3
  have lo3 : Lo g3 p2 _ := hF2.ls.lo.mono hg3
  go_wp2_with fail
  refine (toI_lt _ _ y1 _ (hL1.keep c3) h1).mono ?_
  rintro e v3 ⟨f3, hf3, hlf3, rfl, hV3, j3⟩
  have d3 : Keep w v3 := Keep.trans c3 j3
  have M3 := L3.keep j3
  have X3 := hW3.keep j3
  have sj3 := j3.size
  have lof : Lo f3 p2 _ := hF2.ls.lo.mono (Nat.le_trans k3.size hf3)
  clear hW3 L3
  go_wp2_with fail
  refine (db_implF _ _ y0 _ _ y1 a2 a3 _ X3.ss h0 hV3.ls h1).mono ?_
  rintro e w4 ⟨p4, q4, rfl, hF4, k4⟩
  have c4 : Keep w w4 := Keep.trans d3 k4
  have L4 := M3.keep k4
  go_wp2_with fail
  refine (eqI_same _ _ _ _ _ _ hF4.ls L4 HZ).mono ?_
  rintro e w5 ⟨rfl, n5, rfl⟩
  have c5 := c4.drewN n5
  have k5 := (Keep.refl w4).drewN n5
  go_wp2_with fail
  refine (toS_any _ _ y0 _ (hL0.keep c5) h0).mono ?_
  rintro e w6 ⟨g6, hg6, rfl, hW6, k6, hl_k6⟩
  have c6 : Keep w w6 := Keep.trans c5 k6
  have k36 := (k4.trans k5).trans k6
  have X6 := X3.keep k36
  go_wp2_with fail
  refine (eqS_same _ _ _ _ y0 _ X6.ss hW6.ss h0).mono ?_
  rintro e w7 ⟨rfl, k7⟩
  have c7 : Keep w w7 := Keep.trans c6 k7
  have k37 := k36.trans k7
  clear X6 hW6
  go_wp2_with fail
  refine (toI_lt _ _ y1 _ (hL1.keep c7) h1).mono ?_
  rintro e v7 ⟨f7, hf7, hlf7, rfl, hV7, j7⟩
  have d7 : Keep w v7 := Keep.trans c7 j7
  have k38 := k37.trans j7
  go_wp2_with fail
  refine (eqI_same _ _ _ _ _ _ (hV3.keep k38).ls hV7.ls h1).mono ?_
  rintro e v8 ⟨rfl, n8, rfl⟩
  have k39 := k38.drewN n8
  have e8 := d7.drewN n8
  have k49 := ((((k5.trans k6).trans k7).trans j7).drewN n8)
  have L7 := L4.keep k49
  have F7 := hF4.keep k49
  have R7 := X3.keep k39
  have V7 := hV3.keep k39
  clear hV7
  go_wp2_with fail
  refine (markS g3 _ y0 _ R7 h0).mono ?_
  rintro e w8 ⟨rfl, ho8, _⟩
  have c8 : Keep w w8 := Keep.trans' e8 ho8 (by omega)
  have L8 := L7.only lo3 ho8
  have sv3 := d3.size
  have F8 : Fresh v3 w8 p4 (dbL y0 y1 a2 a3) := F7.only ho8 (by omega)
  have V8 := ho8.wr V7 (by omega)
  have dk : decide (1 + 3 * (y0.length : Int) + (y1.length : Int) < 0) = false := by simp; omega
  go_wp2_with fail
  refine (markIs f3 _ y1 (1 + 3 * (y0.length : Int)) (by omega) (by omega) _ V8 h1).mono ?_
  rintro e x8 ⟨rfl, po8, _⟩
  have s3 := k3.size
  have e9 : Keep w x8 := Keep.trans' c8 po8 (by omega)
  have M8 := L8.only lof po8
  have G8 : Fresh v3 x8 p4 (dbL y0 y1 a2 a3) := F8.only po8 hlf3
  go_wp2_with fail
  refine (eqI_same _ _ _ _ _ _ G8.ls M8 HZ).mono ?_
  rintro e w9 ⟨rfl, n9, rfl⟩
  have c9 := e9.drewN n9
  have F9 := G8.drewN n9
  have L9 := M8.drewN n9
  go_wp2_with fail
  refine (markF _ _ _ v3 _ F9 HZ).mono ?_
  rintro e w10 ⟨rfl, hb10, ys, hy, hYs, hMk⟩
  have s39 : v3.heap.size ≤ x8.heap.size := Nat.le_trans k39.size (Nat.le_trans ho8.size po8.size)
  have b10 : Below v3.heap.size (x8.drewN n9) w10 := hb10 s39
  have c10 : Keep w w10 := Below.trans c9 (b10.mono sv3)
  have L10 := L9.below (lo3.mono (show g3 ≤ v3.heap.size by omega)) b10
  have dm : decide (1 + ((dbL y0 y1 a2 a3).length : Int) < 0) = false := by simp; omega
  have HH := Lib.hid (heldI p4 q4 ys w10 hYs hMk (by rw [hy]; exact HZ))
  rw [hy] at HH
  go_wp2_with fail
  refine HH.out.mono ?_
  rintro e w' ⟨rfl, rfl⟩
  go_wp2_with fail
  refine (toS_any _ _ y0 _ (hL0.keep c10) h0).mono ?_
  rintro e w11 ⟨g11, hg11, rfl, hW11, k11, hl_k11⟩
  have c11 : Keep w w11 := Keep.trans c10 k11
  go_wp2_with fail
  refine (toI_lt _ _ y1 _ (hL1.keep c11) h1).mono ?_
  rintro e v11 ⟨f11, hf11, hlf11, rfl, hV11, j11⟩
  have d11 : Keep w v11 := Keep.trans c11 j11
  go_wp2_with fail
  refine (db_implF _ _ y0 _ _ y1 a2 a3 _ (hW11.keep j11).ss h0 hV11.ls h1).mono ?_
  rintro e w12 ⟨p12, q12, rfl, hF12, k12⟩
  have c12 : Keep w w12 := Keep.trans d11 k12
  have L12 := ((L10.keep k11).keep j11).keep k12
  have Y12 := ((hYs.keep k11).keep j11).keep k12
  go_wp2_with fail
  refine (eqI_same _ _ _ _ _ _ hF12.ls L12 HZ).mono ?_
  rintro e w13 ⟨rfl, n13, rfl⟩
  have c13 := c12.drewN n13
  have HH2 := Lib.hid (heldI p4 q4 ys (w12.drewN n13) (Y12.drewN n13) hMk (by rw [hy]; exact HZ))
  rw [hy] at HH2
  go_wp2_with fail
  refine HH2.out.mono ?_
  rintro e w' ⟨rfl, rfl⟩
  go_wp2
  go_ret
  exact ⟨rfl, c13⟩
end Go.Proofs.Ytaghgapkjdkkfab
