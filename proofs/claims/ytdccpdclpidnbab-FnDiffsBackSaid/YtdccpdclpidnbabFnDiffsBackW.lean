/- P127: differences have a direction. -/
import Derived.Test.YtdccpdclpidnbabDrNo
import Derived.Test.YtdccpdclpidnbabTrD
import Derived.Test.YtdccpdclpidnbabLw
import Derived.Test.YtdccpdclpidnbabFr
import Derived.LoopTactic
import Derived.IntWalk
namespace Go.Proofs.Ytdccpdclpidnbab
open Go.RowKit
set_option linter.unusedVariables false

set_option maxRecDepth 100000 in
set_option maxHeartbeats 6400000 in
theorem walk_FnDiffsBack (a0 : Option Addr) (len0 cap0 : Nat) (z0 : List Int) (w : World) (w0 : IsRow .u8 w a0 len0 cap0 z0) :
    Calls Try.prog 5 #[.slice a0 len0 cap0] w fun e w' => e = .returned (.bool true) ∧ Below w.heap.size w w' := by
  have ha := code_of_row w0
  obtain ⟨hl0, hm0⟩ := ha.1
  unfold maxLen at hm0
  clear w0
  by_cases h : len0 ≤ 1048576
  case' neg =>
    have hd : decide (1048576 < (len0 : Int)) = true := by simp; omega
    go_enter Try.func5, Try.ntmps5
    go_wp2
    go_ret
    exact ⟨rfl, Below.refl _ _⟩
  have hd : decide (1048576 < (len0 : Int)) = false := by simp; omega
  go_enter Try.func5, Try.ntmps5
  go_wp2_with fail
  refine (drawDiffsOf a0 len0 cap0 _ ha).mono ?_
  rintro e w1 ⟨a, c, zs, rfl, hl13, hcap, hB, hL1, k1⟩
  have HBt := Lib.hid hB
  clear ha hB
  go_wp2_with fail
  refine (df_impl a c zs _ hL1 (by omega)).mono ?_
  rintro e w2 ⟨p, q, rfl, hpq, hF2, k2⟩
  go_wp2_with fail
  refine (df_spec a c zs _ (hL1.keep k2) (by omega)).mono ?_
  rintro e w3 ⟨p3, q3, rfl, hpq3, hF3, k3⟩
  have kk : Keep w w3 := (k1.trans k2).trans k3
  have hL := (hL1.keep k2).keep k3
  have hO := hF2.ls.keep k3
  have hW := hF3.ls
  clear hF2 hF3 hL1 hpq3
  rcases Bool.eq_false_or_eq_true (dfB zs) with hs | hs
  case' inr =>
    have hlen : (dfL zs).length ≤ 13 := by have := dfL_len zs; omega
    generalize dfL zs = L at *
    rw [hs]
    clear hs
    go_wp2_with fail
    refine (sI_eq p p3 q q3 L _ hO hW (by omega)).mono ?_
    rintro e w5 ⟨rfl, k5⟩
    go_wp2_with fail
    refine (sI_eq p p3 q q3 L _ (hO.keep k5) (hW.keep k5) (by omega)).mono ?_
    rintro e w7 ⟨rfl, k7⟩
    go_wp2
    go_ret
    exact ⟨rfl, (kk.trans k5).trans k7⟩
  have hdl := dfL_len zs
  obtain ⟨hq, h2, _⟩ := dfB_facts hs
  rw [dfL_yes hs] at *
  obtain ⟨m, hm⟩ : ∃ m, zs.length - 1 = m := ⟨_, rfl⟩
  have me : (zs.length : Int) - 1 = (m : Int) := by omega
  have mw : IntKind.i64.wrap ((zs.length : Int) - 1) = (m : Int) := by rw [me]; exact IntWalk.i64_in _ ⟨by omega, by omega⟩
  have HLm : Hid ((dfl zs).length = m) := Lib.hid (by rw [dfl_len, hm])
  have hlm : (((dfl zs).length : Int) == (m : Int)) = true := by have := HLm.out; exact beq_iff_eq.2 (by omega)
  have hlm2 : ((dfl zs).length == m) = true := by have := HLm.out; exact beq_iff_eq.2 (by omega)
  have HBk := Lib.hid (df_back hs)
  have HAd := Lib.hid (df_added hs)
  have HBd := Lib.hid (dfl_bd hs)
  have HRev := Lib.hid (back_any a c zs w3 hL (by omega))
  have HAdd := Lib.hid (fun W (k : Keep w3 W) => added_any a c zs W (hL.keep k) HBt.out (by omega))
  have HD1 := Lib.hid (fun W g' c' (h : Ls W g' zs.reverse) => df_impl g' c' zs.reverse W h (by rw [List.length_reverse]; omega))
  rw [List.length_reverse] at HD1
  rw [dfL_yes HBk.out.1] at HD1
  rw [HBk.out.1] at HD1
  have HD2 := Lib.hid (fun W g' c' (h : Ls W g' (zs.map add1)) => df_impl g' c' (zs.map add1) W h (by rw [List.length_map]; omega))
  rw [List.length_map] at HD2
  have HL2 : Hid (dfB (zs.map add1) = true → dfL (zs.map add1) = dfl zs) := Lib.hid (fun h => by rw [dfL_yes h, HAd.out])
  have HLx : Hid ((dfl zs.reverse).length = (dfl zs).length) := Lib.hid HBk.out.2.1
  have HGx := Lib.hid HBk.out.2.2
  have HRl : Hid (zs.reverse.length = zs.length) := Lib.hid List.length_reverse
  have HMl : Hid ((zs.map add1).length = zs.length) := Lib.hid (List.length_map _)
  have hl2 := dfL_len (zs.map add1)
  rw [hs]
  clear hs hq HBk
  generalize dfL (zs.map add1) = Y at *
  generalize dfB (zs.map add1) = yb at *
  generalize dfl zs.reverse = X at *
  generalize dfl zs = L at *
  go_wp2_with fail
  refine (sI_eq p p3 q q3 L _ hO hW (by omega)).mono ?_
  rintro e w4 ⟨rfl, k5⟩
  have L4 := Lib.hid (hL.keep k5)
  have O4 := Lib.hid (hO.keep k5)
  have W4 := Lib.hid (hW.keep k5)
  have K4 : Keep w w4 := kk.trans k5
  go_wp2_with fail
  refine (back_any a c zs w4 L4.out (by omega)).mono ?_
  rintro e w5 ⟨g5, c5, rfl, hc5, hW5, hg5, hl5, k6⟩
  rw [HRl.out]
  go_wp2_with fail
  refine (HD1.out _ _ c5 hW5.ls).mono ?_
  rintro e w6 ⟨x6, c6, rfl, hc6, hF6, k7⟩
  go_wp2_with fail
  refine (added_any a c zs _ ((L4.out.keep k6).keep k7) HBt.out (by omega)).mono ?_
  rintro e w7 ⟨g7, c7, rfl, hc7, hW7, hg7, hl7, k8⟩
  rw [HMl.out]
  go_wp2_with fail
  refine (HD2.out _ _ c7 hW7.ls).mono ?_
  rintro e w8 ⟨x8, c8, rfl, hc8, hF8, k9⟩
  have O8 := Lib.hid ((((O4.out.keep k6).keep k7).keep k8).keep k9)
  have X8 := Lib.hid ((hF6.ls.keep k8).keep k9)
  have Y8 := Lib.hid hF8.ls
  have K8 := Lib.hid ((((K4.trans k6).trans k7).trans k8).trans k9)
  have HLxe := HLx.out
  clear hL hO hW k1 k2 k3 k5 kk hF6 hF8 hW5 hW7 HD1 HD2 HRev HAdd L4 O4 W4 K4 k6 k7 k8 k9 hg5 hl5 hg7 hl7 hlm hlm2 me mw
  have hXL : X.length ≤ 13 := by omega
  have hXL2 : L.length ≤ X.length := by omega
  have hXL3 : X.length ≤ L.length := by omega
  clear HLxe
  go_wp2_with fail
  go_loopw [12] (fun i wr => ∃ k : Nat, k ≤ L.length ∧ i = .int .i64 k ∧ Keep w8 wr) (fun i _ => L.length - (intOf i).toNat)
  case atStart => exact ⟨0, by omega, rfl, Keep.refl _⟩
  case round =>
    obtain ⟨k, hk, rfl, hKr⟩ := hrel
    have k0 : (0 : Int) ≤ (k : Int) := by omega
    by_cases hlt : k < L.length
    · obtain ⟨b2, off2, rfl, hb2, c2⟩ := (O8.out.keep hKr).at_ hlt
      obtain ⟨j, hj⟩ : ∃ j, L.length - 1 - k = j := ⟨_, rfl⟩
      obtain ⟨b3, off3, rfl, hb3, c3⟩ := (X8.out.keep hKr).at_ (show j < X.length by omega)
      have hG := HGx.out k hlt
      have hB := HBd.out _ (getD_mem hlt)
      rw [hj] at hG
      obtain ⟨lx, hlx⟩ : ∃ lx, X.length - 1 = lx := ⟨_, rfl⟩
      have xe : (X.length : Int) - 1 = (lx : Int) := by omega
      have xw : IntKind.i64.wrap ((X.length : Int) - 1) = (lx : Int) := by rw [xe]; exact IntWalk.i64_in _ ⟨by omega, by omega⟩
      have je : (lx : Int) - (k : Int) = (j : Int) := by omega
      have jw : IntKind.i64.wrap ((lx : Int) - (k : Int)) = (j : Int) := by rw [je]; exact IntWalk.i64_in _ ⟨by omega, by omega⟩
      have j0 : (0 : Int) ≤ (j : Int) := by omega
      have jz : (j : Int) < (X.length : Int) := by omega
      have kL : (k : Int) < (L.length : Int) := by omega
      have kX : (k : Int) < (X.length : Int) := by omega
      have dL : decide (k < L.length) = true := decide_eq_true hlt
      have dX : decide (k < X.length) = true := decide_eq_true (by omega)
      clear hj hlx
      generalize L.getD k 0 = y at *
      generalize X.getD j 0 = x at *
      rcases hG with ⟨q1, q2⟩ | ⟨q1, q2⟩
      · subst q1; subst q2
        go_wp2_with fail
        go_roundw
        case rel => exact ⟨k + 1, by omega, by go_num, hKr⟩
        case measure => simp [intOf]; omega
      · have y9 : (y == -9999) = false := beq_eq_false_iff_ne.2 q1
        have y9' : (y != -9999) = true := bne_iff_ne.2 q1
        have sw : IntKind.i64.wrap (0 - y) = 0 - y := IntWalk.i64_in _ ⟨by omega, by omega⟩
        have sw2 : IntKind.i64.wrap (-y) = -y := IntWalk.i64_in _ ⟨by omega, by omega⟩
        have e0 : (0 : Int) - y = -y := by omega
        rw [e0] at q2
        subst q2
        go_wp2_with fail
        go_roundw
        case rel => exact ⟨k + 1, by omega, by go_num, hKr⟩
        case measure => simp [intOf]; omega
    · obtain rfl : k = L.length := by omega
      have eX : ((X.length : Int) == (L.length : Int)) = true := beq_iff_eq.2 (by omega)
      have eX' : (X.length == L.length) = true := beq_iff_eq.2 (by omega)
      have dL : decide (L.length < L.length) = false := decide_eq_false (by omega)
      rcases Bool.eq_false_or_eq_true yb with hy | hy
      · have hYL := HL2.out hy
        rw [hy]
        rw [hYL] at Y8 ⊢
        clear hy hYL
        go_wp2_with fail
        refine (sI_eq x8 p c8 q L _ (Y8.out.keep hKr) (O8.out.keep hKr) (by omega)).mono ?_
        rintro e w9 ⟨rfl, k10⟩
        go_wp2
        go_ret
        exact ⟨rfl, (K8.out.trans hKr).trans k10⟩
      · rw [hy]
        clear hy
        go_wp2
        go_ret
        exact ⟨rfl, K8.out.trans hKr⟩
end Go.Proofs.Ytdccpdclpidnbab
