/- P126: a gap has no difference. -/
import Derived.Test.YtdccpdclpidnbabDrNo
import Derived.Test.YtdccpdclpidnbabTrD
import Derived.Test.YtdccpdclpidnbabLw
import Derived.Test.YtdccpdclpidnbabFr
import Derived.LoopTactic
import Derived.IntWalk
namespace Go.Proofs.Ytdccpdclpidnbab
open Go.RowKit
set_option linter.unusedVariables false

set_option maxRecDepth 100000 in
set_option maxHeartbeats 6400000 in
theorem walk_FnDiffsGap (a0 : Option Addr) (len0 cap0 : Nat) (z0 : List Int) (w : World) (w0 : IsRow .u8 w a0 len0 cap0 z0) :
    Calls Try.prog 4 #[.slice a0 len0 cap0] w fun e w' => e = .returned (.bool true) ∧ Below w.heap.size w w' := by
  have ha := code_of_row w0
  obtain ⟨hl0, hm0⟩ := ha.1
  unfold maxLen at hm0
  clear w0
  by_cases h : len0 ≤ 1048576
  case' neg =>
    have hd : decide (1048576 < (len0 : Int)) = true := by simp; omega
    go_enter Try.func4, Try.ntmps4
    go_wp2
    go_ret
    exact ⟨rfl, Below.refl _ _⟩
  have hd : decide (1048576 < (len0 : Int)) = false := by simp; omega
  go_enter Try.func4, Try.ntmps4
  go_wp2_with fail
  refine (drawDiffsOf a0 len0 cap0 _ ha).mono ?_
  rintro e w1 ⟨a, c, zs, rfl, hl13, hcap, hB, hL1, k1⟩
  have HBt := Lib.hid hB
  clear ha hB
  go_wp2_with fail
  refine (df_impl a c zs _ hL1 (by omega)).mono ?_
  rintro e w2 ⟨p, q, rfl, hpq, hF2, k2⟩
  go_wp2_with fail
  refine (df_spec a c zs _ (hL1.keep k2) (by omega)).mono ?_
  rintro e w3 ⟨p3, q3, rfl, hpq3, hF3, k3⟩
  have kk : Keep w w3 := (k1.trans k2).trans k3
  have hL := (hL1.keep k2).keep k3
  have hO := hF2.ls.keep k3
  have hW := hF3.ls
  clear hF2 hF3 hL1 hpq3
  rcases Bool.eq_false_or_eq_true (dfB zs) with hs | hs
  case' inr =>
    have hlen : (dfL zs).length ≤ 13 := by have := dfL_len zs; omega
    generalize dfL zs = L at *
    rw [hs]
    clear hs
    go_wp2_with fail
    refine (sI_eq p p3 q q3 L _ hO hW (by omega)).mono ?_
    rintro e w5 ⟨rfl, k5⟩
    go_wp2_with fail
    refine (sI_eq p p3 q q3 L _ (hO.keep k5) (hW.keep k5) (by omega)).mono ?_
    rintro e w7 ⟨rfl, k7⟩
    go_wp2
    go_ret
    exact ⟨rfl, (kk.trans k5).trans k7⟩
  have hdl := dfL_len zs
  obtain ⟨hq, h2, _⟩ := dfB_facts hs
  rw [dfL_yes hs] at *
  obtain ⟨m, hm⟩ : ∃ m, zs.length - 1 = m := ⟨_, rfl⟩
  have me : (zs.length : Int) - 1 = (m : Int) := by omega
  have mw : IntKind.i64.wrap ((zs.length : Int) - 1) = (m : Int) := by rw [me]; exact IntWalk.i64_in _ ⟨by omega, by omega⟩
  have HLm : Hid ((dfl zs).length = m) := Lib.hid (by rw [dfl_len, hm])
  have hlm : (((dfl zs).length : Int) == (m : Int)) = true := by have := HLm.out; exact beq_iff_eq.2 (by omega)
  have hlm2 : ((dfl zs).length == m) = true := by have := HLm.out; exact beq_iff_eq.2 (by omega)
  have HG : Hid (∀ k, k < m → (dfl zs).getD k 0 = dfv (zs.getD k 0) (zs.getD (k + 1) 0)) := Lib.hid (fun k hk => dfl_at (by omega))
  have HAll := Lib.hid (fun (j : Nat) (hj : j < zs.length) => sq_at hq hj)
  rw [hs]
  clear hs hq
  generalize dfl zs = L at *
  go_wp2_with fail
  refine (sI_eq p p3 q q3 L _ hO hW (by omega)).mono ?_
  rintro e w4 ⟨rfl, k5⟩
  have L4 := Lib.hid (hL.keep k5)
  have O4 := Lib.hid (hO.keep k5)
  have W4 := Lib.hid (hW.keep k5)
  have K4 : Keep w w4 := kk.trans k5
  clear hL hO hW k1 k2 k3 k5 kk
  go_wp2_with fail
  go_loopw [8] (fun i wr => ∃ k : Nat, k ≤ L.length ∧ i = .int .i64 k ∧ Keep w4 wr) (fun i _ => L.length - (intOf i).toNat)
  case atStart => exact ⟨0, by omega, rfl, Keep.refl _⟩
  case round =>
    obtain ⟨k, hk, rfl, hKr⟩ := hrel
    have k0 : (0 : Int) ≤ (k : Int) := by omega
    by_cases hlt : k < L.length
    case' neg =>
      obtain rfl : k = L.length := by omega
      go_wp2
      go_ret
      exact ⟨rfl, K4.trans hKr⟩
    have hlm' := HLm.out
    obtain ⟨b, off, rfl, hb, hc⟩ := (L4.out.keep hKr).all (by omega)
    obtain ⟨b2, off2, rfl, hb2, c2⟩ := (O4.out.keep hKr).at_ hlt
    obtain ⟨j, hj⟩ : ∃ j, k + 1 = j := ⟨_, rfl⟩
    have c0 := hc k (by omega)
    have c1 : wr.cell? ⟨b, off + j, none⟩ = some (.int .i64 (zs.getD (k + 1) 0)) := by rw [← hj]; exact hc (k + 1) (by omega)
    have y0 := HAll.out k (by omega)
    have y1 := HAll.out (k + 1) (by omega)
    rw [HG.out k (by omega)] at c2
    have jw : IntKind.i64.wrap ((k : Int) + 1) = (j : Int) := by rw [show (k : Int) + 1 = (j : Int) by omega]; exact IntWalk.i64_in _ ⟨by omega, by omega⟩
    have j0 : (0 : Int) ≤ (j : Int) := by omega
    have jz : (j : Int) < (zs.length : Int) := by omega
    have kz : (k : Int) < (zs.length : Int) := by omega
    have kL : (k : Int) < (L.length : Int) := by omega
    have HJ := Lib.hid hj
    clear hc hlm' hj
    generalize zs.getD k 0 = x at *
    generalize zs.getD (k + 1) 0 = y at *
    by_cases hx : x = -9999
    · subst hx
      have hv : dfv (-9999) y = -9999 := by rw [dfv, if_pos (.inl rfl)]
      rw [hv] at c2
      clear hv
      go_wp2_with fail
      go_roundw
      case rel => exact ⟨k + 1, by omega, by have := HJ.out; go_num, hKr⟩
      case measure => have := HJ.out; simp [intOf]; omega
    · have hx9 : (x == -9999) = false := beq_eq_false_iff_ne.2 hx
      by_cases hy : y = -9999
      · subst hy
        have hv : dfv x (-9999) = -9999 := by rw [dfv, if_pos (.inr rfl)]
        rw [hv] at c2
        clear hv
        go_wp2_with fail
        go_roundw
        case rel => exact ⟨k + 1, by omega, by have := HJ.out; go_num, hKr⟩
        case measure => have := HJ.out; simp [intOf]; omega
      · have hy9 : (y == -9999) = false := beq_eq_false_iff_ne.2 hy
        have hv : dfv x y = y - x := by rw [dfv, if_neg (by omega)]
        rw [hv] at c2
        have sw : IntKind.i64.wrap (y - x) = y - x := IntWalk.i64_in _ ⟨by omega, by omega⟩
        have nn : ((y - x) != (y - x)) = false := by simp
        clear hv
        go_wp2_with fail
        go_quiet (fail)
        go_wp2
        go_roundw
        case rel => exact ⟨k + 1, by omega, by have := HJ.out; go_num, hKr.drewN _⟩
        case measure => have := HJ.out; simp [intOf]; omega
end Go.Proofs.Ytdccpdclpidnbab
