/- P125: differences add up. -/
import Derived.Test.YtdccpdclpidnbabDrNo
import Derived.Test.YtdccpdclpidnbabTrD
import Derived.Test.YtdccpdclpidnbabLw
import Derived.Test.YtdccpdclpidnbabSu
import Derived.Test.YtdccpdclpidnbabFr
import Derived.LoopTactic
import Derived.IntWalk
namespace Go.Proofs.Ytdccpdclpidnbab
open Go.RowKit
set_option linter.unusedVariables false

set_option maxRecDepth 100000 in
set_option maxHeartbeats 6400000 in
theorem walk_FnDiffs (a0 : Option Addr) (len0 cap0 : Nat) (z0 : List Int) (w : World) (w0 : IsRow .u8 w a0 len0 cap0 z0) :
    Calls Try.prog 3 #[.slice a0 len0 cap0] w fun e w' => e = .returned (.bool true) ∧ Below w.heap.size w w' := by
  have ha := code_of_row w0
  obtain ⟨hl0, hm0⟩ := ha.1
  unfold maxLen at hm0
  clear w0
  by_cases h : len0 ≤ 1048576
  case' neg =>
    have hd : decide (1048576 < (len0 : Int)) = true := by simp; omega
    go_enter Try.func3, Try.ntmps3
    go_wp2
    go_ret
    exact ⟨rfl, Below.refl _ _⟩
  have hd : decide (1048576 < (len0 : Int)) = false := by simp; omega
  go_enter Try.func3, Try.ntmps3
  go_wp2_with fail
  refine (drawDiffsOf a0 len0 cap0 _ ha).mono ?_
  rintro e w1 ⟨a, c, zs, rfl, hl13, hcap, hB, hL1, k1⟩
  have HBt := Lib.hid hB
  clear ha hB
  go_wp2_with fail
  refine (df_impl a c zs _ hL1 (by omega)).mono ?_
  rintro e w2 ⟨p, q, rfl, hpq, hF2, k2⟩
  go_wp2_with fail
  refine (df_spec a c zs _ (hL1.keep k2) (by omega)).mono ?_
  rintro e w3 ⟨p3, q3, rfl, hpq3, hF3, k3⟩
  have kk : Keep w w3 := (k1.trans k2).trans k3
  have hL := (hL1.keep k2).keep k3
  have hO := hF2.ls.keep k3
  have hW := hF3.ls
  clear hF2 hF3 hL1 hpq3
  rcases Bool.eq_false_or_eq_true (dfB zs) with hs | hs
  case' inr =>
    have hlen : (dfL zs).length ≤ 13 := by have := dfL_len zs; omega
    generalize dfL zs = L at *
    rw [hs]
    clear hs
    go_wp2_with fail
    refine (sI_eq p p3 q q3 L _ hO hW (by omega)).mono ?_
    rintro e w5 ⟨rfl, k5⟩
    go_wp2_with fail
    refine (sI_eq p p3 q q3 L _ (hO.keep k5) (hW.keep k5) (by omega)).mono ?_
    rintro e w7 ⟨rfl, k7⟩
    go_wp2
    go_ret
    exact ⟨rfl, (kk.trans k5).trans k7⟩
  have hdl := dfL_len zs
  obtain ⟨hq, h2, _⟩ := dfB_facts hs
  rw [dfL_yes hs] at *
  obtain ⟨m, hm⟩ : ∃ m, zs.length - 1 = m := ⟨_, rfl⟩
  have me : (zs.length : Int) - 1 = (m : Int) := by omega
  have mw : IntKind.i64.wrap ((zs.length : Int) - 1) = (m : Int) := by rw [me]; exact IntWalk.i64_in _ ⟨by omega, by omega⟩
  have HLm : Hid ((dfl zs).length = m) := Lib.hid (by rw [dfl_len, hm])
  have hlm : (((dfl zs).length : Int) == (m : Int)) = true := by have := HLm.out; exact beq_iff_eq.2 (by omega)
  have hlm2 : ((dfl zs).length == m) = true := by have := HLm.out; exact beq_iff_eq.2 (by omega)
  have HK := Lib.hid (fun W (k : Keep w3 W) => sk_spec a c zs W (hL.keep k) (by omega))
  have HSum := Lib.hid (fun h : ¬ knN zs zs.length < zs.length => df_sum (sk_all h) m (by omega))
  have HBd := Lib.hid (dfl_bd hs)
  have hskb := knN_le zs zs.length
  have HAll := Lib.hid (fun (j : Nat) (hj : j < zs.length) => sq_at hq hj)
  rw [sk_yes hq] at HK
  rw [hs]
  clear hs hq
  have hTk : (dfl zs).take m = dfl zs := List.take_of_length_le (by rw [HLm.out]; exact Nat.le_refl _)
  rw [hTk] at HSum
  clear hTk
  generalize dfl zs = L at *
  go_wp2_with fail
  refine (sI_eq p p3 q q3 L _ hO hW (by omega)).mono ?_
  rintro e w4 ⟨rfl, k5⟩
  go_wp2_with fail
  refine (HK.out _ k5).mono ?_
  rintro e w5 ⟨rfl, rfl⟩
  have L4 := hL.keep k5
  have O4 := hO.keep k5
  have W4 := hW.keep k5
  have K4 : Keep w w4 := kk.trans k5
  by_cases hlt : knN zs zs.length < zs.length
  · have d : decide ((knN zs zs.length : Int) < (zs.length : Int)) = true := decide_eq_true (by omega)
    have d' : decide (knN zs zs.length < zs.length) = true := decide_eq_true hlt
    clear hL hO hW k1 k2 k3 k5 kk HK
    go_wp2_with fail
    refine (sI_eq p p3 q q3 L _ O4 W4 (by omega)).mono ?_
    rintro e w7 ⟨rfl, k7⟩
    go_wp2
    go_ret
    exact ⟨rfl, K4.trans k7⟩
  · have d : decide ((knN zs zs.length : Int) < (zs.length : Int)) = false := decide_eq_false (by omega)
    have d' : decide (knN zs zs.length < zs.length) = false := decide_eq_false hlt
    have HS := Lib.hid (HSum.out hlt)
    clear hL hO hW k1 k2 k3 k5 kk HK HSum
    generalize knN zs zs.length = kn at *
    obtain ⟨b, off, rfl, hb, hc⟩ := L4.all (by omega)
    have c0 := hc 0 (by omega)
    have c1 := hc m (by omega)
    have y0 := HAll.out 0 (by omega)
    have y1 := HAll.out m (by omega)
    rw [Nat.add_zero] at c0
    clear hc
    have HSm := Lib.hid (fun W (k : Ls W p L) => sum_any p q L W k (fun x hx => by have := HBd.out x hx; omega) (by omega))
    rw [HS.out] at HSm
    generalize zs.getD 0 0 = x at *
    generalize zs.getD m 0 = y at *
    have m0 : (0 : Int) ≤ (m : Int) := by omega
    have mz : (m : Int) < (zs.length : Int) := by omega
    have z0 : (0 : Int) < (zs.length : Int) := by omega
    have z0' : 0 < zs.length := by omega
    have sw : IntKind.i64.wrap (y - x) = y - x := IntWalk.i64_in _ ⟨by omega, by omega⟩
    have mw2 : IntKind.i64.wrap (m : Int) = (m : Int) := IntWalk.i64_in _ ⟨by omega, by omega⟩
    have hlm4 : (L.length = m) = True := eq_true HLm.out
    go_wp2_with fail
    go_quiet ((go_at_call 23; refine Calls.quiet_of_same ((HSm.out _ (O4.drewN _)).mono fun _ _ h => ⟨h.1, h.2.symm⟩)))
    go_wp2
    go_ret
    exact ⟨rfl, K4.drewN _⟩
end Go.Proofs.Ytdccpdclpidnbab
