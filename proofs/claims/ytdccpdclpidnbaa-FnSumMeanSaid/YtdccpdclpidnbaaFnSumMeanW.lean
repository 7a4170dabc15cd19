/- P135: the mean of a sum. -/
import Derived.Test.YtdccpdclpidnbaaSo2
import Derived.Test.YtdccpdclpidnbaaSs
import Derived.Test.YtdccpdclpidnbaaDrNo
import Derived.Test.YtdccpdclpidnbaaMw
import Derived.Test.YtdccpdclpidnbaaSmn
import Derived.Test.YtdccpdclpidnbaaFr
import Derived.LoopTactic
import Derived.Deep.QuietTactic
import Derived.BigQuiet
import Derived.Deep.RegionLaw
import Derived.Deep.RegionWith
import Derived.IntWalk
namespace Go.Proofs.Ytdccpdclpidnbaa
open Go.RowKit
set_option linter.unusedVariables false

set_option maxRecDepth 100000 in
set_option maxHeartbeats 6400000 in
theorem walk_FnSumMean (a0 : Option Addr) (len0 cap0 : Nat) (z0 : List Int) (w : World) (w0 : IsRow .u8 w a0 len0 cap0 z0) :
    Calls Try.prog 15 #[.slice a0 len0 cap0] w fun e w' => e = .returned (.bool true) ∧ Below w.heap.size w w' := by
  have ha := code_of_row w0
  obtain ⟨hl0, hm0⟩ := ha.1
  unfold maxLen at hm0
  clear w0
  by_cases h : len0 ≤ 1048576
  case' neg =>
    have hd : decide (1048576 < (len0 : Int)) = true := by simp; omega
    go_enter Try.func15, Try.ntmps15
    go_wp2
    go_ret
    exact ⟨rfl, Below.refl _ _⟩
  have hd : decide (1048576 < (len0 : Int)) = false := by simp; omega
  go_enter Try.func15, Try.ntmps15
  go_wp2_with fail
  refine (drawSumsOf a0 len0 cap0 _ ha).mono ?_
  rintro e w1 ⟨a, c, zs, rfl, hl13, hcap, hB, hL1, k1⟩
  clear ha hB
  go_wp2_with fail
  refine (su_impl a c zs _ hL1 (by omega)).mono ?_
  rintro e w2 ⟨p, q, rfl, hpq, hF2, k2⟩
  go_wp2_with fail
  refine (su_spec a c zs _ (hL1.keep k2) (by omega)).mono ?_
  rintro e w3 ⟨p3, q3, rfl, hpq3, hF3, k3⟩
  have kk : Keep w w3 := (k1.trans k2).trans k3
  have hL := (hL1.keep k2).keep k3
  have hO := hF2.rr.keep k3
  have hW := hF3.rr
  clear hF2 hF3 hL1 hpq hpq3
  rcases Bool.eq_false_or_eq_true (sqB zs) with hs | hs
  case' inr =>
    have hlen := suL_len zs
    generalize suL zs = L at *
    rw [hs]
    clear hs
    go_wp2_with fail
    refine (sS_eq p p3 q q3 L _ hO hW (by omega)).mono ?_
    rintro e w5 ⟨rfl, k5⟩
    go_wp2_with fail
    refine (sS_eq p p3 q q3 L _ (hO.keep k5) (hW.keep k5) (by omega)).mono ?_
    rintro e w7 ⟨rfl, k7⟩
    go_wp2
    go_ret
    exact ⟨rfl, (kk.trans k5).trans k7⟩
  obtain ⟨hl1, hl12⟩ := (sq_facts hs).2
  have HG : Hid (∀ k, k ≤ zs.length → (suL zs).getD k u0 = su zs k) := Lib.hid (fun k hk => by rw [suL_yes hs]; exact sul_at hk)
  have HLn : Hid ((suL zs).length = zs.length + 1) := Lib.hid (by rw [suL_yes hs, sul_len])
  have HSl : Hid (su zs zs.length = (isum (knl zs), ((knl zs).length : Int))) := Lib.hid su_last
  have HSk : Hid (sk zs = ((knl zs).length : Int)) := Lib.hid (by rw [sk_yes hs, knN_all])
  have HMe : Hid (0 < (knl zs).length → meB zs (zs.length : Int) = true) := Lib.hid (fun h => meB_mk hs h (by omega))
  have hkl : (knl zs).length ≤ zs.length := by unfold knl; exact List.length_filter_le _ _
  rw [hs]
  generalize suL zs = L at *
  have hle : L.length ≤ zs.length + 1 := by have := HLn.out; omega
  have hge : zs.length + 1 ≤ L.length := by have := HLn.out; omega
  clear hs
  go_wp2_with fail
  refine (sS_eq p p3 q q3 L _ hO hW (by omega)).mono ?_
  rintro e w4 ⟨rfl, k5⟩
  have L4 := Lib.hid (hL.keep k5)
  have O4 := Lib.hid (hO.keep k5)
  have W4 := Lib.hid (hW.keep k5)
  have K4 : Keep w w4 := kk.trans k5
  clear hL hO hW k1 k2 k3 k5 kk
  have HCn := Lib.hid (fun W (k : Keep w4 W) => sk_spec a c zs W (L4.out.keep k) (by omega))
  rw [HSk.out] at HCn
  have HSm := Lib.hid (fun W (k : Keep w4 W) => me_impl a c zs (zs.length : Int) W (L4.out.keep k) (by omega))
  have HRo := Lib.hid (fun h => me_ro (HMe.out h))
  have HMt := Lib.hid (fun h => HMe.out h)
  obtain ⟨b, off, rfl, hb, hat⟩ := O4.out.all (by omega)
  obtain ⟨x0, x1⟩ := hat zs.length (by omega)
  rw [HG.out zs.length (Nat.le_refl _), HSl.out] at x0 x1
  unfold uL at x0
  unfold uH at x1
  dsimp only at x0 x1
  clear hat
  generalize isum (knl zs) = s at *
  generalize meV zs (zs.length : Int) = v at *
  generalize meB zs (zs.length : Int) = B at *
  generalize (knl zs).length = n at *
  have mw : IntKind.i64.wrap ((L.length : Int) - 1) = (zs.length : Int) := by rw [show (L.length : Int) - 1 = (zs.length : Int) by omega]; exact IntWalk.i64_in (zs.length : Int) ⟨by omega, by omega⟩
  have m0 : (0 : Int) ≤ (zs.length : Int) := by omega
  have mz : (zs.length : Int) < (L.length : Int) := by omega
  by_cases h0 : n = 0
  · have n0 : ((n : Int) == 0) = true := beq_iff_eq.2 (by omega)
    have n0' : (n == 0) = true := beq_iff_eq.2 h0
    clear h0
    go_wp2_with fail
    refine (HCn.out _ (Keep.refl _)).mono ?_
    rintro e w5 ⟨rfl, rfl⟩
    go_wp2_with fail
    refine (sS_eq _ p3 q q3 L _ O4.out W4.out (by omega)).mono ?_
    rintro e w7 ⟨rfl, k7⟩
    go_wp2
    go_ret
    exact ⟨rfl, K4.trans k7⟩
  · have n0 : ((n : Int) == 0) = false := beq_eq_false_iff_ne.2 (by omega)
    have n0' : (n == 0) = false := beq_eq_false_iff_ne.2 h0
    have hB := HMt.out (by omega)
    have hR := HRo.out (by omega)
    have HSs := Lib.hid (smn_impl s (n : Int))
    rw [hR.1, hR.2] at HSs
    rw [hB] at HSm
    clear h0 hB hR HMt HRo HMe
    go_wp2_with fail
    refine (HCn.out _ (Keep.refl _)).mono ?_
    rintro e w5 ⟨rfl, rfl⟩
    go_wp2_with fail
    refine (HSs.out _).mono ?_
    rintro e w6 ⟨rfl, k6⟩
    go_wp2_with fail
    refine (HSm.out _ k6).mono ?_
    rintro e w7 ⟨rfl, k7⟩
    go_wp2
    go_ret
    exact ⟨rfl, (K4.trans k6).trans k7⟩

end Go.Proofs.Ytdccpdclpidnbaa
