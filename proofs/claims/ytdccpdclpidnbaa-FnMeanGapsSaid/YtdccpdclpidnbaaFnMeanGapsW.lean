/- P100: a mean is there where there are few gaps. -/
import Derived.Test.YtdccpdclpidnbaaDrNo
import Derived.Test.YtdccpdclpidnbaaMw
import Derived.Test.YtdccpdclpidnbaaFr
import Derived.LoopTactic
import Derived.IntWalk
namespace Go.Proofs.Ytdccpdclpidnbaa
open Go.RowKit
set_option linter.unusedVariables false

set_option maxRecDepth 100000 in
set_option maxHeartbeats 6400000 in
theorem walk_FnMeanGaps (a0 : Option Addr) (len0 cap0 : Nat) (z0 : List Int) (w : World) (w0 : IsRow .u8 w a0 len0 cap0 z0) :
    Calls Try.prog 4 #[.slice a0 len0 cap0] w fun e w' => e = .returned (.bool true) ∧ Below w.heap.size w w' := by
  have ha := code_of_row w0
  obtain ⟨hl0, hm0⟩ := ha.1
  unfold maxLen at hm0
  clear w0
  by_cases h : len0 ≤ 1048576
  case' neg =>
    have hd : decide (1048576 < (len0 : Int)) = true := by simp; omega
    go_enter Try.func4, Try.ntmps4
    go_wp2
    go_ret
    exact ⟨rfl, Below.refl _ _⟩
  have hd : decide (1048576 < (len0 : Int)) = false := by simp; omega
  go_enter Try.func4, Try.ntmps4
  go_wp2_with fail
  refine (drawMeanOf a0 len0 cap0 _ ha).mono ?_
  rintro e w1 ⟨a, c, zs, gp, rfl, hl13, hcap, hB, hL1, ⟨g0, g1⟩, k1⟩
  have HB := Lib.hid hB
  clear ha hB
  go_wp2_with fail
  refine (me_impl a c zs gp _ hL1 (by omega)).mono ?_
  rintro e w2 ⟨rfl, k2⟩
  go_wp2_with fail
  refine (me_spec a c zs gp _ (hL1.keep k2) (by omega)).mono ?_
  rintro e w3 ⟨rfl, k3⟩
  have K3 : Keep w w3 := (k1.trans k2).trans k3
  have hL := (hL1.keep k2).keep k3
  clear hL1 k1 k2 k3
  have HQ := Lib.hid (sqv_spec a c zs w3 hL (by omega))
  have HK := Lib.hid (sk_spec a c zs w3 hL (by omega))
  have HKI := Lib.hid (sk_impl a c zs w3 hL (by omega))
  rcases Bool.eq_false_or_eq_true (sqB zs) with hs | hs
  case' inr =>
    generalize meV zs gp = v at *
    generalize meB zs gp = bb at *
    rw [hs] at HQ
    clear hs
    go_wp2_with fail
    refine HQ.out.mono ?_
    rintro e w5 ⟨rfl, rfl⟩
    go_wp2
    go_ret
    exact ⟨rfl, K3⟩
  rw [hs] at HQ
  rw [sk_len hs] at HK HKI
  have hkl := knl_le zs
  by_cases h0 : (knl zs).length = 0
  · have d0 : (((knl zs).length : Int) == 0) = true := beq_iff_eq.2 (by omega)
    generalize meV zs gp = v at *
    generalize meB zs gp = bb at *
    generalize (knl zs).length = m at *
    clear hs h0
    go_wp2_with fail
    refine HQ.out.mono ?_
    rintro e w5 ⟨rfl, rfl⟩
    go_wp2_with fail
    refine HK.out.mono ?_
    rintro e w5 ⟨rfl, rfl⟩
    go_wp2
    go_ret
    exact ⟨rfl, K3⟩
  have d0 : (((knl zs).length : Int) == 0) = false := beq_eq_false_iff_ne.2 (by omega)
  have hb : meB zs gp = decide ((zs.length : Int) - ((knl zs).length : Int) ≤ gp) := by rw [meB, hs, decide_eq_true (show 0 < (knl zs).length by omega)]; rfl
  generalize meV zs gp = v at *
  rw [hb]
  clear hb
  generalize (knl zs).length = m at *
  clear hs h0
  have hd2 : (decide ((zs.length : Int) - (m : Int) ≤ gp) == decide ((zs.length : Int) - (m : Int) ≤ gp)) = true := beq_self_eq_true _
  go_wp2_with fail
  refine HQ.out.mono ?_
  rintro e w5 ⟨rfl, rfl⟩
  go_wp2_with fail
  refine HK.out.mono ?_
  rintro e w5 ⟨rfl, rfl⟩
  go_wp2_with fail
  refine HKI.out.mono ?_
  rintro e w5 ⟨rfl, rfl⟩
  go_wp2
  go_ret
  exact ⟨rfl, K3⟩
end Go.Proofs.Ytdccpdclpidnbaa
