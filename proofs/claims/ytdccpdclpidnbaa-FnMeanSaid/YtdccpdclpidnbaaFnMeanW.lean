/- P99: a mean is rounded from a sum, and lies between the least and the greatest value. -/
import Derived.Test.YtdccpdclpidnbaaDrNo
import Derived.Test.YtdccpdclpidnbaaMw
import Derived.Test.YtdccpdclpidnbaaLw
import Derived.Test.YtdccpdclpidnbaaSo
import Derived.Test.YtdccpdclpidnbaaFr
import Derived.LoopTactic
import Derived.IntWalk
namespace Go.Proofs.Ytdccpdclpidnbaa
open Go.RowKit
set_option linter.unusedVariables false

set_option maxRecDepth 100000 in
set_option maxHeartbeats 6400000 in
theorem walk_FnMean (a0 : Option Addr) (len0 cap0 : Nat) (z0 : List Int) (w : World) (w0 : IsRow .u8 w a0 len0 cap0 z0) :
    Calls Try.prog 3 #[.slice a0 len0 cap0] w fun e w' => e = .returned (.bool true) ∧ Below w.heap.size w w' := by
  have ha := code_of_row w0
  obtain ⟨hl0, hm0⟩ := ha.1
  unfold maxLen at hm0
  clear w0
  by_cases h : len0 ≤ 1048576
  case' neg =>
    have hd : decide (1048576 < (len0 : Int)) = true := by simp; omega
    go_enter Try.func3, Try.ntmps3
    go_wp2
    go_ret
    exact ⟨rfl, Below.refl _ _⟩
  have hd : decide (1048576 < (len0 : Int)) = false := by simp; omega
  go_enter Try.func3, Try.ntmps3
  go_wp2_with fail
  refine (drawMeanOf a0 len0 cap0 _ ha).mono ?_
  rintro e w1 ⟨a, c, zs, gp, rfl, hl13, hcap, hB, hL1, ⟨g0, g1⟩, k1⟩
  have HB := Lib.hid hB
  clear ha hB
  go_wp2_with fail
  refine (me_impl a c zs gp _ hL1 (by omega)).mono ?_
  rintro e w2 ⟨rfl, k2⟩
  go_wp2_with fail
  refine (me_spec a c zs gp _ (hL1.keep k2) (by omega)).mono ?_
  rintro e w3 ⟨rfl, k3⟩
  have K3 : Keep w w3 := (k1.trans k2).trans k3
  have hL := (hL1.keep k2).keep k3
  clear hL1 k1 k2 k3
  rcases Bool.eq_false_or_eq_true (meB zs gp) with hs | hs
  case' inr =>
    generalize meV zs gp = v at *
    rw [hs]
    clear hs
    go_wp2
    go_ret
    exact ⟨rfl, K3⟩
  have HRo := Lib.hid (me_ro hs)
  have HBt := Lib.hid (me_between hs)
  have hsq := (meB_facts hs).1
  have HSum := Lib.hid (me_sum hsq)
  have hsl := soL_len zs
  have HKn := Lib.hid (known_any a c zs w3 hL (by omega))
  have HSo := Lib.hid (fun W (k : Keep w3 W) => so_impl a c zs W (hL.keep k) (by omega))
  have HBd : Hid (∀ x ∈ knl zs, -12000 ≤ x ∧ x ≤ 12000) := Lib.hid (fun x hx => by have := knl_bd hsq x hx; omega)
  have hkl := knl_le zs
  rw [hs]
  clear hs hsq
  generalize meV zs gp = v at *
  generalize knl zs = L at *
  go_wp2_with fail
  refine HKn.out.mono ?_
  rintro e w4 ⟨g4, c4, rfl, hc4, hW4, hg4, hl4, k4⟩
  clear HKn
  have HWl := Lib.hid hW4.ls
  clear hW4
  go_wp2_with fail
  refine (sum_any _ c4 L _ HWl.out HBd.out (by omega)).mono ?_
  rintro e w5 ⟨rfl, rfl⟩
  obtain ⟨s, hs⟩ : ∃ s, isum L = s := ⟨_, rfl⟩
  rw [hs] at HRo ⊢
  clear hs
  go_wp2_with fail
  refine (ro_impl s (L.length : Int) _).mono ?_
  rintro e w5 ⟨rfl, rfl⟩
  rw [HRo.out.1, HRo.out.2]
  go_wp2_with fail
  refine (HSo.out _ k4).mono ?_
  rintro e w6 ⟨x6, c6, rfl, hc6, hF6, k6⟩
  have K6 := (K3.trans k4).trans k6
  clear HSo
  obtain ⟨b1, b2, b3⟩ := HBt.out
  obtain ⟨bb, oo, rfl, hbb, d1⟩ := hF6.ls.all b3
  have e0 := d1 0 b3
  have e1 := d1 ((soL zs).length - 1) (by omega)
  clear d1 hF6 HBt
  obtain ⟨p, hp⟩ : ∃ p, (soL zs).length = p + 1 := ⟨(soL zs).length - 1, by omega⟩
  rw [hp] at e1 b2 ⊢
  rw [Nat.add_sub_cancel] at e1 b2
  generalize (soL zs).getD 0 0 = y0 at *
  generalize (soL zs).getD p 0 = y1 at *
  have p0 : (0 : Int) ≤ (p : Int) := by omega
  have pw : IntKind.i64.wrap ((p : Int) + 1 - 1) = (p : Int) := by rw [Int.add_sub_cancel]; exact IntWalk.i64_in _ ⟨by omega, by omega⟩
  have p1 : (p : Int) < (p : Int) + 1 := by omega
  have p2 : (0 : Int) < (p : Int) + 1 := by omega
  have q1 : decide (y0 ≤ v) = true := decide_eq_true b1
  have q2 : decide (v ≤ y1) = true := decide_eq_true b2
  have pb : (p : Int) ≤ 12 := by omega
  clear hp
  rw [Nat.add_zero] at e0
  go_wp2_with fail
  go_ret
  exact ⟨rfl, K6⟩
end Go.Proofs.Ytdccpdclpidnbaa
