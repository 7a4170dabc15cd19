/- P105: a rank counts lesser values: the value stands at its place in the sorted values. -/
import Derived.Test.YtdccpdclpidnbaaDrNo
import Derived.Test.YtdccpdclpidnbaaMw
import Derived.Test.YtdccpdclpidnbaaSo
import Derived.Test.YtdccpdclpidnbaaFr
import Derived.LoopTactic
import Derived.IntWalk
namespace Go.Proofs.Ytdccpdclpidnbaa
open Go.RowKit
set_option linter.unusedVariables false

set_option maxRecDepth 100000 in
set_option maxHeartbeats 6400000 in
theorem walk_FnRank (a0 : Option Addr) (len0 cap0 : Nat) (z0 : List Int) (w : World) (w0 : IsRow .u8 w a0 len0 cap0 z0) :
    Calls Try.prog 9 #[.slice a0 len0 cap0] w fun e w' => e = .returned (.bool true) ∧ Below w.heap.size w w' := by
  have ha := code_of_row w0
  obtain ⟨hl0, hm0⟩ := ha.1
  unfold maxLen at hm0
  clear w0
  by_cases h : len0 ≤ 1048576
  case' neg =>
    have hd : decide (1048576 < (len0 : Int)) = true := by simp; omega
    go_enter Try.func9, Try.ntmps9
    go_wp2
    go_ret
    exact ⟨rfl, Below.refl _ _⟩
  have hd : decide (1048576 < (len0 : Int)) = false := by simp; omega
  go_enter Try.func9, Try.ntmps9
  go_wp2_with fail
  refine (drawRankOf a0 len0 cap0 _ ha).mono ?_
  rintro e w1 ⟨a, c, zs, dy, rfl, hl13, hcap, hB, hL1, ⟨g0, g1⟩, k1⟩
  have HB := Lib.hid hB
  clear ha hB
  go_wp2_with fail
  refine (rk_impl a c zs dy _ hL1 (by omega)).mono ?_
  rintro e w2 ⟨rfl, k2⟩
  go_wp2_with fail
  refine (rk_spec a c zs dy _ (hL1.keep k2) (by omega)).mono ?_
  rintro e w3 ⟨rfl, k3⟩
  have K3 : Keep w w3 := (k1.trans k2).trans k3
  have hL := (hL1.keep k2).keep k3
  clear hL1 k1 k2 k3
  rcases Bool.eq_false_or_eq_true (rkB zs dy) with hs | hs
  case' inr =>
    rw [rkV_no hs]
    go_wp2
    go_ret
    exact ⟨rfl, K3⟩
  rw [rkV_yes hs]
  have HP := Lib.hid (rk_place hs)
  obtain ⟨_, ⟨d0, d1⟩, _⟩ := rkB_facts hs
  have hsl := soL_len zs
  have HSo := Lib.hid (so_impl a c zs w3 hL (by omega))
  clear hs
  obtain ⟨n, rfl⟩ := Int.eq_ofNat_of_zero_le d0
  rw [show ((n : Nat) : Int).toNat = n by omega] at HP ⊢
  have hn : n < zs.length := by omega
  obtain ⟨x, hx⟩ : ∃ x, zs.getD n 0 = x := ⟨_, rfl⟩
  have HX := Lib.hid hx
  rw [hx] at HP ⊢
  clear hx
  obtain ⟨p1, p2, p3⟩ := HP.out
  clear HP
  generalize cLt (knl zs) x = r at *
  have P2 := Lib.hid p2
  have P3 := Lib.hid p3
  clear p2 p3
  go_wp2_with fail
  refine HSo.out.mono ?_
  rintro e w4 ⟨x4, c4, rfl, hc4, hF4, k4⟩
  have K4 := K3.trans k4
  obtain ⟨bz, oz, rfl, hbz, cz⟩ := (hL.keep k4).at_ hn
  rw [HX.out] at cz
  have p2 := P2.out
  have p3 := P3.out
  clear P2 P3
  obtain ⟨bs, os, rfl, hbs, hcs⟩ := hF4.ls.all (by omega)
  have cs := hcs r p1
  rw [p2] at cs
  have r0 : (0 : Int) ≤ (r : Int) := by omega
  have r1 : (r : Int) < ((soL zs).length : Int) := by omega
  have nz : (n : Int) < (zs.length : Int) := by omega
  by_cases hr : r = 0
  · have hq0 : ((r : Int) == 0) = true := beq_iff_eq.2 (by omega)
    clear hcs p2 p3 hF4 hr
    generalize (soL zs).length = m at *
    have dr : decide (r < m) = true := decide_eq_true p1
    go_wp2_with fail
    go_quiet (fail)
    go_wp2
    go_ret
    exact ⟨rfl, K4.drewN _⟩
  · obtain ⟨q, hq⟩ : ∃ q, r - 1 = q := ⟨_, rfl⟩
    have cq := hcs q (by omega)
    have hy := p3 (by omega)
    rw [hq] at hy
    have hq0 : ((r : Int) == 0) = false := beq_eq_false_iff_ne.2 (by omega)
    have qe : (r : Int) - 1 = (q : Int) := by omega
    have qw : IntKind.i64.wrap ((r : Int) - 1) = (q : Int) := by rw [qe]; exact IntWalk.i64_in _ ⟨by omega, by omega⟩
    have q0 : (0 : Int) ≤ (q : Int) := by omega
    have q2 : (q : Int) < ((soL zs).length : Int) := by omega
    clear hcs p2 p3 hF4 hq qe
    generalize (soL zs).getD q 0 = y at *
    generalize soL zs = S at *
    have dy' : decide (y < x) = true := decide_eq_true hy
    have dr : decide (r < S.length) = true := decide_eq_true p1
    go_wp2_with fail
    go_quiet (fail)
    go_wp2
    go_ret
    exact ⟨rfl, K4.drewN _⟩
end Go.Proofs.Ytdccpdclpidnbaa
