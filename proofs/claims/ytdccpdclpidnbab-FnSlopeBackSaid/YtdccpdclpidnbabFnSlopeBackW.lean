/- P132: a slope has a direction. -/
import Derived.Test.YtdccpdclpidnbabDrNo
import Derived.Test.YtdccpdclpidnbabTrS
import Derived.Test.YtdccpdclpidnbabLw
import Derived.Test.YtdccpdclpidnbabFr
import Derived.LoopTactic
import Derived.IntWalk
namespace Go.Proofs.Ytdccpdclpidnbab
open Go.RowKit
set_option linter.unusedVariables false

set_option maxRecDepth 100000 in
set_option maxHeartbeats 6400000 in
theorem walk_FnSlopeBack (a0 : Option Addr) (len0 cap0 : Nat) (z0 : List Int) (w : World) (w0 : IsRow .u8 w a0 len0 cap0 z0) :
    Calls Try.prog 10 #[.slice a0 len0 cap0] w fun e w' => e = .returned (.bool true) ∧ Below w.heap.size w w' := by
  have ha := code_of_row w0
  obtain ⟨hl0, hm0⟩ := ha.1
  unfold maxLen at hm0
  clear w0
  by_cases h : len0 ≤ 1048576
  case' neg =>
    have hd : decide (1048576 < (len0 : Int)) = true := by simp; omega
    go_enter Try.func10, Try.ntmps10
    go_wp2
    go_ret
    exact ⟨rfl, Below.refl _ _⟩
  have hd : decide (1048576 < (len0 : Int)) = false := by simp; omega
  go_enter Try.func10, Try.ntmps10
  go_wp2_with fail
  refine (drawSlopeOf a0 len0 cap0 _ ha).mono ?_
  rintro e w1 ⟨a, c, zs, rfl, hl13, hcap, hB, hL1, k1⟩
  have HBt := Lib.hid hB
  clear ha hB
  go_wp2_with fail
  refine (sl_impl a c zs _ hL1 (by omega)).mono ?_
  rintro e w2 ⟨rfl, k2⟩
  go_wp2_with fail
  refine (sl_spec a c zs _ (hL1.keep k2) (by omega)).mono ?_
  rintro e w3 ⟨rfl, k3⟩
  have K3 : Keep w w3 := (k1.trans k2).trans k3
  have hL := (hL1.keep k2).keep k3
  clear hL1 k1 k2 k3
  rcases Bool.eq_false_or_eq_true (slB zs) with hs | hs
  case' inr =>
    generalize slP zs = v at *
    generalize slQ zs = u at *
    rw [hs]
    clear hs
    go_wp2
    go_ret
    exact ⟨rfl, K3⟩
  obtain ⟨gg, p, q, hgg, hp, hq', g1, g2, hu, hd, q1, hgc⟩ := sl_parts hs
  obtain ⟨hsq, h2k, hnk, hdp⟩ := slB_facts hs
  have hl12 := (sq_facts hsq).2
  have HPr := Lib.hid (sl_prod hsq (Nat.le_refl zs.length))
  have pb : -40000000 ≤ p ∧ p ≤ 40000000 := by
    have h9 : p.natAbs ≤ (slU zs zs.length).natAbs := by
      rw [hu, Int.natAbs_mul]
      exact Nat.le_mul_of_pos_right _ (by omega)
    have h8 : slU zs zs.length = slN zs zs.length * slR zs zs.length - slA zs zs.length * slX zs zs.length := rfl
    have := HPr.out
    omega
  have qb : q ≤ 40000 := by
    have h9 : q.natAbs ≤ (slD zs zs.length).natAbs := by
      rw [hd, Int.natAbs_mul]
      exact Nat.le_mul_of_pos_right _ (by omega)
    have h8 : slD zs zs.length = slN zs zs.length * slQQ zs zs.length - slA zs zs.length * slA zs zs.length := rfl
    have := HPr.out
    omega
  have HBk := Lib.hid (sl_back hs)
  have HAd := Lib.hid (fun h2 : slB (zs.map add1) = true => sl_added hs h2)
  have HRev := Lib.hid (back_any a c zs w3 hL (by omega))
  have HAdd := Lib.hid (fun W (k : Keep w3 W) => added_any a c zs W (hL.keep k) HBt.out (by omega))
  have HS1 := Lib.hid (fun W g' c' (h : Ls W g' zs.reverse) => sl_impl g' c' zs.reverse W h (by rw [List.length_reverse]; omega))
  rw [HBk.out.1, HBk.out.2.1, HBk.out.2.2] at HS1
  have HS2 := Lib.hid (fun W g' c' (h : Ls W g' (zs.map add1)) => sl_impl g' c' (zs.map add1) W h (by rw [List.length_map]; omega))
  rw [hp, hq'] at HS1 HAd ⊢
  rw [hs]
  clear hgg hp hq' g1 g2 hu hd hgc hsq h2k hnk hdp HPr hs HBk
  have sw : IntKind.i64.wrap (0 - p) = 0 - p := IntWalk.i64_in _ ⟨by omega, by omega⟩
  generalize zs.reverse = Z at *
  generalize zs.map add1 = Y at *
  go_wp2_with fail
  refine HRev.out.mono ?_
  rintro e w4 ⟨g4, c4, rfl, hc4, hW4, hg4, hl4, k4⟩
  go_wp2_with fail
  refine (HS1.out _ _ c4 hW4.ls).mono ?_
  rintro e w5 ⟨rfl, k5⟩
  go_wp2_with fail
  refine (HAdd.out _ (k4.trans k5)).mono ?_
  rintro e w6 ⟨g6, c6, rfl, hc6, hW6, hg6, hl6, k6⟩
  go_wp2_with fail
  refine (HS2.out _ _ c6 hW6.ls).mono ?_
  rintro e w7 ⟨rfl, k7⟩
  have K7 := (((K3.trans k4).trans k5).trans k6).trans k7
  rcases Bool.eq_false_or_eq_true (slB Y) with hy | hy
  · obtain ⟨v1, v2⟩ := HAd.out hy
    rw [hy, v1, v2]
    go_wp2
    go_ret
    exact ⟨rfl, K7⟩
  · generalize slP Y = y1 at *
    generalize slQ Y = y2 at *
    rw [hy]
    go_wp2
    go_ret
    exact ⟨rfl, K7⟩
end Go.Proofs.Ytdccpdclpidnbab
