/- P130: runs have no direction. -/
import Derived.Test.YtdccpdclpidnbabDrNo
import Derived.Test.YtdccpdclpidnbabTrR
import Derived.Test.YtdccpdclpidnbabLw
import Derived.Test.YtdccpdclpidnbabFr
import Derived.LoopTactic
import Derived.IntWalk
namespace Go.Proofs.Ytdccpdclpidnbab
open Go.RowKit
set_option linter.unusedVariables false

set_option maxRecDepth 100000 in
set_option maxHeartbeats 6400000 in
theorem walk_FnRunningBack (a0 : Option Addr) (len0 cap0 : Nat) (z0 : List Int) (w : World) (w0 : IsRow .u8 w a0 len0 cap0 z0) :
    Calls Try.prog 8 #[.slice a0 len0 cap0] w fun e w' => e = .returned (.bool true) ∧ Below w.heap.size w w' := by
  have ha := code_of_row w0
  obtain ⟨hl0, hm0⟩ := ha.1
  unfold maxLen at hm0
  clear w0
  by_cases h : len0 ≤ 1048576
  case' neg =>
    have hd : decide (1048576 < (len0 : Int)) = true := by simp; omega
    go_enter Try.func8, Try.ntmps8
    go_wp2
    go_ret
    exact ⟨rfl, Below.refl _ _⟩
  have hd : decide (1048576 < (len0 : Int)) = false := by simp; omega
  go_enter Try.func8, Try.ntmps8
  go_wp2_with fail
  refine (drawRunningOf a0 len0 cap0 _ ha).mono ?_
  rintro e w1 ⟨a, c, zs, dy, rfl, hl13, hcap, hB, hL1, ⟨g0, g1⟩, k1⟩
  have HBt := Lib.hid hB
  clear ha hB
  go_wp2_with fail
  refine (ru_impl a c zs dy _ hL1 (by omega) hcap).mono ?_
  rintro e w2 ⟨p, q, rfl, hpq, hF2, k2⟩
  go_wp2_with fail
  refine (ru_spec a c zs dy _ (hL1.keep k2) (by omega) hcap).mono ?_
  rintro e w3 ⟨p3, q3, rfl, hpq3, hF3, k3⟩
  have kk : Keep w w3 := (k1.trans k2).trans k3
  have hL := (hL1.keep k2).keep k3
  have hO := hF2.ls.keep k3
  have hW := hF3.ls
  clear hF2 hF3 hL1 hpq3
  rcases Bool.eq_false_or_eq_true (ruB zs dy) with hs | hs
  case' inr =>
    have hlen : (ruL zs dy).length ≤ 13 := by have := ruL_len zs dy; omega
    generalize ruL zs dy = L at *
    rw [hs]
    clear hs
    go_wp2_with fail
    refine (sI_eq p p3 q q3 L _ hO hW (by omega)).mono ?_
    rintro e w5 ⟨rfl, k5⟩
    go_wp2_with fail
    refine (sI_eq p p3 q q3 L _ (hO.keep k5) (hW.keep k5) (by omega)).mono ?_
    rintro e w7 ⟨rfl, k7⟩
    go_wp2
    go_ret
    exact ⟨rfl, (kk.trans k5).trans k7⟩
  have hul := ruL_len zs dy
  obtain ⟨hq, n, rfl, h1, h2⟩ := ruB_facts hs
  have hl12 := (sq_facts hq).2.2
  rw [ruL_yes hs] at *
  have hb2 : ruB zs.reverse (n : Int) = true := by rw [ruB, sq_rev, List.length_reverse]; exact hs
  have HRev := Lib.hid (fun W (h : Ls W a zs) => back_any a c zs W h (by omega))
  have HA := Lib.hid (fun W g' c' (h : Ls W g' zs.reverse) (hc : zs.reverse.length ≤ c') => ru_impl g' c' zs.reverse (n : Int) W h (by rw [List.length_reverse]; omega) hc)
  rw [ruL_yes hb2, hb2, ru_back h2] at HA
  have HBb := Lib.hid (fun W (h : Ls W p (rul zs n)) => back_any p q (rul zs n) W h (by omega))
  have hRl : (rul zs n).reverse.length ≤ 12 := by rw [List.length_reverse]; exact hul
  rw [hs]
  clear hs hq hb2
  generalize zs.reverse = Z at *
  generalize (rul zs n).reverse = R at *
  generalize rul zs n = L at *
  go_wp2_with fail
  refine (sI_eq p p3 q q3 L _ hO hW (by omega)).mono ?_
  rintro e w4 ⟨rfl, k5⟩
  have L4 := Lib.hid (hL.keep k5)
  have O4 := Lib.hid (hO.keep k5)
  have W4 := Lib.hid (hW.keep k5)
  have K4 : Keep w w4 := kk.trans k5
  clear hL hO hW k1 k2 k3 k5 kk
  go_wp2_with fail
  refine (HRev.out _ L4.out).mono ?_
  rintro e w5 ⟨g5, c5, rfl, hc5, hW5, hg5, hl5, k6⟩
  go_wp2_with fail
  refine (HA.out _ _ c5 hW5.ls hc5).mono ?_
  rintro e w6 ⟨x6, c6, rfl, hc6, hF6, k7⟩
  go_wp2_with fail
  refine (HBb.out _ ((O4.out.keep k6).keep k7)).mono ?_
  rintro e w7 ⟨g7, c7, rfl, hc7, hW7, hg7, hl7, k8⟩
  go_wp2_with fail
  refine (sI_eq x6 _ c6 c7 R _ (hF6.ls.keep k8) hW7.ls (by omega)).mono ?_
  rintro e w8 ⟨rfl, k9⟩
  go_wp2
  go_ret
  exact ⟨rfl, (((K4.trans k6).trans k7).trans k8).trans k9⟩
end Go.Proofs.Ytdccpdclpidnbab
