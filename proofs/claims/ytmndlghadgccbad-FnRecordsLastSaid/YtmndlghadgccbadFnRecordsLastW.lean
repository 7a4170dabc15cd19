/- P98: the last record is the greatest of the sorted values. -/
import Derived.Test.YtmndlghadgccbadDrEx
import Derived.Test.YtmndlghadgccbadRc
import Derived.Test.YtmndlghadgccbadLw
import Derived.Test.YtmndlghadgccbadHi
import Derived.Test.YtmndlghadgccbadFr
import Derived.Test.YtmndlghadgccbadSo
import Derived.Test.YtmndlghadgccbadRl
import Derived.LoopTactic
import Derived.IntWalk
namespace Go.Proofs.Ytmndlghadgccbad
open Go.RowKit
set_option linter.unusedVariables false

set_option maxRecDepth 100000 in
set_option maxHeartbeats 6400000 in
theorem walk_FnRecordsLast (a0 : Option Addr) (len0 cap0 : Nat) (z0 : List Int) (w : World) (w0 : IsRow .u8 w a0 len0 cap0 z0) :
    Calls Try.prog 15 #[.slice a0 len0 cap0] w fun e w' => e = .returned (.bool true) ∧ Below w.heap.size w w' := by
  have ha := code_of_row w0
  obtain ⟨hl0, hm0⟩ := ha.1
  unfold maxLen at hm0
  clear w0
  by_cases h : len0 ≤ 1048576
  case' neg =>
    have hd : decide (1048576 < (len0 : Int)) = true := by simp; omega
    go_enter Try.func15, Try.ntmps15
    go_wp2
    go_ret
    exact ⟨rfl, Below.refl _ _⟩
  have hd : decide (1048576 < (len0 : Int)) = false := by simp; omega
  go_enter Try.func15, Try.ntmps15
  go_wp2_with fail
  refine (drawRecordDays a0 len0 cap0 _ ha).mono ?_
  rintro e w1 ⟨a, c, zs, rfl, hl13, hcap, hB, hL1, k1⟩
  clear ha hB
  go_wp2_with fail
  refine (rc_impl a c zs _ hL1 (by omega)).mono ?_
  rintro e w2 ⟨x2, c2, rfl, hc2, hF2, k2⟩
  go_wp2_with fail
  refine (rc_spec a c zs _ (hL1.keep k2) (by omega)).mono ?_
  rintro e w3 ⟨x3, c3, rfl, hc3, hF3, k3⟩
  have hr12 := rcL_len zs
  go_wp2_with fail
  refine (sI_eq x2 x3 _ _ (rcL zs) _ (hF2.ls.keep k3) hF3.ls (by omega)).mono ?_
  rintro e w4 ⟨rfl, k4⟩
  have HO := Lib.hid ((hF2.ls.keep k3).keep k4)
  have HL := Lib.hid (((hL1.keep k2).keep k3).keep k4)
  have K4 : Keep w w4 := ((k1.trans k2).trans k3).trans k4
  have HQS := Lib.hid (sqv_spec a c zs w4 HL.out (by omega))
  have HO3 := Lib.hid (hF3.ls.keep k4)
  clear hF2 hF3 hL1 k1 k2 k3 k4
  rcases Bool.eq_false_or_eq_true (sqB zs) with hs | hs
  case' inr =>
    rw [hs] at HQS
    go_wp2_with fail
    refine HQS.out.mono ?_
    rintro e w5 ⟨rfl, rfl⟩
    go_wp2_with fail
    refine (sI_eq x2 x3 _ _ (rcL zs) _ HO.out HO3.out (by omega)).mono ?_
    rintro e w5 ⟨rfl, k5⟩
    go_wp2
    go_ret
    exact ⟨rfl, K4.trans k5⟩
  rw [hs] at HQS
  have HLast := Lib.hid (rc_last hs)
  have hs12 := soL_len zs
  clear hs
  go_wp2_with fail
  refine HQS.out.mono ?_
  rintro e w5 ⟨rfl, rfl⟩
  go_wp2_with fail
  refine (so_impl a c zs _ HL.out (by omega)).mono ?_
  rintro e w6 ⟨x6, c6, rfl, hc6, hF6, k6⟩
  have K6 := K4.trans k6
  have HS6 := Lib.hid hF6.ls
  have HO6 := Lib.hid (HO.out.keep k6)
  have HL6 := Lib.hid (HL.out.keep k6)
  clear hF6
  rcases HLast.out with ⟨h1, h2⟩ | ⟨i, hi, hr0, hr1, hs0, hs1⟩
  · rw [h1, h2]
    go_wp2
    go_ret
    exact ⟨rfl, K6⟩
  · obtain ⟨b1, o1, rfl, hb1, d1⟩ := HL6.out.at_ hi
    obtain ⟨b2, o2, rfl, hb2, d2⟩ := HO6.out.at_ (show (rcL zs).length - 1 < (rcL zs).length by omega)
    obtain ⟨b3, o3, rfl, hb3, d3⟩ := HS6.out.at_ (show (soL zs).length - 1 < (soL zs).length by omega)
    rw [hr1] at d2
    rw [hs1] at d1
    generalize (soL zs).getD ((soL zs).length - 1) 0 = y at *
    obtain ⟨p, hp⟩ : ∃ p, (rcL zs).length = p + 1 := ⟨(rcL zs).length - 1, by omega⟩
    obtain ⟨q, hq⟩ : ∃ q, (soL zs).length = q + 1 := ⟨(soL zs).length - 1, by omega⟩
    rw [hp] at d2 ⊢
    rw [hq] at d3 ⊢
    rw [Nat.add_sub_cancel] at d2 d3
    have p0 : (0 : Int) ≤ (p : Int) := by omega
    have pb : (p : Int) ≤ 12 := by omega
    have qb : (q : Int) ≤ 12 := by omega
    have pw : IntKind.i64.wrap ((p : Int) + 1 - 1) = (p : Int) := by rw [Int.add_sub_cancel]; exact IntWalk.i64_in _ ⟨by omega, by omega⟩
    have qw : IntKind.i64.wrap ((q : Int) + 1 - 1) = (q : Int) := by rw [Int.add_sub_cancel]; exact IntWalk.i64_in _ ⟨by omega, by omega⟩
    have q0 : (0 : Int) ≤ (q : Int) := by omega
    have p1 : (p : Int) < (p : Int) + 1 := by omega
    have q1 : (q : Int) < (q : Int) + 1 := by omega
    have n1 : ((p : Int) + 1 == 0) = false := beq_eq_false_iff_ne.2 (by omega)
    have n2 : ((q : Int) + 1 == 0) = false := beq_eq_false_iff_ne.2 (by omega)
    have i0 : (0 : Int) ≤ (i : Int) := by omega
    have i1 : (i : Int) < (zs.length : Int) := by omega
    clear hp hq HLast HQS HO HO3 HL hr0 hr1 hs0 hs1
    go_wp2_with fail
    go_quiet (fail)
    go_wp2
    go_ret
    exact ⟨rfl, K6.drewN _⟩
end Go.Proofs.Ytmndlghadgccbad
