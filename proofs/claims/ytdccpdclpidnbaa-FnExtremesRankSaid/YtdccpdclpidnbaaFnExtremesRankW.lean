/- P103: nothing is less than the least value; the last record is the greatest. -/
import Derived.Test.YtdccpdclpidnbaaDrNo
import Derived.Test.YtdccpdclpidnbaaMw
import Derived.Test.YtdccpdclpidnbaaRc
import Derived.Test.YtdccpdclpidnbaaFr
import Derived.LoopTactic
import Derived.IntWalk
namespace Go.Proofs.Ytdccpdclpidnbaa
open Go.RowKit
set_option linter.unusedVariables false

set_option maxRecDepth 100000 in
set_option maxHeartbeats 6400000 in
theorem walk_FnExtremesRank (a0 : Option Addr) (len0 cap0 : Nat) (z0 : List Int) (w : World) (w0 : IsRow .u8 w a0 len0 cap0 z0) :
    Calls Try.prog 7 #[.slice a0 len0 cap0] w fun e w' => e = .returned (.bool true) ∧ Below w.heap.size w w' := by
  have ha := code_of_row w0
  obtain ⟨hl0, hm0⟩ := ha.1
  unfold maxLen at hm0
  clear w0
  by_cases h : len0 ≤ 1048576
  case' neg =>
    have hd : decide (1048576 < (len0 : Int)) = true := by simp; omega
    go_enter Try.func7, Try.ntmps7
    go_wp2
    go_ret
    exact ⟨rfl, Below.refl _ _⟩
  have hd : decide (1048576 < (len0 : Int)) = false := by simp; omega
  go_enter Try.func7, Try.ntmps7
  go_wp2_with fail
  refine (drawExtremesOf a0 len0 cap0 _ ha).mono ?_
  rintro e w1 ⟨a, c, zs, rfl, hl13, hcap, hB, hL1, k1⟩
  have HB := Lib.hid hB
  clear ha hB
  go_wp2_with fail
  refine (ex_impl a c zs _ hL1 (by omega)).mono ?_
  rintro e w2 ⟨rfl, k2⟩
  go_wp2_with fail
  refine (ex_spec a c zs _ (hL1.keep k2) (by omega)).mono ?_
  rintro e w3 ⟨rfl, k3⟩
  have K3 : Keep w w3 := (k1.trans k2).trans k3
  have hL := (hL1.keep k2).keep k3
  clear hL1 k1 k2 k3
  rcases Bool.eq_false_or_eq_true (moB zs) with hs | hs
  case' inr =>
    generalize exA zs = v at *
    generalize exZ zs = u at *
    rw [hs]
    clear hs
    go_wp2
    go_ret
    exact ⟨rfl, K3⟩
  obtain ⟨e1, e2⟩ := ex_yes hs
  rw [e1, e2]
  have HR := Lib.hid (lo_rank hs).2
  have HLast := Lib.hid (rc_last_hi hs)
  have hrl := rcL_len zs
  have hlo := (ex_lo hs).1.1
  have hhi := (ex_hi hs).1.1
  rw [hs]
  clear e1 e2 hs
  have HRk := Lib.hid (fun W (k : Keep w3 W) => rk_impl a c zs (exLo zs : Int) W (hL.keep k) (by omega))
  rw [HR.out] at HRk
  generalize exLo zs = lo at *
  generalize exHi zs = hi at *
  go_wp2_with fail
  refine (rc_impl a c zs w3 hL (by omega)).mono ?_
  rintro e w4 ⟨x4, c4, rfl, hc4, hF4, k4⟩
  go_wp2_with fail
  refine (HRk.out _ k4).mono ?_
  rintro e w5 ⟨rfl, k5⟩
  have K5 := (K3.trans k4).trans k5
  obtain ⟨r0, r1⟩ := HLast.out
  obtain ⟨b2, o2, rfl, hb2, d2⟩ := (hF4.ls.keep k5).at_ (show (rcL zs).length - 1 < (rcL zs).length by omega)
  rw [r1] at d2
  obtain ⟨p, hp⟩ : ∃ p, (rcL zs).length = p + 1 := ⟨(rcL zs).length - 1, by omega⟩
  rw [hp] at d2 ⊢
  rw [Nat.add_sub_cancel] at d2
  have p0 : (0 : Int) ≤ (p : Int) := by omega
  have pw : IntKind.i64.wrap ((p : Int) + 1 - 1) = (p : Int) := by rw [Int.add_sub_cancel]; exact IntWalk.i64_in _ ⟨by omega, by omega⟩
  have p1 : (p : Int) < (p : Int) + 1 := by omega
  have p2 : (0 : Int) < (p : Int) + 1 := by omega
  have pb : (p : Int) ≤ 12 := by omega
  clear hp HLast r0 r1 hF4 HRk HR
  go_wp2_with fail
  go_ret
  exact ⟨rfl, K5⟩
end Go.Proofs.Ytdccpdclpidnbaa
