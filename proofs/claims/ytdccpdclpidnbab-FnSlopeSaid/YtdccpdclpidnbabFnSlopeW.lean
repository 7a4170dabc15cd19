/- P131: a slope has no common factor. -/
import Derived.Test.YtdccpdclpidnbabDrNo
import Derived.Test.YtdccpdclpidnbabTrS
import Derived.Test.YtdccpdclpidnbabFr
import Derived.LoopTactic
import Derived.IntWalk
namespace Go.Proofs.Ytdccpdclpidnbab
open Go.RowKit
set_option linter.unusedVariables false

set_option maxRecDepth 100000 in
set_option maxHeartbeats 6400000 in
theorem walk_FnSlope (a0 : Option Addr) (len0 cap0 : Nat) (z0 : List Int) (w : World) (w0 : IsRow .u8 w a0 len0 cap0 z0) :
    Calls Try.prog 9 #[.slice a0 len0 cap0] w fun e w' => e = .returned (.bool true) ∧ Below w.heap.size w w' := by
  have ha := code_of_row w0
  obtain ⟨hl0, hm0⟩ := ha.1
  unfold maxLen at hm0
  clear w0
  by_cases h : len0 ≤ 1048576
  case' neg =>
    have hd : decide (1048576 < (len0 : Int)) = true := by simp; omega
    go_enter Try.func9, Try.ntmps9
    go_wp2
    go_ret
    exact ⟨rfl, Below.refl _ _⟩
  have hd : decide (1048576 < (len0 : Int)) = false := by simp; omega
  go_enter Try.func9, Try.ntmps9
  go_wp2_with fail
  refine (drawSlopeOf a0 len0 cap0 _ ha).mono ?_
  rintro e w1 ⟨a, c, zs, rfl, hl13, hcap, hB, hL1, k1⟩
  have HBt := Lib.hid hB
  clear ha hB
  go_wp2_with fail
  refine (sl_impl a c zs _ hL1 (by omega)).mono ?_
  rintro e w2 ⟨rfl, k2⟩
  go_wp2_with fail
  refine (sl_spec a c zs _ (hL1.keep k2) (by omega)).mono ?_
  rintro e w3 ⟨rfl, k3⟩
  have K3 : Keep w w3 := (k1.trans k2).trans k3
  have hL := (hL1.keep k2).keep k3
  clear hL1 k1 k2 k3
  rcases Bool.eq_false_or_eq_true (slB zs) with hs | hs
  case' inr =>
    generalize slP zs = v at *
    generalize slQ zs = u at *
    rw [hs]
    clear hs
    go_wp2
    go_ret
    exact ⟨rfl, K3⟩
  obtain ⟨gg, p, q, hgg, hp, hq', g1, g2, hu, hd, q1, hgc⟩ := sl_parts hs
  obtain ⟨hsq, h2k, hnk, hdp⟩ := slB_facts hs
  have hl12 := (sq_facts hsq).2
  have HPr := Lib.hid (sl_prod hsq (Nat.le_refl zs.length))
  have pb : -40000000 ≤ p ∧ p ≤ 40000000 := by
    have h9 : p.natAbs ≤ (slU zs zs.length).natAbs := by
      rw [hu, Int.natAbs_mul]
      exact Nat.le_mul_of_pos_right _ (by omega)
    have h8 : slU zs zs.length = slN zs zs.length * slR zs zs.length - slA zs zs.length * slX zs zs.length := rfl
    have := HPr.out
    omega
  have qb : q ≤ 40000 := by
    have h9 : q.natAbs ≤ (slD zs zs.length).natAbs := by
      rw [hd, Int.natAbs_mul]
      exact Nat.le_mul_of_pos_right _ (by omega)
    have h8 : slD zs zs.length = slN zs zs.length * slQQ zs zs.length - slA zs zs.length * slA zs zs.length := rfl
    have := HPr.out
    omega
  rw [hp, hq', hs]
  have HGc := Lib.hid hgc
  clear hgg hp hq' g1 g2 hu hd hgc hsq h2k hnk hdp HPr hs
  go_wp2_with fail
  go_loopw [10] (fun i wr => ∃ k : Nat, 2 ≤ k ∧ (k : Int) ≤ q + 2 ∧ i = .int .i64 k ∧ Keep w3 wr) (fun i _ => (q + 2 - intOf i).toNat)
  case atStart => exact ⟨2, by omega, by omega, rfl, Keep.refl _⟩
  case round =>
    obtain ⟨k, hk2, hkq, rfl, hKr⟩ := hrel
    by_cases hlt : (k : Int) ≤ q
    · have d1 : decide ((k : Int) ≤ q) = true := decide_eq_true hlt
      have kne : ((k : Int) == 0) = false := beq_eq_false_iff_ne.2 (by omega)
      have kne2 : ¬ ((k : Int) = 0) := by omega
      have kne3 : (k : Int) ≠ -1 := by omega
      obtain ⟨r1, hr1⟩ : ∃ r, Int.tmod p (k : Int) = r := ⟨_, rfl⟩
      obtain ⟨r2, hr2⟩ : ∃ r, Int.tmod q (k : Int) = r := ⟨_, rfl⟩
      have hr3 : q % (k : Int) = r2 := by rw [← hr2, Int.tmod_eq_emod_of_nonneg (by omega)]
      have b1 : -40000000 ≤ r1 ∧ r1 ≤ 40000000 := by
        have h9 : r1.natAbs = p.natAbs % ((k : Int)).natAbs := by rw [← hr1, Int.natAbs_tmod]
        have h8 := Nat.mod_le p.natAbs ((k : Int)).natAbs
        omega
      have b2 : 0 ≤ r2 ∧ r2 ≤ 40000 := by
        have h9 := Int.emod_nonneg q kne2
        have h8 := Int.emod_lt_of_pos q (show (0 : Int) < (k : Int) by omega)
        omega
      have hno : ¬ (r1 = 0 ∧ r2 = 0) := fun ⟨e1, e2⟩ => sl_noFactor HGc.out (k := (k : Int)) (by omega) (Int.dvd_of_tmod_eq_zero (by rw [hr1]; exact e1)) (Int.dvd_of_tmod_eq_zero (by rw [hr2]; exact e2))
      have w1 : IntKind.i64.wrap r1 = r1 := IntWalk.i64_in _ ⟨by omega, by omega⟩
      have w2 : IntKind.i64.wrap r2 = r2 := IntWalk.i64_in _ ⟨by omega, by omega⟩
      rcases (show (r1 == 0) = false ∨ ((r1 == 0) = true ∧ (r2 == 0) = false) by
        by_cases e : r1 = 0
        · exact .inr ⟨beq_iff_eq.2 e, beq_eq_false_iff_ne.2 fun e2 => hno ⟨e, e2⟩⟩
        · exact .inl (beq_eq_false_iff_ne.2 e)) with e1 | ⟨e1, e2⟩
      all_goals
        clear hno
        go_wp2
        go_roundw
        case rel => exact ⟨k + 1, by omega, by omega, by go_num, hKr⟩
        case measure => simp [intOf]; omega
    · have d1 : decide ((k : Int) ≤ q) = false := decide_eq_false hlt
      have d2 : decide (0 < q) = true := decide_eq_true (by omega)
      go_wp2
      go_ret
      exact ⟨rfl, K3.trans hKr⟩
end Go.Proofs.Ytdccpdclpidnbab
