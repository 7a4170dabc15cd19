/- P135: a pair goes up, down or neither way. -/
import Derived.Test.YtlaajompcbmdoacDrNo
import Derived.Test.YtlaajompcbmdoacPy
import Derived.Test.YtlaajompcbmdoacSo
import Derived.Test.YtlaajompcbmdoacLw
import Derived.Test.YtlaajompcbmdoacFr
import Derived.LoopTactic
import Derived.IntWalk
namespace Go.Proofs.Ytlaajompcbmdoac
open Go.RowKit
set_option linter.unusedVariables false

theorem sk_lenP {zs : List Int} (h : sqB zs = true) : sk zs = ((knl zs).length : Int) := by rw [sk_yes h, knN_all]
theorem p_half {zs : List Int} (h : sqB zs = true) : ∃ Q : Nat, ((knl zs).length : Int) * (((knl zs).length : Int) - 1) = 2 * (Q : Int) ∧ pU (knl zs) + pD (knl zs) ≤ Q ∧ (pU (knl zs) + pD (knl zs) = Q ↔ smB (soL zs) ((soL zs).length - 1) = false) := by
  have h1 := p_all (knl zs)
  obtain ⟨h2, h3⟩ := p_same h
  refine ⟨pU (knl zs) + pD (knl zs) + pE (knl zs), ?_, by omega, ?_⟩
  · have e : ((knl zs).length : Int) * (((knl zs).length : Int) - 1) = (((knl zs).length * ((knl zs).length - 1) : Nat) : Int) := by
      rcases Nat.eq_zero_or_pos (knl zs).length with h0 | h0
      · rw [h0]; rfl
      · rw [Int.natCast_mul, Int.natCast_sub h0]; rfl
    rw [e, ← h1]; omega
  · rw [← h3, ← h1]; omega

set_option maxRecDepth 100000 in
set_option maxHeartbeats 6400000 in
theorem walk_FnPairs (a0 : Option Addr) (len0 cap0 : Nat) (z0 : List Int) (w : World) (w0 : IsRow .u8 w a0 len0 cap0 z0) :
    Calls Try.prog 4 #[.slice a0 len0 cap0] w fun e w' => e = .returned (.bool true) ∧ Below w.heap.size w w' := by
  have ha := code_of_row w0
  obtain ⟨hl0, hm0⟩ := ha.1
  unfold maxLen at hm0
  clear w0
  by_cases h : len0 ≤ 1048576
  case' neg =>
    have hd : decide (1048576 < (len0 : Int)) = true := by simp; omega
    go_enter Try.func4, Try.ntmps4
    go_wp2
    go_ret
    exact ⟨rfl, Below.refl _ _⟩
  have hd : decide (1048576 < (len0 : Int)) = false := by simp; omega
  go_enter Try.func4, Try.ntmps4
  go_wp2_with fail
  refine (drawPairsOf a0 len0 cap0 _ ha).mono ?_
  rintro e w1 ⟨a, c, zs, rfl, hl13, hcap, hB, hL1, k1⟩
  have HBt := Lib.hid hB
  clear ha hB
  go_wp2_with fail
  refine (pp_impl a c zs _ hL1 (by omega)).mono ?_
  rintro e w2 ⟨rfl, k2⟩
  go_wp2_with fail
  refine (pp_spec a c zs _ (hL1.keep k2) (by omega)).mono ?_
  rintro e w3 ⟨rfl, k3⟩
  have K3 : Keep w w3 := (k1.trans k2).trans k3
  have hL := (hL1.keep k2).keep k3
  clear hL1 k1 k2 k3
  rcases Bool.eq_false_or_eq_true (sqB zs) with hs | hs
  case' inr =>
    rw [(pr_no hs).1, (pr_no hs).2]
    clear hs
    go_wp2
    go_ret
    exact ⟨rfl, K3⟩
  have HH := Lib.hid (p_half hs)
  have hnn := (pr_yes hs)
  rw [hnn.1, hnn.2]
  have HKI := Lib.hid (sk_impl a c zs w3 hL (by omega))
  rw [sk_lenP hs] at HKI
  have HSr := Lib.hid (so_impl a c zs w3 hL (by omega))
  have hsl : (soL zs).length ≤ 13 := by
    rw [soL_yes hs, sorted_length]; have := knl_le zs; omega
  have hkl : (knl zs).length ≤ 12 := Nat.le_trans (knl_le zs) (sq_facts hs).2.2
  have hpb := p_bd (knl zs) hkl
  clear hnn hs
  generalize pU (knl zs) = u at *
  generalize pD (knl zs) = d at *
  generalize (knl zs).length = m at *
  generalize soL zs = S at *
  obtain ⟨Q, q1, q2, q3⟩ := HH.out
  have HQ := Lib.hid q3
  clear HH q3
  go_wp2_with fail
  refine HKI.out.mono ?_
  rintro e w4 ⟨rfl, rfl⟩
  go_wp2_with fail
  refine HSr.out.mono ?_
  rintro e w5 ⟨g6, c6, rfl, hc6, hF6, k6⟩
  have hS := Lib.hid hF6.ls
  have K5 := K3.trans k6
  clear HKI HSr hF6 k6
  have hQ : (Q : Int) ≤ 66 := by
    have hm : m = 0 ∨ m = 1 ∨ m = 2 ∨ m = 3 ∨ m = 4 ∨ m = 5 ∨ m = 6 ∨ m = 7 ∨ m = 8 ∨ m = 9 ∨ m = 10 ∨ m = 11 ∨ m = 12 := by omega
    rcases hm with h | h | h | h | h | h | h | h | h | h | h | h | h <;> rw [h] at q1 <;> simp at q1 <;> omega
  have mw : IntKind.i64.wrap ((m : Int) * ((m : Int) - 1)) = 2 * (Q : Int) := by rw [q1]; exact IntWalk.i64_in _ ⟨by omega, by omega⟩
  have HX : Hid (wrap64 ((wrap64 (2 * (Q : Int))).tdiv 2) = (Q : Int)) := Lib.hid (by
    rw [IntWalk.wrap64_in (2 * (Q : Int)) ⟨by omega, by omega⟩, Int.tdiv_eq_ediv_of_nonneg (by omega), show 2 * (Q : Int) / 2 = (Q : Int) by omega, IntWalk.wrap64_in (Q : Int) ⟨by omega, by omega⟩])
  go_wp2_with fail
  go_loopw [9, 11] (fun sm i wr => ∃ (k q : Nat), k ≤ S.length - 1 ∧ i = .int .i64 ((k : Int) + 1) ∧ sm = .bool (smB S k) ∧ wr = w5.drewN q) (fun _ i _ => S.length + 1 - (intOf i).toNat)
  case atStart => exact ⟨0, 0, by omega, rfl, rfl, rfl⟩
  case round =>
    obtain ⟨k, q, hk, rfl, rfl, rfl⟩ := hrel
    by_cases hlt : k + 1 < S.length
    · obtain ⟨b, off, rfl, hb, hc⟩ := hS.out.all (by omega)
      have c0 := hc k (by omega)
      have c1 := hc (k + 1) hlt
      have HM := Lib.hid (smB_step S k)
      have e1 : ((k : Int) + 1) - 1 = (k : Int) := by omega
      have kw : IntKind.i64.wrap (((k : Int) + 1) - 1) = (k : Int) := by rw [e1]; exact IntWalk.i64_in _ ⟨by omega, by omega⟩
      have k0 : (0 : Int) ≤ (k : Int) := by omega
      have kS : (k : Int) < (S.length : Int) := by omega
      have kS1 : (k : Int) + 1 < (S.length : Int) := by omega
      clear hc
      rcases Bool.eq_false_or_eq_true (smB S k) with hm | hm
      · rw [hm] at HM ⊢
        go_wp2_with fail
        go_quiet (fail)
        go_wp2
        go_roundw
        case measure => simp [intOf]; omega
        case rel => exact ⟨k + 1, _, by omega, by go_num, by rw [HM.out]; rfl, rfl⟩
      · rw [hm] at HM ⊢
        generalize S.getD k 0 = x at *
        generalize S.getD (k + 1) 0 = y at *
        go_wp2_with fail
        go_quiet (fail)
        go_wp2
        go_roundw
        case measure => simp [intOf]; omega
        case rel => exact ⟨k + 1, _, by omega, by go_num, by rw [HM.out]; rfl, rfl⟩
    · obtain rfl : k = S.length - 1 := by omega
      have HQ2 := HQ.out
      have ew : IntKind.i64.wrap ((m : Int) - 1) = (m : Int) - 1 := IntWalk.i64_in _ ⟨by omega, by omega⟩
      have uw : IntKind.i64.wrap ((u : Int) + (d : Int)) = (u : Int) + (d : Int) := IntWalk.i64_in _ ⟨by omega, by omega⟩
      have u0 : (0 : Int) ≤ (u : Int) := by omega
      have d0 : (0 : Int) ≤ (d : Int) := by omega
      have hle : (u : Int) + (d : Int) ≤ (Q : Int) := by omega
      have heq : ((u : Int) + (d : Int) == (Q : Int)) = !(smB S (S.length - 1)) := by
        rcases Bool.eq_false_or_eq_true (smB S (S.length - 1)) with hm | hm
        · rw [hm]; have : ¬ (u + d = Q) := fun e => by rw [HQ2.1 e] at hm; cases hm
          simp; omega
        · rw [hm]; have := HQ2.2 hm; simp; omega
      generalize smB S (S.length - 1) = sm at *
      clear HQ2 HQ
      replace heq := Lib.hid heq
      go_wp2
      go_ret
      exact ⟨retB (by rw [heq.out]; cases sm <;> rfl), K5.drewN _⟩

end Go.Proofs.Ytlaajompcbmdoac
