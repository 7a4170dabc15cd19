/- P102: extremes are the first ones. -/
import Derived.Test.YtdccpdclpidnbaaDrNo
import Derived.Test.YtdccpdclpidnbaaMw
import Derived.Test.YtdccpdclpidnbaaFr
import Derived.LoopTactic
import Derived.IntWalk
namespace Go.Proofs.Ytdccpdclpidnbaa
open Go.RowKit
set_option linter.unusedVariables false

set_option maxRecDepth 100000 in
set_option maxHeartbeats 6400000 in
theorem walk_FnExtremes (a0 : Option Addr) (len0 cap0 : Nat) (z0 : List Int) (w : World) (w0 : IsRow .u8 w a0 len0 cap0 z0) :
    Calls Try.prog 6 #[.slice a0 len0 cap0] w fun e w' => e = .returned (.bool true) ∧ Below w.heap.size w w' := by
  have ha := code_of_row w0
  obtain ⟨hl0, hm0⟩ := ha.1
  unfold maxLen at hm0
  clear w0
  by_cases h : len0 ≤ 1048576
  case' neg =>
    have hd : decide (1048576 < (len0 : Int)) = true := by simp; omega
    go_enter Try.func6, Try.ntmps6
    go_wp2
    go_ret
    exact ⟨rfl, Below.refl _ _⟩
  have hd : decide (1048576 < (len0 : Int)) = false := by simp; omega
  go_enter Try.func6, Try.ntmps6
  go_wp2_with fail
  refine (drawExtremesOf a0 len0 cap0 _ ha).mono ?_
  rintro e w1 ⟨a, c, zs, rfl, hl13, hcap, hB, hL1, k1⟩
  have HB := Lib.hid hB
  clear ha hB
  go_wp2_with fail
  refine (ex_impl a c zs _ hL1 (by omega)).mono ?_
  rintro e w2 ⟨rfl, k2⟩
  go_wp2_with fail
  refine (ex_spec a c zs _ (hL1.keep k2) (by omega)).mono ?_
  rintro e w3 ⟨rfl, k3⟩
  have K3 : Keep w w3 := (k1.trans k2).trans k3
  have hL := (hL1.keep k2).keep k3
  clear hL1 k1 k2 k3
  rcases Bool.eq_false_or_eq_true (moB zs) with hs | hs
  case' inr =>
    generalize exA zs = v at *
    generalize exZ zs = u at *
    rw [hs]
    clear hs
    go_wp2
    go_ret
    exact ⟨rfl, K3⟩
  obtain ⟨e1, e2⟩ := ex_yes hs
  rw [e1, e2]
  have HLo := Lib.hid (ex_lo hs).1
  have HHi := Lib.hid (ex_hi hs).1
  rw [hs]
  clear e1 e2 hs
  generalize exLo zs = lo at *
  generalize exHi zs = hi at *
  obtain ⟨l1, l2, l3⟩ := HLo.out
  obtain ⟨i1, i2, i3⟩ := HHi.out
  obtain ⟨bz, oz, rfl, hbz, hcz⟩ := hL.all (by omega)
  have HZ := Lib.hid hcz
  have cl := hcz lo l1
  have ch := hcz hi i1
  have L2 := Lib.hid l2
  have L3 := Lib.hid l3
  have I2 := Lib.hid i2
  have I3 := Lib.hid i3
  clear hcz hL HLo HHi l2 l3 i2 i3
  have lo0 : (0 : Int) ≤ (lo : Int) := by omega
  have loz : (lo : Int) < (zs.length : Int) := by omega
  have hi0 : (0 : Int) ≤ (hi : Int) := by omega
  have hiz : (hi : Int) < (zs.length : Int) := by omega
  obtain ⟨y, hy⟩ : ∃ y, zs.getD lo 0 = y := ⟨_, rfl⟩
  obtain ⟨z, hz⟩ : ∃ z, zs.getD hi 0 = z := ⟨_, rfl⟩
  rw [hy] at cl L2 L3
  rw [hz] at ch I2 I3
  clear hy hz
  have y9 : (y != -9999) = true := bne_iff_ne.2 L2.out
  have z9 : (z != -9999) = true := bne_iff_ne.2 I2.out
  clear L2 I2
  go_wp2_with fail
  go_loopw [10] (fun i wr => ∃ k : Nat, k ≤ zs.length ∧ i = .int .i64 k ∧ Keep w3 wr) (fun i _ => zs.length - (intOf i).toNat)
  case atStart => exact ⟨0, by omega, rfl, Keep.refl _⟩
  case round =>
    obtain ⟨k, hk, rfl, hK⟩ := hrel
    have c1 := hK.cell cl
    have c2 := hK.cell ch
    have k0 : (0 : Int) ≤ (k : Int) := by omega
    by_cases hlt : k < zs.length
    · have cz := hK.cell (HZ.out k hlt)
      have kz : (k : Int) < (zs.length : Int) := by omega
      by_cases hx : zs.getD k 0 = -9999
      · rw [hx] at cz
        clear hx
        go_wp2_with fail
        go_quiet (fail)
        go_wp2
        go_roundw
        case rel => exact ⟨k + 1, by omega, by go_num, hK.drewN _⟩
        case measure => simp [intOf]; omega
      · have hx2 : (zs.getD k 0 != -9999) = true := bne_iff_ne.2 hx
        have q1 := L3.out k hlt hx
        have q2 := I3.out k hlt hx
        clear hx
        generalize zs.getD k 0 = x at *
        have d1 : decide (x < y) = false := decide_eq_false (by omega)
        have d2 : decide (z < x) = false := decide_eq_false (by omega)
        have d3 : decide (k < lo) = false ∨ (decide (k < lo) = true ∧ (x == y) = false) := by
          by_cases e : k < lo
          · exact .inr ⟨decide_eq_true (by omega), beq_eq_false_iff_ne.2 fun e2 => by have := q1.2 e2; omega⟩
          · exact .inl (decide_eq_false (by omega))
        have d4 : decide (k < hi) = false ∨ (decide (k < hi) = true ∧ (x == z) = false) := by
          by_cases e : k < hi
          · exact .inr ⟨decide_eq_true (by omega), beq_eq_false_iff_ne.2 fun e2 => by have := q2.2 e2; omega⟩
          · exact .inl (decide_eq_false (by omega))
        clear q1 q2
        rcases d3 with d3 | ⟨d3, d5⟩ <;> rcases d4 with d4 | ⟨d4, d6⟩
        all_goals
          go_wp2_with fail
          go_quiet (fail)
          go_wp2
          go_roundw
          case rel => exact ⟨k + 1, by omega, by go_num, hK.drewN _⟩
          case measure => simp [intOf]; omega
    · obtain rfl : k = zs.length := by omega
      go_wp2
      go_ret
      exact ⟨rfl, K3.trans hK⟩
end Go.Proofs.Ytdccpdclpidnbaa
