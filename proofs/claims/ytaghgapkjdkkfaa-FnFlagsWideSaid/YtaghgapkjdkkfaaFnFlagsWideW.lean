/- P51: wide limits flag less. -/
import Derived.Test.YtaghgapkjdkkfaaDrSq
import Derived.Test.YtaghgapkjdkkfaaFo
import Derived.Test.YtaghgapkjdkkfaaLw
import Derived.Test.YtaghgapkjdkkfaaFr
import Derived.LoopTactic
import Derived.IntWalk
namespace Go.Proofs.Ytaghgapkjdkkfaa
open Go.RowKit
set_option linter.unusedVariables false

theorem wide_bits (zs : List Int) (lo hi st : Int) (k : Nat) (b : Int) (hb : b = 1 ∨ b = 2 ∨ b = 4 ∨ b = 8) :
    ((fl zs (lo - 1) (hi + 1) (st + 1) k) / b).tmod 2 = 0 ∨ (((fl zs (lo - 1) (hi + 1) (st + 1) k) / b).tmod 2 = 1 ∧ ((fl zs lo hi st k) / b).tmod 2 = 1) := by
  rcases fl_wide zs lo hi st k with ⟨h1, h2⟩ | ⟨l, l', s, s', m, hl, hs, h1, h2⟩
  · rw [h1, h2]
    rcases hb with rfl | rfl | rfl | rfl <;> decide
  · rw [h1, h2]
    clear h1 h2
    rcases hb with rfl | rfl | rfl | rfl <;> revert l l' s s' m <;> decide
set_option maxRecDepth 100000 in
set_option maxHeartbeats 6400000 in
theorem walk_FnFlagsWide (a0 : Option Addr) (len0 cap0 : Nat) (z0 : List Int) (w : World) (w0 : IsRow .u8 w a0 len0 cap0 z0) :
    Calls Try.prog 11 #[.slice a0 len0 cap0] w fun e w' => e = .returned (.bool true) ∧ Below w.heap.size w w' := by
  have ha := code_of_row w0
  obtain ⟨hl0, hm0⟩ := ha.1
  unfold maxLen at hm0
  clear w0
  by_cases h : len0 ≤ 1048576
  case' neg =>
    have hd : decide (1048576 < (len0 : Int)) = true := by simp; omega
    go_enter Try.func11, Try.ntmps11
    go_wp2
    go_ret
    exact ⟨rfl, Below.refl _ _⟩
  have hd : decide (1048576 < (len0 : Int)) = false := by simp; omega
  go_enter Try.func11, Try.ntmps11
  go_wp2_with fail
  refine (drawFlagsOf a0 len0 cap0 _ ha).mono ?_
  rintro e w1 ⟨a, c, zs, lo, hi, st, rfl, hl13, hcap, hB, hL1, ⟨lo0, lo1⟩, ⟨hi0, hi1⟩, ⟨st0, st1⟩, k1⟩
  have hz := foL_len zs lo hi st
  have HB := Lib.hid hB
  clear ha hB
  go_wp2_with fail
  refine (fo_impl a c zs lo hi st _ hL1 (by omega)).mono ?_
  rintro e w2 ⟨p, q, rfl, hF2, k2⟩
  go_wp2_with fail
  refine (fo_spec a c zs lo hi st _ (hL1.keep k2) (by omega)).mono ?_
  rintro e w3 ⟨p3, q3, rfl, hF3, k3⟩
  have kk : Keep w w3 := (k1.trans k2).trans k3
  have hL := (hL1.keep k2).keep k3
  have hO := hF2.ls.keep k3
  have hW := hF3.ls
  clear hF2 hF3 hL1
  rcases Bool.eq_false_or_eq_true (foOk zs st) with hs | hs
  case' inr =>
    generalize foL zs lo hi st = L at *
    rw [hs]
    clear hs
    go_wp2_with fail
    refine (sI_eq p p3 q q3 L _ hO hW (by omega)).mono ?_
    rintro e w5 ⟨rfl, k5⟩
    go_wp2_with fail
    refine (sI_eq p p3 q q3 L _ (hO.keep k5) (hW.keep k5) (by omega)).mono ?_
    rintro e w7 ⟨rfl, k7⟩
    go_wp2
    go_ret
    exact ⟨rfl, (kk.trans k5).trans k7⟩
  obtain ⟨hq, s0, s1⟩ := foOk_facts hs
  obtain ⟨hl1, hl12⟩ := (sq_facts hq).2
  have HQ := Lib.hid hq
  have HY := Lib.hid (foL_yes (lo := lo) (hi := hi) hs)
  have HG : Hid (∀ k, k < zs.length → (foL zs lo hi st).getD k 0 = fl zs lo hi st k) := Lib.hid (fun k hk => by rw [HY.out, flL_at hk])
  have HLn : Hid ((foL zs lo hi st).length = zs.length) := Lib.hid (by rw [HY.out, flL_len])
  rw [hs]
  clear hs hq 
  generalize foL zs lo hi st = L at *
  have hle : L.length ≤ zs.length := by have := HLn.out; omega
  have hge : zs.length ≤ L.length := by have := HLn.out; omega
  go_wp2_with fail
  refine (sI_eq p p3 q q3 L _ hO hW (by omega)).mono ?_
  rintro e w4 ⟨rfl, k5⟩
  have L4 := Lib.hid (hL.keep k5)
  have O4 := Lib.hid (hO.keep k5)
  have W4 := Lib.hid (hW.keep k5)
  have K4 : Keep w w4 := kk.trans k5
  clear hL hO hW k1 k2 k3 k5 kk
  by_cases h9 : st = 19999
  case' pos =>
    subst h9
    go_wp2_with fail
    refine (sI_eq p p3 q q3 L _ O4.out ?hWx (by omega)).mono ?_
    case hWx => exact W4.out
    rintro e w7 ⟨rfl, k7⟩
    go_wp2
    go_ret
    exact ⟨rfl, K4.trans k7⟩
  have h92 : (st == 19999) = false := beq_eq_false_iff_ne.2 h9
  have HS6 : Hid (foOk zs (st + 1) = true) := Lib.hid (by simp [foOk, HQ.out, inB]; omega)
  have hz6 := foL_len zs (lo - 1) (hi + 1) (st + 1)
  have HG6 : Hid (∀ k, k < zs.length → (foL zs (lo - 1) (hi + 1) (st + 1)).getD k 0 = fl zs (lo - 1) (hi + 1) (st + 1) k) := Lib.hid (fun k hk => by rw [foL_yes HS6.out, flL_at hk])
  have HLn6 : Hid ((foL zs (lo - 1) (hi + 1) (st + 1)).length = zs.length) := Lib.hid (by rw [foL_yes HS6.out, flL_len])
  have HF6 := Lib.hid (fo_impl a c zs (lo - 1) (hi + 1) (st + 1) w4 L4.out (by omega))
  go_wp2_with fail
  refine HF6.out.mono ?_
  rintro e w6 ⟨p6, q6, rfl, hF6, k6⟩
  rw [HS6.out]
  generalize foL zs (lo - 1) (hi + 1) (st + 1) = L6 at *
  have hle6 : L6.length ≤ zs.length := by have := HLn6.out; omega
  have hge6 : zs.length ≤ L6.length := by have := HLn6.out; omega
  have O6 := Lib.hid (O4.out.keep k6)
  have X6 := Lib.hid hF6.ls
  have K6 : Keep w w6 := K4.trans k6
  clear HF6 hF6 HS6
  go_wp2_with fail
  go_loopw [13] (fun i wr => ∃ k : Nat, k ≤ zs.length ∧ i = .int .i64 k ∧ Keep w6 wr) (fun i _ => zs.length - (intOf i).toNat)
  case atStart => exact ⟨0, by omega, rfl, Keep.refl _⟩
  case round =>
    obtain ⟨k, hk, rfl, hKr⟩ := hrel
    by_cases hlt : k < zs.length
    case' neg =>
      obtain rfl : k = zs.length := by omega
      have hlm : ((L6.length : Int) == (L.length : Int)) = true := by have := HLn.out; have := HLn6.out; simp; omega
      have g1 : ¬ (zs.length : Int) < (L6.length : Int) := by omega
      go_wp2
      go_ret
      exact ⟨rfl, K6.trans hKr⟩
    have hltL : k < L.length := by omega
    have hlt6 : k < L6.length := by omega
    obtain ⟨b1, off1, rfl, hb1, c1⟩ := (X6.out.keep hKr).at_ hlt6
    obtain ⟨b2, off2, rfl, hb2, c2⟩ := (O6.out.keep hKr).at_ hltL
    have k0 : (0 : Int) ≤ (k : Int) := by omega
    have kz : (k : Int) < (zs.length : Int) := by omega
    have kL : (k : Int) < (L.length : Int) := by omega
    have kL6 : (k : Int) < (L6.length : Int) := by omega
    rw [HG.out k hlt] at c2
    rw [HG6.out k hlt] at c1
    have HW := Lib.hid (wide_bits zs lo hi st k)
    have hx := fl_bd zs (lo - 1) (hi + 1) (st + 1) k
    have ho := fl_bd zs lo hi st k
    generalize fl zs (lo - 1) (hi + 1) (st + 1) k = x at *
    generalize fl zs lo hi st k = o at *
    go_wp2_with fail
    go_loopw [14] (fun v wr2 => ∃ b : Int, v = .int .i64 b ∧ (b = 1 ∨ b = 2 ∨ b = 4 ∨ b = 8 ∨ b = 16) ∧ Keep wr wr2) (fun v _ => 17 - (intOf v).toNat)
    case atStart => exact ⟨1, rfl, by omega, Keep.refl _⟩
    case round =>
      obtain ⟨b, rfl, hb, hK2⟩ := hrel
      have hKK := hKr.trans hK2
      have d1 := hK2.cell c1
      have d2 := hK2.cell c2
      by_cases h16 : b = 16
      · subst h16
        go_wp2
        go_roundw
        case rel => exact ⟨k + 1, by omega, by go_num, hKK⟩
        case measure => simp [intOf]; omega
      · have hb8 : b ≤ 8 := by omega
        have hb1' : 1 ≤ b := by omega
        have hb0 : ¬ b = 0 := by omega
        have hw0 : IntKind.i64.wrap (b * 2) = b * 2 := IntWalk.i64_in _ ⟨by omega, by omega⟩
        have hne : (b == 0) = false := beq_eq_false_iff_ne.2 hb0
        have HB4 := Lib.hid hb
        rcases HW.out b (by omega) with e1 | ⟨e1, e2⟩
        all_goals
          go_wp2_with fail
          go_roundw
          case rel => exact ⟨b * 2, rfl, by omega, by first | exact hK2 | exact hK2.drewN _ | exact hK2.drew⟩
          case measure => simp [intOf]; omega
end Go.Proofs.Ytaghgapkjdkkfaa
