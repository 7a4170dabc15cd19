/- P44: a step is told on its second day. -/
import Derived.Test.YtaghgapkjdkkfaaDrSq
import Derived.Test.YtaghgapkjdkkfaaFo
import Derived.Test.YtaghgapkjdkkfaaLw
import Derived.Test.YtaghgapkjdkkfaaFr
import Derived.LoopTactic
import Derived.IntWalk
namespace Go.Proofs.Ytaghgapkjdkkfaa
open Go.RowKit
set_option linter.unusedVariables false

set_option maxRecDepth 100000 in
set_option maxHeartbeats 6400000 in
theorem walk_FnFlagsStep (a0 : Option Addr) (len0 cap0 : Nat) (z0 : List Int) (w : World) (w0 : IsRow .u8 w a0 len0 cap0 z0) :
    Calls Try.prog 4 #[.slice a0 len0 cap0] w fun e w' => e = .returned (.bool true) ∧ Below w.heap.size w w' := by
  have ha := code_of_row w0
  obtain ⟨hl0, hm0⟩ := ha.1
  unfold maxLen at hm0
  clear w0
  by_cases h : len0 ≤ 1048576
  case' neg =>
    have hd : decide (1048576 < (len0 : Int)) = true := by simp; omega
    go_enter Try.func4, Try.ntmps4
    go_wp2
    go_ret
    exact ⟨rfl, Below.refl _ _⟩
  have hd : decide (1048576 < (len0 : Int)) = false := by simp; omega
  go_enter Try.func4, Try.ntmps4
  go_wp2_with fail
  refine (drawFlagsOf a0 len0 cap0 _ ha).mono ?_
  rintro e w1 ⟨a, c, zs, lo, hi, st, rfl, hl13, hcap, hB, hL1, ⟨lo0, lo1⟩, ⟨hi0, hi1⟩, ⟨st0, st1⟩, k1⟩
  have hz := foL_len zs lo hi st
  have HB := Lib.hid hB
  clear ha hB
  go_wp2_with fail
  refine (fo_impl a c zs lo hi st _ hL1 (by omega)).mono ?_
  rintro e w2 ⟨p, q, rfl, hF2, k2⟩
  go_wp2_with fail
  refine (fo_spec a c zs lo hi st _ (hL1.keep k2) (by omega)).mono ?_
  rintro e w3 ⟨p3, q3, rfl, hF3, k3⟩
  have kk : Keep w w3 := (k1.trans k2).trans k3
  have hL := (hL1.keep k2).keep k3
  have hO := hF2.ls.keep k3
  have hW := hF3.ls
  clear hF2 hF3 hL1
  rcases Bool.eq_false_or_eq_true (foOk zs st) with hs | hs
  case' inr =>
    generalize foL zs lo hi st = L at *
    rw [hs]
    clear hs
    go_wp2_with fail
    refine (sI_eq p p3 q q3 L _ hO hW (by omega)).mono ?_
    rintro e w5 ⟨rfl, k5⟩
    go_wp2_with fail
    refine (sI_eq p p3 q q3 L _ (hO.keep k5) (hW.keep k5) (by omega)).mono ?_
    rintro e w7 ⟨rfl, k7⟩
    go_wp2
    go_ret
    exact ⟨rfl, (kk.trans k5).trans k7⟩
  obtain ⟨hq, s0, s1⟩ := foOk_facts hs
  obtain ⟨hl1, hl12⟩ := (sq_facts hq).2
  have HQ := Lib.hid hq
  have HY := Lib.hid (foL_yes (lo := lo) (hi := hi) hs)
  have HG : Hid (∀ k, k < zs.length → (foL zs lo hi st).getD k 0 = fl zs lo hi st k) := Lib.hid (fun k hk => by rw [HY.out, flL_at hk])
  have HLn : Hid ((foL zs lo hi st).length = zs.length) := Lib.hid (by rw [HY.out, flL_len])
  rw [hs]
  clear hs hq HY
  generalize foL zs lo hi st = L at *
  have hle : L.length ≤ zs.length := by have := HLn.out; omega
  have hge : zs.length ≤ L.length := by have := HLn.out; omega
  go_wp2_with fail
  refine (sI_eq p p3 q q3 L _ hO hW (by omega)).mono ?_
  rintro e w4 ⟨rfl, k5⟩
  have L4 := Lib.hid (hL.keep k5)
  have O4 := Lib.hid (hO.keep k5)
  have K4 : Keep w w4 := kk.trans k5
  clear hL hO hW k1 k2 k3 k5 kk
  go_wp2_with fail
  go_loopw [11] (fun i wr => ∃ k : Nat, k ≤ zs.length ∧ i = .int .i64 k ∧ Keep w4 wr) (fun i _ => zs.length - (intOf i).toNat)
  case atStart => exact ⟨0, by omega, rfl, Keep.refl _⟩
  case round =>
    obtain ⟨k, hk, rfl, hKr⟩ := hrel
    by_cases hlt : k < zs.length
    case' neg =>
      obtain rfl : k = zs.length := by omega
      go_wp2
      go_ret
      exact ⟨rfl, K4.trans hKr⟩
    have hltL : k < L.length := by omega
    obtain ⟨b, off, rfl, hb, hc⟩ := (L4.out.keep hKr).all (by omega)
    obtain ⟨b2, off2, rfl, hb2, c2⟩ := (O4.out.keep hKr).at_ hltL
    have c1 := hc k hlt
    have k0 : (0 : Int) ≤ (k : Int) := by omega
    have kz : (k : Int) < (zs.length : Int) := by omega
    have kL : (k : Int) < (L.length : Int) := by omega
    rw [HG.out k hlt] at c2
    have hst := stp_cases st HQ.out hlt
    rcases fl_cases zs lo hi st k with ⟨hx, hf⟩ | ⟨hx, hf⟩
    · rw [hf] at c2
      rw [hx] at c1
      clear hf hx HG
      rcases hst with ⟨rfl, _⟩ | ⟨q, rfl, hy, _⟩ | ⟨q, rfl, hy, _⟩
      · simp only [Nat.add_zero] at c1 c2
        clear hc
        go_wp2_with fail
        go_quiet (fail)
        go_wp2
        go_roundw
        case rel => exact ⟨0 + 1, by omega, by go_num, hKr.drewN _⟩
        case measure => simp [intOf]; omega
      · clear hc
        go_wp2_with fail
        go_quiet (fail)
        go_wp2
        go_roundw
        case rel => exact ⟨q + 1 + 1, by omega, by go_num, hKr.drewN _⟩
        case measure => simp [intOf]; omega
      · clear hc
        go_wp2_with fail
        go_quiet (fail)
        go_wp2
        go_roundw
        case rel => exact ⟨q + 1 + 1, by omega, by go_num, hKr.drewN _⟩
        case measure => simp [intOf]; omega
    · have xb := sq_at HQ.out hlt
      have hx2 : (zs.getD k 0 == -9999) = false := beq_eq_false_iff_ne.2 hx
      have hx3 : (zs.getD k 0 != -9999) = true := bne_iff_ne.2 hx
      rw [hf] at c2
      generalize limB lo hi (zs.getD k 0) = l at c2
      generalize samB zs k = m at c2
      clear hf HG
      rcases hst with ⟨rfl, hs⟩ | ⟨q, rfl, hy, hs⟩ | ⟨q, rfl, hy, ⟨y0, y1⟩, hs⟩
      · simp only [Nat.add_zero] at c1 c2
        rw [hs] at c2
        clear hs hc
        generalize zs.getD 0 0 = x at c1 hx hx2 hx3 xb
        clear hx xb
        cases l <;> cases m
        all_goals
          simp only [bt] at c2
          go_wp2_with fail
          go_quiet (fail)
          go_wp2
          go_roundw
          case rel => exact ⟨0 + 1, by omega, by go_num, hKr.drewN _⟩
          case measure => simp [intOf]; omega
      · have cq := hc q (by omega)
        have q0 : (0 : Int) ≤ (q : Int) := by omega
        have q1 : (q : Int) < (zs.length : Int) := by omega
        rw [hs] at c2
        rw [hy] at cq
        clear hs hc hy
        generalize zs.getD (q + 1) 0 = x at c1 hx hx2 hx3 xb
        clear hx xb
        cases l <;> cases m
        all_goals
          simp only [bt] at c2
          go_wp2_with fail
          go_quiet (fail)
          go_wp2
          go_roundw
          case rel => exact ⟨q + 1 + 1, by omega, by go_num, hKr.drewN _⟩
          case measure => simp [intOf]; omega
      · have cq := hc q (by omega)
        have q0 : (0 : Int) ≤ (q : Int) := by omega
        have q1 : (q : Int) < (zs.length : Int) := by omega
        rw [hs] at c2
        clear hs hc
        generalize zs.getD (q + 1) 0 = x at c1 c2 hx hx2 hx3 xb
        generalize zs.getD q 0 = y at cq c2 hy y0 y1
        have hy2 : (y != -9999) = true := bne_iff_ne.2 hy
        have hy3 : (y == -9999) = false := beq_eq_false_iff_ne.2 hy
        have hw1 : IntKind.i64.wrap (x - y) = x - y := IntWalk.i64_in _ ⟨by omega, by omega⟩
        have hw2 : IntKind.i64.wrap (y - x) = y - x := IntWalk.i64_in _ ⟨by omega, by omega⟩
        clear hx hy
        rcases stp_parts x y st with ⟨hs, d1⟩ | ⟨hs, d1, d2⟩ | ⟨hs, d1, d2⟩
        all_goals
          rw [hs] at c2
          clear hs
          cases l <;> cases m
          all_goals
            simp only [bt] at c2
            go_wp2_with fail
            go_quiet (fail)
            go_wp2
            go_roundw
            case rel => exact ⟨q + 1 + 1, by omega, by go_num, hKr.drewN _⟩
            case measure => simp [intOf]; omega
end Go.Proofs.Ytaghgapkjdkkfaa
