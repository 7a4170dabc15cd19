/- P45: equal values are told together. -/
import Derived.Test.YtaghgapkjdkkfaaDrSq
import Derived.Test.YtaghgapkjdkkfaaFo
import Derived.Test.YtaghgapkjdkkfaaLw
import Derived.Test.YtaghgapkjdkkfaaFr
import Derived.LoopTactic
import Derived.IntWalk
namespace Go.Proofs.Ytaghgapkjdkkfaa
open Go.RowKit
set_option linter.unusedVariables false

set_option maxRecDepth 100000 in
set_option maxHeartbeats 6400000 in
theorem walk_FnFlagsSame (a0 : Option Addr) (len0 cap0 : Nat) (z0 : List Int) (w : World) (w0 : IsRow .u8 w a0 len0 cap0 z0) :
    Calls Try.prog 5 #[.slice a0 len0 cap0] w fun e w' => e = .returned (.bool true) ∧ Below w.heap.size w w' := by
  have ha := code_of_row w0
  obtain ⟨hl0, hm0⟩ := ha.1
  unfold maxLen at hm0
  clear w0
  by_cases h : len0 ≤ 1048576
  case' neg =>
    have hd : decide (1048576 < (len0 : Int)) = true := by simp; omega
    go_enter Try.func5, Try.ntmps5
    go_wp2
    go_ret
    exact ⟨rfl, Below.refl _ _⟩
  have hd : decide (1048576 < (len0 : Int)) = false := by simp; omega
  go_enter Try.func5, Try.ntmps5
  go_wp2_with fail
  refine (drawFlagsOf a0 len0 cap0 _ ha).mono ?_
  rintro e w1 ⟨a, c, zs, lo, hi, st, rfl, hl13, hcap, hB, hL1, ⟨lo0, lo1⟩, ⟨hi0, hi1⟩, ⟨st0, st1⟩, k1⟩
  have hz := foL_len zs lo hi st
  have HB := Lib.hid hB
  clear ha hB
  go_wp2_with fail
  refine (fo_impl a c zs lo hi st _ hL1 (by omega)).mono ?_
  rintro e w2 ⟨p, q, rfl, hF2, k2⟩
  go_wp2_with fail
  refine (fo_spec a c zs lo hi st _ (hL1.keep k2) (by omega)).mono ?_
  rintro e w3 ⟨p3, q3, rfl, hF3, k3⟩
  have kk : Keep w w3 := (k1.trans k2).trans k3
  have hL := (hL1.keep k2).keep k3
  have hO := hF2.ls.keep k3
  have hW := hF3.ls
  clear hF2 hF3 hL1
  rcases Bool.eq_false_or_eq_true (foOk zs st) with hs | hs
  case' inr =>
    generalize foL zs lo hi st = L at *
    rw [hs]
    clear hs
    go_wp2_with fail
    refine (sI_eq p p3 q q3 L _ hO hW (by omega)).mono ?_
    rintro e w5 ⟨rfl, k5⟩
    go_wp2_with fail
    refine (sI_eq p p3 q q3 L _ (hO.keep k5) (hW.keep k5) (by omega)).mono ?_
    rintro e w7 ⟨rfl, k7⟩
    go_wp2
    go_ret
    exact ⟨rfl, (kk.trans k5).trans k7⟩
  obtain ⟨hq, s0, s1⟩ := foOk_facts hs
  obtain ⟨hl1, hl12⟩ := (sq_facts hq).2
  have HQ := Lib.hid hq
  have HY := Lib.hid (foL_yes (lo := lo) (hi := hi) hs)
  have HG : Hid (∀ k, k < zs.length → (foL zs lo hi st).getD k 0 = fl zs lo hi st k) := Lib.hid (fun k hk => by rw [HY.out, flL_at hk])
  have HLn : Hid ((foL zs lo hi st).length = zs.length) := Lib.hid (by rw [HY.out, flL_len])
  rw [hs]
  clear hs hq HY
  generalize foL zs lo hi st = L at *
  have hle : L.length ≤ zs.length := by have := HLn.out; omega
  have hge : zs.length ≤ L.length := by have := HLn.out; omega
  go_wp2_with fail
  refine (sI_eq p p3 q q3 L _ hO hW (by omega)).mono ?_
  rintro e w4 ⟨rfl, k5⟩
  have L4 := Lib.hid (hL.keep k5)
  have O4 := Lib.hid (hO.keep k5)
  have W4 := Lib.hid (hW.keep k5)
  have K4 : Keep w w4 := kk.trans k5
  clear hL hO hW k1 k2 k3 k5 kk
  have HN : Hid (∀ k, k < zs.length → zs.getD k 0 = -9999 ∨ (-999 ≤ zs.getD k 0 ∧ zs.getD k 0 ≤ 10999)) := Lib.hid (fun k hk => sq_at HQ.out hk)
  go_wp2_with fail
  go_loopw [11] (fun i wr => ∃ k : Nat, k ≤ zs.length ∧ i = .int .i64 k ∧ Keep w4 wr) (fun i _ => zs.length - (intOf i).toNat)
  case atStart => exact ⟨0, by omega, rfl, Keep.refl _⟩
  case round =>
    obtain ⟨k, hk, rfl, hKr⟩ := hrel
    by_cases hlt : k < zs.length
    case' neg =>
      obtain rfl : k = zs.length := by omega
      go_wp2
      go_ret
      exact ⟨rfl, K4.trans hKr⟩
    have hltL : k < L.length := by omega
    obtain ⟨b, off, rfl, hb, hc⟩ := (L4.out.keep hKr).all (by omega)
    obtain ⟨b2, off2, rfl, hb2, c2⟩ := (O4.out.keep hKr).at_ hltL
    have c1 := hc k hlt
    have HC := Lib.hid hc
    have k0 : (0 : Int) ≤ (k : Int) := by omega
    have kz : (k : Int) < (zs.length : Int) := by omega
    have kL : (k : Int) < (L.length : Int) := by omega
    rw [HG.out k hlt] at c2
    obtain ⟨x, hx⟩ : ∃ x, zs.getD k 0 = x := ⟨_, rfl⟩
    have HX := Lib.hid hx
    rw [hx] at c1
    clear hx hc
    obtain ⟨s, hs⟩ : ∃ s, k - 3 = s := ⟨_, rfl⟩
    have HS := Lib.hid hs
    have hmx : IntKind.i64.wrap (max 0 (IntKind.i64.wrap (IntKind.i64.wrap ((k : Int) - 4) + 1))) = (s : Int) := by
      rw [IntWalk.i64_in ((k : Int) - 4) ⟨by omega, by omega⟩, IntWalk.i64_in ((k : Int) - 4 + 1) ⟨by omega, by omega⟩, IntWalk.i64_in (max 0 ((k : Int) - 4 + 1)) ⟨by omega, by omega⟩]
      omega
    have hmx2 : max 0 ((k : Int) - 4 + 1) = (s : Int) := by omega
    have HB := (show b < wr.heap.size from hb)
    clear hs
    go_wp2_with fail
    all_goals
      go_loopw [12, 13] (fun r v wr2 => ∃ m j n : Nat, Hid (s + m = j) ∧ j ≤ zs.length ∧ Hid (j ≤ k + 4 ∧ ∀ m', m' < m → rwN zs k s m' < 4) ∧ Hid (rwN zs k s m = n) ∧ n ≤ 4 ∧ r = .int .i64 (n : Int) ∧ v = .int .i64 (j : Int) ∧ Keep wr wr2) (fun _ v _ => zs.length - (intOf v).toNat)
      case atStart => exact ⟨0, s, 0, Lib.hid rfl, by have := HS.out; omega, Lib.hid ⟨by have := HS.out; omega, fun m' h => absurd h (by omega)⟩, Lib.hid rfl, by omega, rfl, (by congr 1; have := HS.out; omega), Keep.refl _⟩
      case round =>
        obtain ⟨m, j, n, HJ, hj, HM, HNN, hn4, rfl, rfl, hK2⟩ := hrel
        have hKK := hKr.trans hK2
        have d1 := hK2.cell c1
        have d2 := hK2.cell c2
        have hex : (j < zs.length ∧ j < k + 4 ∧ n < 4) ∨ ((¬ j < zs.length ∨ (j < zs.length ∧ ¬ j < k + 4) ∨ (j < zs.length ∧ j < k + 4 ∧ ¬ n < 4)) ∧ Hid (decide (n = 4) = samB zs k)) := by
          by_cases hgo : j < zs.length ∧ j < k + 4 ∧ n < 4
          · exact .inl hgo
          · refine .inr ⟨by omega, Lib.hid ?_⟩
            have h1 := HJ.out
            have h2 := HNN.out
            have h3 := HM.out
            rw [← HS.out] at h1 h2 h3
            rw [← h2]
            exact rwN_run hlt (by omega) (by omega) h3.2 (by rw [h2]; omega)
        rcases hex with ⟨g1, g2, g3⟩ | ⟨hex, HR⟩
        · have dj := hK2.cell (HC.out j g1)
          have hjz : (j : Int) < (zs.length : Int) := by omega
          have hjk : (j : Int) < (k : Int) + 4 := by omega
          have hn : (n : Int) < 4 := by omega
          by_cases hE : zs.getD j 0 = x
          · have HN2 : Hid (rwN zs k s (m + 1) = n + 1) := Lib.hid (by simp only [rwN]; rw [HJ.out, HX.out, if_pos hE, HNN.out])
            have HM2 : Hid (j + 1 ≤ k + 4 ∧ ∀ m', m' < m + 1 → rwN zs k s m' < 4) := Lib.hid ⟨by omega, fun m' h => by
              by_cases hm : m' < m
              · exact HM.out.2 m' hm
              · obtain rfl : m' = m := by omega
                have := HNN.out; omega⟩
            have HJ2 : Hid (s + (m + 1) = j + 1) := Lib.hid (by have := HJ.out; omega)
            rw [hE] at dj
            clear hE
            go_wp2_with fail
            go_quiet (fail)
            go_wp2
            go_roundw
            case rel => exact ⟨m + 1, j + 1, n + 1, HJ2, by omega, HM2, HN2, by omega, by go_num, by go_num, hK2.drewN _⟩
            case measure => simp [intOf]; omega
          · have HN2 : Hid (rwN zs k s (m + 1) = 0) := Lib.hid (by simp only [rwN]; rw [HJ.out, HX.out, if_neg hE])
            have HM2 : Hid (j + 1 ≤ k + 4 ∧ ∀ m', m' < m + 1 → rwN zs k s m' < 4) := Lib.hid ⟨by omega, fun m' h => by
              by_cases hm : m' < m
              · exact HM.out.2 m' hm
              · obtain rfl : m' = m := by omega
                have := HNN.out; omega⟩
            have HJ2 : Hid (s + (m + 1) = j + 1) := Lib.hid (by have := HJ.out; omega)
            have hE2 : (zs.getD j 0 == x) = false := beq_eq_false_iff_ne.2 hE
            generalize zs.getD j 0 = y at dj hE2
            clear hE
            go_wp2_with fail
            go_quiet (fail)
            go_wp2
            go_roundw
            case rel => exact ⟨m + 1, j + 1, 0, HJ2, by omega, HM2, HN2, by omega, rfl, by go_num, hK2.drewN _⟩
            case measure => simp [intOf]; omega
        · have HF := Lib.hid (fl_cases zs lo hi st k)
          rw [HX.out] at HF
          rcases HF.out with ⟨hx1, hf⟩ | ⟨hx1, hf⟩
          · rw [hf] at d2
            subst hx1
            clear hf HF HR
            rcases hex with g | ⟨g1, g⟩ | ⟨g1, g2, g⟩
            all_goals
              go_wp2_with fail
              go_quiet (fail)
              go_wp2
              go_roundw
              case rel => exact ⟨k + 1, by omega, by go_num, hKK.drewN _⟩
              case measure => simp [intOf]; omega
          · have hx2 : (x == -9999) = false := beq_eq_false_iff_ne.2 hx1
            have hx3 : (x != -9999) = true := bne_iff_ne.2 hx1
            rw [hf] at d2
            clear hf HF hx1
            generalize limB lo hi x = l1 at d2
            generalize stpB zs st k = l2 at d2
            generalize samB zs k = l3 at d2 HR
            have hn4' : (l3 = true ∧ n = 4) ∨ (l3 = false ∧ n ≠ 4 ∧ ((n : Int) == 4) = false) := by
              have := HR.out
              rcases l3 with _ | _
              · right; refine ⟨rfl, by simpa using this, ?_⟩
                have h4 : n ≠ 4 := by simpa using this
                simp; omega
              · left; refine ⟨rfl, by simpa using this⟩
            clear HR
            rcases hn4' with ⟨rfl, rfl⟩ | ⟨rfl, hn6, hn5⟩
            all_goals
              rcases hex with g | ⟨g1, g⟩ | ⟨g1, g2, g⟩
              all_goals
                cases l1 <;> cases l2
                all_goals
                  simp only [bt] at d2
                  try exact absurd g (by omega)
                  try (
                    go_wp2_with fail
                    go_quiet (fail)
                    go_wp2
                    go_roundw
                    case rel => exact ⟨k + 1, by omega, by go_num, hKK.drewN _⟩
                    case measure => simp [intOf]; omega)
end Go.Proofs.Ytaghgapkjdkkfaa
