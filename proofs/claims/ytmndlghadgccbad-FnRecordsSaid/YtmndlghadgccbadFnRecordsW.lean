/- P97: a record is greater than all before. -/
import Derived.Test.YtmndlghadgccbadDrEx
import Derived.Test.YtmndlghadgccbadRc
import Derived.Test.YtmndlghadgccbadLw
import Derived.Test.YtmndlghadgccbadHi
import Derived.Test.YtmndlghadgccbadFr
import Derived.LoopTactic
import Derived.IntWalk
namespace Go.Proofs.Ytmndlghadgccbad
open Go.RowKit
set_option linter.unusedVariables false

set_option maxRecDepth 100000 in
set_option maxHeartbeats 6400000 in
theorem walk_FnRecords (a0 : Option Addr) (len0 cap0 : Nat) (z0 : List Int) (w : World) (w0 : IsRow .u8 w a0 len0 cap0 z0) :
    Calls Try.prog 14 #[.slice a0 len0 cap0] w fun e w' => e = .returned (.bool true) ∧ Below w.heap.size w w' := by
  have ha := code_of_row w0
  obtain ⟨hl0, hm0⟩ := ha.1
  unfold maxLen at hm0
  clear w0
  by_cases h : len0 ≤ 1048576
  case' neg =>
    have hd : decide (1048576 < (len0 : Int)) = true := by simp; omega
    go_enter Try.func14, Try.ntmps14
    go_wp2
    go_ret
    exact ⟨rfl, Below.refl _ _⟩
  have hd : decide (1048576 < (len0 : Int)) = false := by simp; omega
  go_enter Try.func14, Try.ntmps14
  go_wp2_with fail
  refine (drawRecordDays a0 len0 cap0 _ ha).mono ?_
  rintro e w1 ⟨a, c, zs, rfl, hl13, hcap, hB, hL1, k1⟩
  clear ha hB
  go_wp2_with fail
  refine (rc_impl a c zs _ hL1 (by omega)).mono ?_
  rintro e w2 ⟨x2, c2, rfl, hc2, hF2, k2⟩
  go_wp2_with fail
  refine (rc_spec a c zs _ (hL1.keep k2) (by omega)).mono ?_
  rintro e w3 ⟨x3, c3, rfl, hc3, hF3, k3⟩
  have hr12 := rcL_len zs
  go_wp2_with fail
  refine (sI_eq x2 x3 _ _ (rcL zs) _ (hF2.ls.keep k3) hF3.ls (by omega)).mono ?_
  rintro e w4 ⟨rfl, k4⟩
  have HO := Lib.hid ((hF2.ls.keep k3).keep k4)
  have HL := Lib.hid (((hL1.keep k2).keep k3).keep k4)
  have K4 : Keep w w4 := ((k1.trans k2).trans k3).trans k4
  have HQS := Lib.hid (sqv_spec a c zs w4 HL.out (by omega))
  have HO3 := Lib.hid (hF3.ls.keep k4)
  clear hF2 hF3 hL1 k1 k2 k3 k4
  rcases Bool.eq_false_or_eq_true (sqB zs) with hs | hs
  case' inr =>
    rw [hs] at HQS
    go_wp2_with fail
    refine HQS.out.mono ?_
    rintro e w5 ⟨rfl, rfl⟩
    go_wp2_with fail
    refine (sI_eq x2 x3 _ _ (rcL zs) _ HO.out HO3.out (by omega)).mono ?_
    rintro e w5 ⟨rfl, k5⟩
    go_wp2
    go_ret
    exact ⟨rfl, K4.trans k5⟩
  rw [hs] at HQS
  have HSQ := Lib.hid hs
  have HMM : Hid (∀ i : Nat, i < zs.length → decide ((i : Int) ∈ rcL zs) = rcA zs i i) := Lib.hid (fun i hi => by
    rw [rcL_yes hs, rcA_eq zs i (by have := sq_at hs hi; omega)]
    rw [Bool.eq_iff_iff, decide_eq_true_eq, rcl_mem]
    constructor
    · intro h; exact h.2
    · intro h; exact ⟨hi, h⟩)
  clear hs
  generalize rcL zs = L at *
  go_wp2_with fail
  refine HQS.out.mono ?_
  rintro e w5 ⟨rfl, rfl⟩
  go_wp2_with fail
  go_loopw [6] (fun i wr => ∃ k : Nat, k ≤ zs.length ∧ i = .int .i64 k ∧ Keep w4 wr) (fun i _ => zs.length - (intOf i).toNat)
  case atStart => exact ⟨0, by omega, rfl, Keep.refl _⟩
  case round =>
    obtain ⟨k, hk, rfl, hK⟩ := hrel
    by_cases hlt : k < zs.length
    case' neg =>
      obtain rfl : k = zs.length := by omega
      go_wp2
      go_ret
      exact ⟨rfl, K4.trans hK⟩
    obtain ⟨b, off, rfl, hb, hcz⟩ := (HL.out.keep hK).all (by omega)
    have HC := Lib.hid hcz
    have hck := hcz k hlt
    obtain ⟨x, hx⟩ : ∃ x, zs.getD k 0 = x := ⟨_, rfl⟩
    have HX := Lib.hid hx
    rw [hx] at hck
    clear hcz hx
    have k0 : (0 : Int) ≤ (k : Int) := by omega
    have kz : (k : Int) < (zs.length : Int) := by omega
    go_wp2_with fail
    go_loopw [7, 8] (fun r i wr2 => ∃ u : Nat, u ≤ k ∧ i = .int .i64 u ∧ r = .bool (rcA zs k u) ∧ Keep wr wr2) (fun _ i _ => k - (intOf i).toNat)
    case atStart => exact ⟨0, by omega, rfl, by rw [rcA, HX.out], Keep.refl _⟩
    case round =>
      obtain ⟨u, hu, rfl, rfl, hK2⟩ := hrel
      by_cases hul : u < k
      · have cu := hK2.cell (HC.out u (by omega))
        have ck := hK2.cell hck
        have HS : Hid (rcA zs k (u + 1) = (rcA zs k u && (decide (zs.getD u 0 = -9999) || decide (zs.getD u 0 < x)))) := Lib.hid (by rw [rcA, HX.out])
        obtain ⟨r, hr⟩ : ∃ r, rcA zs k u = r := ⟨_, rfl⟩
        rw [hr] at HS
        rw [hr]
        clear hr
        generalize zs.getD u 0 = y at cu HS
        have u0 : (0 : Int) ≤ (u : Int) := by omega
        have uz : (u : Int) < (zs.length : Int) := by omega
        have uk : (u : Int) < (k : Int) := by omega
        cases r
        · replace HS : Hid (rcA zs k (u + 1) = false) := Lib.hid (by rw [HS.out]; rfl)
          go_wp2_with fail
          go_quiet (fail)
          go_wp2
          go_roundw
          case rel => exact ⟨u + 1, by omega, by go_num, by rw [HS.out] <;> simp [*], by first | exact hK2 | exact hK2.drewN _⟩
          case measure => simp [intOf]; omega
        · by_cases hy : y = -9999
          · replace HS : Hid (rcA zs k (u + 1) = true) := Lib.hid (by rw [HS.out, hy]; rfl)
            subst hy
            go_wp2_with fail
            go_quiet (fail)
            go_wp2
            go_roundw
            case rel => exact ⟨u + 1, by omega, by go_num, by rw [HS.out] <;> simp [*], by first | exact hK2 | exact hK2.drewN _⟩
            case measure => simp [intOf]; omega
          · have hy2 : (y == -9999) = false := beq_eq_false_iff_ne.2 hy
            by_cases hyx : y < x
            · replace HS : Hid (rcA zs k (u + 1) = true) := Lib.hid (by rw [HS.out, decide_eq_false hy, decide_eq_true hyx]; rfl)
              have dyx : decide (y < x) = true := decide_eq_true hyx
              go_wp2_with fail
              go_quiet (fail)
              go_wp2
              go_roundw
              case rel => exact ⟨u + 1, by omega, by go_num, by rw [HS.out] <;> simp [*], by first | exact hK2 | exact hK2.drewN _⟩
              case measure => simp [intOf]; omega
            · replace HS : Hid (rcA zs k (u + 1) = false) := Lib.hid (by rw [HS.out, decide_eq_false hy, decide_eq_false hyx]; rfl)
              have dyx : decide (y < x) = false := decide_eq_false hyx
              go_wp2_with fail
              go_quiet (fail)
              go_wp2
              go_roundw
              case rel => exact ⟨u + 1, by omega, by go_num, by rw [HS.out] <;> simp [*], by first | exact hK2 | exact hK2.drewN _⟩
              case measure => simp [intOf]; omega
      · obtain rfl : u = k := by omega
        have HI := Lib.hid (hasI_any x2 c2 L (u : Int) _ ((HO.out.keep hK).keep hK2) (by omega))
        rw [HMM.out u hlt] at HI
        obtain ⟨r, hr⟩ : ∃ r, rcA zs u u = r := ⟨_, rfl⟩
        rw [hr] at HI ⊢
        clear hr
        have uk : ¬ (u : Int) < (u : Int) := by omega
        go_wp2_with fail
        refine HI.out.mono ?_
        rintro e w7 ⟨rfl, rfl⟩
        cases r
        all_goals
          go_wp2
          go_roundw
          case rel => exact ⟨u + 1, by omega, by go_num, hK.trans hK2⟩
          case measure => simp [intOf]; omega
end Go.Proofs.Ytmndlghadgccbad
