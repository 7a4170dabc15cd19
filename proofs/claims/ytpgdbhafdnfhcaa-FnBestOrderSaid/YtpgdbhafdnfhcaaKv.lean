/- Cuts: the program and the model answer 'ctB'. -/
import Derived.Test.YtpgdbhafdnfhcaaPc
import Derived.Test.YtpgdbhafdnfhcaaSq
import Derived.LoopTactic
import Derived.Deep.QuietTactic
import Derived.BigQuiet
import Derived.IntWalk
namespace Go.Proofs.Ytpgdbhafdnfhcaa
open Go.RowKit
set_option linter.unusedVariables false

theorem quietK {P : Program} {f : FuncId} {args : Array Value} {w : World} {n : Nat} {v : Value}
    (h : Calls P f args (w.drewN n) fun e w' => e = .returned v ∧ w.drewN n = w') : Calls P f args (w.drewN n) fun e w'' => e = .returned v ∧ ∃ m, w'' = w.drewN m :=
  h.mono fun _ _ ⟨he, hm⟩ => ⟨he, n, hm.symm⟩
theorem ctB_bad {cs : List Int} {n : Int} (h : ¬ (1 ≤ n ∧ n ≤ 8)) : ctB cs n = false := by rw [ctB, inB_no (by omega)]; rfl
theorem ctB_no {cs : List Int} {n : Int} {k : Nat} (hk : k < cs.length) (h : ctS cs n k = false) : ctB cs n = false := by rw [ctB, ctA_no hk h, Bool.and_false]
theorem ctB_yes {cs : List Int} {n : Int} (h : 1 ≤ n ∧ n ≤ 8) (h2 : ctA cs n cs.length = true) : ctB cs n = true := by rw [ctB, inB_yes h, h2]; rfl
theorem ctP_nn {cs : List Int} {n : Int} : ∀ k, ctA cs n k = true → 0 ≤ ctP cs k
  | 0, _ => by rw [ctP_zero]; exact Int.le_refl _
  | k + 1, h => by
    have h1 := ctS_facts (ctA_at h (show k < k + 1 by omega))
    rw [ctA, Bool.and_eq_true] at h
    have := ctP_nn k h.1
    rw [ctP_succ]; omega
set_option maxRecDepth 100000 in
set_option maxHeartbeats 1000000 in
theorem cv_impl (a : Option Addr) (cap : Nat) (cs : List Int) (n : Int) (w : World) (h : Ls w a cs) (hm : cs.length ≤ 4611686018427387904) :
    Calls Try.prog 34 #[.slice a cs.length cap, .int .i64 n] w fun e w' => e = .returned (.bool (ctB cs n)) ∧ w = w' := by
  by_cases hn : 1 ≤ n ∧ n ≤ 8
  case' neg =>
    have HF := Lib.hid (ctB_bad (cs := cs) hn)
    have hc : decide (n < 1) = true ∨ (decide (n < 1) = false ∧ decide (8 < n) = true) := by
      by_cases h0 : n < 1
      · left; exact decide_eq_true h0
      · right; exact ⟨decide_eq_false h0, decide_eq_true (by omega)⟩
    clear hn
    rcases hc with hc | ⟨hc, hd⟩
    all_goals
      go_enter Try.func34, Try.ntmps34
      go_wp2
      go_ret
      exact ⟨retB HF.out.symm, rfl⟩
  have HN := Lib.hid hn
  obtain ⟨n1, n8⟩ := hn
  have d1 : decide (n < 1) = false := decide_eq_false (by omega)
  have d2 : decide (8 < n) = false := decide_eq_false (by omega)
  go_enter Try.func34, Try.ntmps34
  go_wp2_with fail
  go_loop [5, 16] (fun b i => ∃ k : Nat, k ≤ cs.length ∧ i = .int .i64 k ∧ b = .int .i64 (ctP cs k) ∧ Hid (ctA cs n k = true)) (fun _ i => cs.length - (intOf i).toNat)
  case atStart => exact ⟨0, by omega, rfl, rfl, Lib.hid rfl⟩
  case round =>
    obtain ⟨k, hk, rfl, rfl, HA⟩ := hrel
    by_cases hlt : k < cs.length
    · obtain ⟨b, off, rfl, hb, hc⟩ := h.at_ hlt
      have HS : Hid (ctP cs (k + 1) = cs.getD k 0) := Lib.hid (ctP_succ cs k)
      have HY : Hid (∀ h : ctP cs k < cs.getD k 0 ∧ cs.getD k 0 < n, ctA cs n (k + 1) = true) := Lib.hid (fun h => ctA_yes HA.out (ctS_of h))
      have HB : Hid (∀ h : cs.getD k 0 ≤ ctP cs k ∨ n ≤ cs.getD k 0, ctB cs n = false) := Lib.hid (fun h => ctB_no hlt (ctS_not h))
      generalize ctP cs k = p at *
      generalize cs.getD k 0 = x at *
      by_cases q1 : x ≤ p
      · have HF := Lib.hid (HB.out (.inl q1))
        have e1 : decide (x ≤ p) = true := decide_eq_true q1
        go_wp2
        go_ret
        exact ⟨retB HF.out.symm, rfl⟩
      by_cases q2 : n ≤ x
      · have HF := Lib.hid (HB.out (.inr q2))
        have e1 : decide (x ≤ p) = false := decide_eq_false q1
        have e2 : decide (n ≤ x) = true := decide_eq_true q2
        go_wp2
        go_ret
        exact ⟨retB HF.out.symm, rfl⟩
      have HF := Lib.hid (HY.out ⟨by omega, by omega⟩)
      have e1 : decide (x ≤ p) = false := decide_eq_false q1
      have e2 : decide (n ≤ x) = false := decide_eq_false q2
      go_wp2
      go_round
      case rel => exact ⟨k + 1, by omega, by go_num, by rw [HS.out], HF⟩
      case measure => simp [intOf]; omega
    · obtain rfl : k = cs.length := by omega
      have HF := Lib.hid (ctB_yes HN.out HA.out)
      go_wp2
      go_ret
      exact ⟨retB HF.out.symm, rfl⟩
theorem cv_implK (a : Option Addr) (cap : Nat) (cs : List Int) (n : Int) (w : World) (h : Ls w a cs) (hm : cs.length ≤ 4611686018427387904) :
    Calls Try.prog 34 #[.slice a cs.length cap, .int .i64 n] w fun e w' => e = .returned (.bool (ctB cs n)) ∧ Keep w w' :=
  (cv_impl a cap cs n w h hm).mono fun e w' ⟨he, hw⟩ => ⟨he, hw ▸ Keep.refl _⟩
set_option maxRecDepth 100000 in
set_option maxHeartbeats 2000000 in
theorem cv_spec (a : Option Addr) (cap : Nat) (cs : List Int) (n : Int) (w : World) (h : Ls w a cs) (hm : cs.length ≤ 4611686018427387904) :
    Calls Try.prog 76 #[.slice a cs.length cap, .int .i64 n] w fun e w' => e = .returned (.bool (ctB cs n)) ∧ Keep w w' := by
  obtain ⟨m, hmm⟩ : ∃ m, IntKind.i64.wrap (n - 1) = m := ⟨_, rfl⟩
  have HM := Lib.hid hmm
  have hm2 : wrap64 (n - 1) = m := by rw [← IntWalk.i64_left]; exact hmm
  by_cases hn : 1 ≤ n ∧ n ≤ 8
  case' neg =>
    have HF := Lib.hid (ctB_bad (cs := cs) hn)
    have HL := Lib.hid (fun W => l6In_any n 1 8 W)
    rw [inB_no (show n < 1 ∨ 8 < n by omega)] at HL
    clear hn
    go_enter Try.func76, Try.ntmps76
    go_wp2_with fail
    go_loopw [5] (fun i wr => ∃ k : Nat, k ≤ cs.length ∧ i = .int .i64 k ∧ Keep w wr) (fun i _ => cs.length - (intOf i).toNat)
    case atStart => exact ⟨0, by omega, rfl, Keep.refl _⟩
    case round =>
      obtain ⟨k, hk, rfl, hK⟩ := hrel
      by_cases hlt : k < cs.length
      · obtain ⟨b, off, rfl, hb, hcc⟩ := (h.keep hK).all (by omega)
        have hc := hcc k hlt
        have k0 : (0 : Int) ≤ (k : Int) := by omega
        have kz : (k : Int) < (cs.length : Int) := by omega
        rcases (show k = 0 ∨ ∃ j, k = j + 1 by cases k with | zero => exact .inl rfl | succ j => exact .inr ⟨j, rfl⟩) with rfl | ⟨j, rfl⟩
        · simp only [Nat.add_zero] at hc
          clear hcc
          generalize cs.getD 0 0 = x at *
          have HI := Lib.hid (fun W => l6In_any x 1 m W)
          obtain ⟨bb, hbb⟩ : ∃ bb, inB x 1 m = bb := ⟨_, rfl⟩
          rw [hbb] at HI
          clear hbb
          cases bb
          · go_wp2_with fail
            go_quiet ((go_at_call 50; exact quietK (HI.out _)))
            go_wp2
            go_ret
            exact ⟨retB HF.out.symm, by first | exact hK.drewN _ | exact hK⟩
          · go_wp2_with fail
            go_quiet ((go_at_call 50; exact quietK (HI.out _)))
            go_wp2
            go_roundw
            case rel => exact ⟨0 + 1, by omega, by go_num, by first | exact hK.drewN _ | exact hK⟩
            case measure => simp [intOf]; omega
        · have hp := hcc j (by omega)
          have j0 : (0 : Int) ≤ (j : Int) := by omega
          have jz : (j : Int) < (cs.length : Int) := by omega
          clear hcc
          generalize cs.getD (j + 1) 0 = x at *
          generalize cs.getD j 0 = p at *
          have HI := Lib.hid (fun W => l6In_any x 1 m W)
          obtain ⟨bb, hbb⟩ : ∃ bb, inB x 1 m = bb := ⟨_, rfl⟩
          rw [hbb] at HI
          clear hbb
          cases bb
          · go_wp2_with fail
            go_quiet ((go_at_call 50; exact quietK (HI.out _)))
            go_wp2
            go_ret
            exact ⟨retB HF.out.symm, by first | exact hK.drewN _ | exact hK⟩
          · by_cases q : x ≤ p
            · have e1 : decide (x ≤ p) = true := decide_eq_true q
              go_wp2_with fail
              go_quiet ((go_at_call 50; exact quietK (HI.out _)))
              go_wp2
              go_ret
              exact ⟨retB HF.out.symm, by first | exact hK.drewN _ | exact hK⟩
            · have e1 : decide (x ≤ p) = false := decide_eq_false q
              go_wp2_with fail
              go_quiet ((go_at_call 50; exact quietK (HI.out _)))
              go_wp2
              go_roundw
              case rel => exact ⟨j + 1 + 1, by omega, by go_num, by first | exact hK.drewN _ | exact hK⟩
              case measure => simp [intOf]; omega
      · go_wp2_with fail
        refine (HL.out _).mono ?_
        rintro e w' ⟨rfl, rfl⟩
        go_wp2
        go_ret
        exact ⟨retB HF.out.symm, hK⟩
  have HN := Lib.hid hn
  obtain ⟨n1, n8⟩ := hn
  obtain rfl : m = n - 1 := by rw [← hmm]; exact IntWalk.i64_in _ (by omega)
  have HL := Lib.hid (fun W => l6In_any n 1 8 W)
  rw [inB_yes (show 1 ≤ n ∧ n ≤ 8 by omega)] at HL
  clear hm2
  go_enter Try.func76, Try.ntmps76
  go_wp2_with fail
  go_loopw [5] (fun i wr => ∃ k : Nat, k ≤ cs.length ∧ i = .int .i64 k ∧ Hid (ctA cs n k = true) ∧ Keep w wr) (fun i _ => cs.length - (intOf i).toNat)
  case atStart => exact ⟨0, by omega, rfl, Lib.hid rfl, Keep.refl _⟩
  case round =>
    obtain ⟨k, hk, rfl, HA, hK⟩ := hrel
    by_cases hlt : k < cs.length
    case' neg =>
      obtain rfl : k = cs.length := by omega
      have HF := Lib.hid (ctB_yes HN.out HA.out)
      go_wp2_with fail
      refine (HL.out _).mono ?_
      rintro e w' ⟨rfl, rfl⟩
      go_wp2
      go_ret
      exact ⟨retB HF.out.symm, hK⟩
    obtain ⟨b, off, rfl, hb, hcc⟩ := (h.keep hK).all (by omega)
    have hc := hcc k hlt
    have k0 : (0 : Int) ≤ (k : Int) := by omega
    have kz : (k : Int) < (cs.length : Int) := by omega
    have HY : Hid (∀ h : ctP cs k < cs.getD k 0 ∧ cs.getD k 0 < n, ctA cs n (k + 1) = true) := Lib.hid (fun h => ctA_yes HA.out (ctS_of h))
    have HB : Hid (∀ h : cs.getD k 0 ≤ ctP cs k ∨ n ≤ cs.getD k 0, ctB cs n = false) := Lib.hid (fun h => ctB_no hlt (ctS_not h))
    have hp0 := ctP_nn k HA.out
    rcases (show k = 0 ∨ ∃ j, k = j + 1 by cases k with | zero => exact .inl rfl | succ j => exact .inr ⟨j, rfl⟩) with rfl | ⟨j, rfl⟩
    · simp only [Nat.add_zero] at hc
      rw [ctP_zero] at HY HB
      clear hcc hp0
      generalize cs.getD 0 0 = x at *
      have HI := Lib.hid (fun W => l6In_any x 1 (n - 1) W)
      by_cases q : 1 ≤ x ∧ x ≤ n - 1
      · rw [inB_yes q] at HI
        have HF := Lib.hid (HY.out ⟨by omega, by omega⟩)
        clear q
        go_wp2_with fail
        go_quiet ((go_at_call 50; exact quietK (HI.out _)))
        go_wp2
        go_roundw
        case rel => exact ⟨0 + 1, by omega, by go_num, HF, by first | exact hK.drewN _ | exact hK⟩
        case measure => simp [intOf]; omega
      · rw [inB_no (show x < 1 ∨ n - 1 < x by omega)] at HI
        have HF := Lib.hid (HB.out (by omega))
        clear q
        go_wp2_with fail
        go_quiet ((go_at_call 50; exact quietK (HI.out _)))
        go_wp2
        go_ret
        exact ⟨retB HF.out.symm, by first | exact hK.drewN _ | exact hK⟩
    · have hp := hcc j (by omega)
      have j0 : (0 : Int) ≤ (j : Int) := by omega
      have jz : (j : Int) < (cs.length : Int) := by omega
      rw [ctP_succ] at HY HB hp0
      clear hcc
      generalize cs.getD (j + 1) 0 = x at *
      generalize cs.getD j 0 = p at *
      have HI := Lib.hid (fun W => l6In_any x 1 (n - 1) W)
      by_cases q : 1 ≤ x ∧ x ≤ n - 1
      · rw [inB_yes q] at HI
        by_cases q2 : x ≤ p
        · have HF := Lib.hid (HB.out (.inl q2))
          have e1 : decide (x ≤ p) = true := decide_eq_true q2
          clear q
          go_wp2_with fail
          go_quiet ((go_at_call 50; exact quietK (HI.out _)))
          go_wp2
          go_ret
          exact ⟨retB HF.out.symm, by first | exact hK.drewN _ | exact hK⟩
        · have HF := Lib.hid (HY.out ⟨by omega, by omega⟩)
          have e1 : decide (x ≤ p) = false := decide_eq_false q2
          clear q
          go_wp2_with fail
          go_quiet ((go_at_call 50; exact quietK (HI.out _)))
          go_wp2
          go_roundw
          case rel => exact ⟨j + 1 + 1, by omega, by go_num, HF, by first | exact hK.drewN _ | exact hK⟩
          case measure => simp [intOf]; omega
      · rw [inB_no (show x < 1 ∨ n - 1 < x by omega)] at HI
        have HF := Lib.hid (HB.out (by omega))
        clear q
        go_wp2_with fail
        go_quiet ((go_at_call 50; exact quietK (HI.out _)))
        go_wp2
        go_ret
        exact ⟨retB HF.out.symm, by first | exact hK.drewN _ | exact hK⟩
end Go.Proofs.Ytpgdbhafdnfhcaa
