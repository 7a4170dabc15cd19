/- P73: widths add up. -/
import Derived.Test.YtmndlghadgccbabDrGw
import Derived.Test.YtmndlghadgccbabGw
import Derived.Test.YtmndlghadgccbabFr
import Derived.LoopTactic
import Derived.IntWalk
namespace Go.Proofs.Ytmndlghadgccbab
open Go.RowKit
set_option linter.unusedVariables false

set_option maxRecDepth 100000 in
set_option maxHeartbeats 6400000 in
theorem walk_FnFillWidth (a0 : Option Addr) (len0 cap0 : Nat) (z0 : List Int) (w : World) (w0 : IsRow .u8 w a0 len0 cap0 z0) :
    Calls Try.prog 10 #[.slice a0 len0 cap0] w fun e w' => e = .returned (.bool true) ∧ Below w.heap.size w w' := by
  have ha := code_of_row w0
  obtain ⟨hl0, hm0⟩ := ha.1
  unfold maxLen at hm0
  clear w0
  by_cases h : len0 ≤ 1048576
  case' neg =>
    have hd : decide (1048576 < (len0 : Int)) = true := by simp; omega
    go_enter Try.func10, Try.ntmps10
    go_wp2
    go_ret
    exact ⟨rfl, Below.refl _ _⟩
  have hd : decide (1048576 < (len0 : Int)) = false := by simp; omega
  go_enter Try.func10, Try.ntmps10
  go_wp2_with fail
  refine (drawFillWidth a0 len0 cap0 _ ha).mono ?_
  rintro e w1 ⟨a, c, rs, rfl, hl13, hcap, hL1, k1⟩
  clear ha
  go_wp2_with fail
  refine (wd_impl a c rs _ hL1 (by omega)).mono ?_
  rintro e w2 ⟨rfl, k2⟩
  go_wp2_with fail
  refine (wd_spec a c rs _ (hL1.keep k2) (by omega)).mono ?_
  rintro e w3 ⟨rfl, k3⟩
  have K3 : Keep w w3 := (k1.trans k2).trans k3
  have HL := Lib.hid ((hL1.keep k2).keep k3)
  clear hL1 k1 k2 k3
  by_cases hneg : wdV rs < 0
  · have d : decide (wdV rs < 0) = true := decide_eq_true hneg
    generalize wdV rs = v at *
    go_wp2
    go_ret
    exact ⟨rfl, K3⟩
  have hB : wdB rs = true := by
    cases h9 : wdB rs
    · exfalso; apply hneg; rw [wdV, h9, if_neg (by simp)]; omega
    · rfl
  have hB2 := hB
  simp only [wdB, Bool.and_eq_true, decide_eq_true_eq] at hB2
  obtain ⟨hr12, hall⟩ := hB2
  have HV := Lib.hid (wdV_yes hr12 hall)
  have HA := Lib.hid hall
  have d : decide (wdV rs < 0) = false := decide_eq_false hneg
  clear hB hall hneg
  generalize wdV rs = v at *
  go_wp2_with fail
  go_loopw [6, 7] (fun n i wr => ∃ k : Nat, k ≤ rs.length ∧ i = .int .i64 k ∧ n = .int .i64 (wdN rs k) ∧ Keep w3 wr) (fun _ i _ => rs.length - (intOf i).toNat)
  case atStart => exact ⟨0, by omega, rfl, rfl, Keep.refl _⟩
  case round =>
    obtain ⟨k, hk, rfl, rfl, hK⟩ := hrel
    have hbd := wdN_bd k hk (by
      rw [List.all_eq_true]
      intro r hr
      exact List.all_eq_true.1 HA.out r (List.mem_of_mem_take hr))
    by_cases hlt : k < rs.length
    case' neg =>
      obtain rfl : k = rs.length := by omega
      rw [← HV.out]
      go_wp2
      go_ret
      exact ⟨rfl, K3.trans hK⟩
    have hru := uall_at HA.out hlt
    have hf := ru_facts hru
    obtain ⟨b, off, rfl, hb, hat⟩ := HL.out.at_ hlt
    have HS : Hid (wdN rs (k + 1) = wdN rs k + (uH (rs.getD k u0) - uL (rs.getD k u0))) := Lib.hid rfl
    have HC := Lib.hid (fun cc W (kk : Keep w3 W) => wd_impl (some ⟨b, off + k * 2, none⟩) cc [rs.getD k u0] W (.inr ⟨b, off + k * 2, rfl, Nat.lt_of_lt_of_le hb kk.size, fun i hi => by
      obtain rfl : i = 0 := by simpa using hi
      exact hat.keep kk⟩) (by simp))
    rw [show wdV [rs.getD k u0] = uH (rs.getD k u0) - uL (rs.getD k u0) by
      rw [wdV_yes (by simp) (by simp only [List.all_cons, List.all_nil, hru]; rfl)]
      simp [wdN]] at HC
    clear hat hru
    generalize wdN rs k = n at *
    generalize uL (rs.getD k u0) = x0 at *
    generalize uH (rs.getD k u0) = x1 at *
    by_cases hck : c = k
    · exfalso; omega
    have hck2 : ¬ (c = k) := hck
    go_wp2_with fail
    refine (HC.out _ _ hK).mono ?_
    rintro e w5 ⟨rfl, k5⟩
    go_wp2
    go_roundw
    case rel => exact ⟨k + 1, by omega, by go_num, by rw [HS.out] <;> go_num, hK.trans k5⟩
    case measure => simp [intOf]; omega
end Go.Proofs.Ytmndlghadgccbab
