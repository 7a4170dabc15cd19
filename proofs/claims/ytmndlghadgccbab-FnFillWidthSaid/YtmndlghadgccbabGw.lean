/- Widths of ranges: the program and the model answer 'wdV'. -/
import Derived.Test.YtmndlghadgccbabGa
namespace Go.Proofs.Ytmndlghadgccbab
open Go.RowKit
set_option linter.unusedVariables false

def ruB (r : R2) : Bool := rgOk (uL r) (uH r)
def wdN (rs : List R2) : Nat → Int
  | 0 => 0
  | k + 1 => wdN rs k + (uH (rs.getD k u0) - uL (rs.getD k u0))
def wdB (rs : List R2) : Bool := decide (rs.length ≤ 12) && rs.all ruB
def wdV (rs : List R2) : Int := if wdB rs then wdN rs rs.length else -1
theorem wdV_yes {rs : List R2} (h : rs.length ≤ 12) (h2 : rs.all ruB = true) : wdV rs = wdN rs rs.length := by rw [wdV, wdB, decide_eq_true h, h2]; rfl
theorem wdV_long {rs : List R2} (h : 12 < rs.length) : wdV rs = -1 := by rw [wdV, wdB, decide_eq_false (show ¬ rs.length ≤ 12 by omega)]; rfl
theorem wdV_bad {rs : List R2} {k : Nat} (hk : k < rs.length) (h : ruB (rs.getD k u0) = false) : wdV rs = -1 := by rw [wdV, wdB, uall_not ruB rs k hk h, Bool.and_false]; rfl
theorem ru_facts {r : R2} (h : ruB r = true) : -99999 ≤ uL r ∧ uL r ≤ uH r ∧ uH r ≤ 99999 := by
  simp only [ruB, rgOk, inB, Bool.and_eq_true, decide_eq_true_eq] at h; omega
theorem wdN_bd {rs : List R2} : ∀ k, k ≤ rs.length → (rs.take k).all ruB = true → 0 ≤ wdN rs k ∧ wdN rs k ≤ 200000 * (k : Int)
  | 0, _, _ => by simp [wdN]
  | k + 1, hk, h => by
    rw [utake_all _ _ _ hk, Bool.and_eq_true] at h
    have h1 := wdN_bd k (by omega) h.1
    have h2 := ru_facts h.2
    simp only [wdN]; omega
theorem utake_ok {rs : List R2} {k : Nat} (h : ¬ k < rs.length) : rs.take k = rs := List.take_of_length_le (by omega)
set_option maxRecDepth 100000 in
set_option maxHeartbeats 2000000 in
theorem wd_impl (a : Option Addr) (cap : Nat) (rs : List R2) (w : World) (h : Rr w a rs) (hm : rs.length ≤ 1048576) :
    Calls Try.prog 24 #[.slice a rs.length cap] w fun e w' => e = .returned (.int .i64 (wdV rs)) ∧ Keep w w' := by
  by_cases h12 : 12 < rs.length
  · have HF := Lib.hid (wdV_long h12)
    have d : decide (12 < (rs.length : Int)) = true := decide_eq_true (by omega)
    go_enter Try.func24, Try.ntmps24
    go_wp2
    go_ret
    exact ⟨retI HF.out.symm, Keep.refl _⟩
  have d : decide (12 < (rs.length : Int)) = false := decide_eq_false (by omega)
  go_enter Try.func24, Try.ntmps24
  go_wp2_with fail
  go_loopw [3, 11] (fun n i wr => ∃ k : Nat, k ≤ rs.length ∧ i = .int .i64 k ∧ n = .int .i64 (wdN rs k) ∧ Hid ((rs.take k).all ruB = true) ∧ Keep w wr) (fun _ i _ => rs.length - (intOf i).toNat)
  case atStart => exact ⟨0, by omega, rfl, rfl, Lib.hid rfl, Keep.refl _⟩
  case round =>
    obtain ⟨k, hk, rfl, rfl, HA, hK⟩ := hrel
    have hbd := wdN_bd k hk HA.out
    by_cases hlt : k < rs.length
    · obtain ⟨b, off, rfl, hb, ⟨c0, c1⟩⟩ := (h.keep hK).at_ hlt
      have HS : Hid (wdN rs (k + 1) = wdN rs k + (uH (rs.getD k u0) - uL (rs.getD k u0))) := Lib.hid rfl
      rcases Bool.eq_false_or_eq_true (ruB (rs.getD k u0)) with hr | hr
      · have hf := ru_facts hr
        have HA2 : Hid ((rs.take (k + 1)).all ruB = true) := Lib.hid (by rw [utake_all _ _ _ hlt, HA.out, hr]; rfl)
        have hr' : rgOk (uL (rs.getD k u0)) (uH (rs.getD k u0)) = true := hr
        clear hr
        generalize wdN rs k = n at *
        generalize uL (rs.getD k u0) = x0 at *
        generalize uH (rs.getD k u0) = x1 at *
        go_wp2_with fail
        refine (rgMeth x0 x1 _).mono ?_
        rintro e w1 ⟨he, k1⟩
        rw [hr'] at he
        subst he
        have n0 : w1.cell? ⟨wr.heap.size, 0, none⟩ = some (.int .i64 x0) := k1.cell (by go_simp)
        have n1 : w1.cell? ⟨wr.heap.size, 1, none⟩ = some (.int .i64 x1) := k1.cell (by go_simp)
        go_wp2_with fail
        try go_quiet (fail)
        try go_wp2
        go_roundw
        case rel => exact ⟨k + 1, by omega, by go_num, by rw [HS.out] <;> go_num, HA2, by first | exact hK.trans k1 | exact (hK.trans k1).drewN _ | exact (hK.alloc _).trans k1⟩
        case measure => simp [intOf]; omega
      · have HF := Lib.hid (wdV_bad hlt hr)
        have hr' : rgOk (uL (rs.getD k u0)) (uH (rs.getD k u0)) = false := hr
        clear hr
        generalize wdN rs k = n at *
        generalize uL (rs.getD k u0) = x0 at *
        generalize uH (rs.getD k u0) = x1 at *
        go_wp2_with fail
        refine (rgMeth x0 x1 _).mono ?_
        rintro e w1 ⟨he, k1⟩
        rw [hr'] at he
        subst he
        go_wp2
        go_ret
        exact ⟨retI HF.out.symm, by first | exact hK.trans k1 | exact (hK.trans k1).drewN _ | exact (hK.alloc _).trans k1⟩
    · have HF := Lib.hid (wdV_yes (show rs.length ≤ 12 by omega) (by have := HA.out; rwa [utake_ok hlt] at this))
      obtain rfl : k = rs.length := by omega
      go_wp2
      go_ret
      exact ⟨retI HF.out.symm, hK⟩
set_option maxRecDepth 100000 in
set_option maxHeartbeats 2000000 in
theorem wd_spec (a : Option Addr) (cap : Nat) (rs : List R2) (w : World) (h : Rr w a rs) (hm : rs.length ≤ 1048576) :
    Calls Try.prog 26 #[.slice a rs.length cap] w fun e w' => e = .returned (.int .i64 (wdV rs)) ∧ Keep w w' := by
  go_enter Try.func26, Try.ntmps26
  go_wp2_with fail
  go_loopw [3, 4] (fun n i wr => ∃ k : Nat, k ≤ rs.length ∧ i = .int .i64 k ∧ n = .int .i64 (wdN rs k) ∧ Hid ((rs.take k).all ruB = true) ∧ Keep w wr) (fun _ i _ => rs.length - (intOf i).toNat)
  case atStart => exact ⟨0, by omega, rfl, rfl, Lib.hid rfl, Keep.refl _⟩
  case round =>
    obtain ⟨k, hk, rfl, rfl, HA, hK⟩ := hrel
    have hbd := wdN_bd k hk HA.out
    by_cases hlt : k < rs.length
    · obtain ⟨b, off, rfl, hb, ⟨c0, c1⟩⟩ := (h.keep hK).at_ hlt
      have HS : Hid (wdN rs (k + 1) = wdN rs k + (uH (rs.getD k u0) - uL (rs.getD k u0))) := Lib.hid rfl
      have kz : (k : Int) < (rs.length : Int) := by omega
      have k0 : (0 : Int) ≤ (k : Int) := by omega
      rcases Bool.eq_false_or_eq_true (ruB (rs.getD k u0)) with hr | hr
      · have hf := ru_facts hr
        have HA2 : Hid ((rs.take (k + 1)).all ruB = true) := Lib.hid (by rw [utake_all _ _ _ hlt, HA.out, hr]; rfl)
        have hr' : rgOk (uL (rs.getD k u0)) (uH (rs.getD k u0)) = true := hr
        clear hr
        generalize wdN rs k = n at *
        generalize uL (rs.getD k u0) = x0 at *
        generalize uH (rs.getD k u0) = x1 at *
        go_wp2_with fail
        refine (rg_spec x0 x1 _).mono ?_
        rintro e w1 ⟨he, k1⟩
        rw [hr'] at he
        subst he
        have d0 := k1.cell c0
        have d1 := k1.cell c1
        go_wp2_with fail
        go_quiet (fail)
        go_wp2
        go_roundw
        case rel => exact ⟨k + 1, by omega, by go_num, by rw [HS.out] <;> go_num, HA2, by first | exact hK.trans k1 | exact (hK.trans k1).drewN _⟩
        case measure => simp [intOf]; omega
      · have HF := Lib.hid (wdV_bad hlt hr)
        have hr' : rgOk (uL (rs.getD k u0)) (uH (rs.getD k u0)) = false := hr
        clear hr
        generalize wdN rs k = n at *
        generalize uL (rs.getD k u0) = x0 at *
        generalize uH (rs.getD k u0) = x1 at *
        go_wp2_with fail
        refine (rg_spec x0 x1 _).mono ?_
        rintro e w1 ⟨he, k1⟩
        rw [hr'] at he
        subst he
        go_wp2
        go_ret
        exact ⟨retI HF.out.symm, hK.trans k1⟩
    · by_cases h12 : 12 < rs.length
      · have HF := Lib.hid (wdV_long h12)
        have d : decide (12 < (rs.length : Int)) = true := decide_eq_true (by omega)
        obtain rfl : k = rs.length := by omega
        go_wp2
        go_ret
        exact ⟨retI HF.out.symm, hK⟩
      · have HF := Lib.hid (wdV_yes (show rs.length ≤ 12 by omega) (by have := HA.out; rwa [utake_ok hlt] at this))
        have d : decide (12 < (rs.length : Int)) = false := decide_eq_false (by omega)
        obtain rfl : k = rs.length := by omega
        go_wp2
        go_ret
        exact ⟨retI HF.out.symm, hK⟩
end Go.Proofs.Ytmndlghadgccbab
