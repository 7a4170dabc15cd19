/- StoreValue: the program and the model answer 'svV'. -/
import Derived.Test.YtnemdnidlbekbaaGreatDoorSw
namespace Go.Proofs.YtnemdnidlbekbaaGreatDoor
open Go.RowKit
set_option linter.unusedVariables false

/-- A version that there is. -/
def vrB (rs : List R4) (n : Int) : Bool := stB rs && inB n 0 rs.length
theorem vrB_facts {rs : List R4} {n : Int} (h : vrB rs n = true) : stB rs = true ∧ rs.length ≤ 40 ∧ ∃ m : Nat, n = (m : Int) ∧ m ≤ rs.length := by
  simp only [vrB, Bool.and_eq_true] at h
  have h2 := h.2
  simp only [inB, Bool.and_eq_true, decide_eq_true_eq] at h2
  exact ⟨h.1, (stB_facts h.1).2, n.toNat, by omega, by omega⟩
theorem vrB_cases (rs : List R4) (n : Int) : (vrB rs n = false ∧ stB rs = false) ∨ (vrB rs n = false ∧ stB rs = true ∧ inB n 0 rs.length = false) ∨ (vrB rs n = true ∧ stB rs = true ∧ inB n 0 rs.length = true) := by
  cases h : stB rs <;> cases h2 : inB n 0 rs.length <;> simp [vrB, h, h2]
/-- What a version tells. -/
def svV (rs : List R4) (n s d t : Int) : Int := if vrB rs n then vN rs s d t n.toNat else -9999
theorem svV_no {rs : List R4} {n : Int} (h : vrB rs n = false) (s d t : Int) : svV rs n s d t = -9999 := by simp [svV, h]
theorem svV_yes {rs : List R4} {m : Nat} (h : vrB rs m = true) (s d t : Int) : svV rs m s d t = vN rs s d t m := by simp [svV, h]
theorem vN_take (rs : List R4) (s d t : Int) (m : Nat) (hm : m ≤ rs.length) : ∀ k, k ≤ m → vN (rs.take m) s d t k = vN rs s d t k
  | 0, _ => rfl
  | k + 1, h => by
    have e : (rs.take m).getD k r0 = rs.getD k r0 := by simp [List.getD_eq_getElem?_getD, show k < m by omega]
    simp only [vN]
    rw [e, vN_take rs s d t m hm k (by omega)]
theorem len_take {rs : List R4} {m : Nat} (h : m ≤ rs.length) : (rs.take m).length = m := by rw [List.length_take]; omega

set_option maxHeartbeats 1000000 in
theorem vv_impl (a : Option Addr) (cap : Nat) (rs : List R4) (n : Int) (w : World) (h : Rs w a rs) (hm : rs.length ≤ 4611686018427387904) :
    Calls Tryz.prog 134 #[.slice a rs.length cap, .int .i64 n] w fun e w' => e = .returned (.bool (vrB rs n)) ∧ Keep w w' := by
  rcases Bool.eq_false_or_eq_true (stB rs) with hs | hs
  · go_enter Tryz.func134, Tryz.ntmps134
    go_wp2_with (go_at_call 74; refine (sv_impl a cap rs _ h hm).mono ?_; rintro e w1 ⟨he, hk1⟩; rw [hs] at he; subst he)
    all_goals
      go_ret
      refine ⟨retB ?_, hk1⟩
      rw [Bool.eq_iff_iff]; simp [vrB, inB, *]; try omega
  · go_enter Tryz.func134, Tryz.ntmps134
    go_wp2_with (go_at_call 74; refine (sv_impl a cap rs _ h hm).mono ?_; rintro e w1 ⟨he, hk1⟩; rw [hs] at he; subst he)
    all_goals
      go_ret
      refine ⟨retB ?_, hk1⟩
      simp [vrB, hs]
set_option maxHeartbeats 2000000 in
theorem l11_any (a : Option Addr) (cap : Nat) (rs : List R4) (s d t : Int) (w : World) (h : Rs w a rs) (hm : rs.length ≤ 4611686018427387904) :
    Calls Tryz.prog 62 #[.slice a rs.length cap, .int .i64 s, .int .i64 d, .int .i64 t] w fun e w' => e = .returned (.int .i64 (vN rs s d t rs.length)) ∧ w = w' := by
  go_enter Tryz.func62, Tryz.ntmps62
  go_wp2_with fail
  go_loop [9, 10] (fun v i => ∃ k : Nat, k ≤ rs.length ∧ i = .int .i64 k ∧ v = .int .i64 (vN rs s d t k)) (fun _ i => rs.length - (intOf i).toNat)
  case atStart => exact ⟨0, by omega, rfl, rfl⟩
  case round =>
    obtain ⟨k, hk, rfl, rfl⟩ := hrel
    by_cases hlt : k < rs.length
    · obtain ⟨b, off, rfl, hb, ⟨c0, c1, c2, c3⟩⟩ := h.at_ hlt
      have HM : Hid (vN rs s d t (k + 1) = if decide (rS (rs.getD k r0) = s) && decide (rD (rs.getD k r0) = d) && decide (rK (rs.getD k r0) = t) then rV (rs.getD k r0) else vN rs s d t k) := Lib.hid rfl
      generalize rS (rs.getD k r0) = x0 at c0 HM
      generalize rD (rs.getD k r0) = x1 at c1 HM
      generalize rK (rs.getD k r0) = x2 at c2 HM
      generalize rV (rs.getD k r0) = x3 at c3 HM
      have hcase : ((x0 == s) = false ∧ ¬ (x0 = s ∧ x1 = d ∧ x2 = t)) ∨ ((x0 == s) = true ∧ (x1 == d) = false ∧ ¬ (x0 = s ∧ x1 = d ∧ x2 = t)) ∨ ((x0 == s) = true ∧ (x1 == d) = true ∧ (x2 == t) = false ∧ ¬ (x0 = s ∧ x1 = d ∧ x2 = t)) ∨ ((x0 == s) = true ∧ (x1 == d) = true ∧ (x2 == t) = true ∧ (x0 = s ∧ x1 = d ∧ x2 = t)) := by
        by_cases h0 : x0 = s <;> by_cases h1 : x1 = d <;> by_cases h2 : x2 = t <;> simp [h0, h1, h2]
      rcases hcase with ⟨e0, hn⟩ | ⟨e0, e1, hn⟩ | ⟨e0, e1, e2, hn⟩ | ⟨e0, e1, e2, hy⟩
      case' inr.inr.inr =>
        have HF : Hid (vN rs s d t (k + 1) = x3) := Lib.hid (by rw [HM.out, if_pos (by simp; exact ⟨⟨hy.1, hy.2.1⟩, hy.2.2⟩)])
        clear hy
      case' inl => have HF : Hid (vN rs s d t (k + 1) = vN rs s d t k) := Lib.hid (by rw [HM.out, if_neg (by simpa using hn)])
      case' inr.inl => have HF : Hid (vN rs s d t (k + 1) = vN rs s d t k) := Lib.hid (by rw [HM.out, if_neg (by simpa using hn)])
      case' inr.inr.inl => have HF : Hid (vN rs s d t (k + 1) = vN rs s d t k) := Lib.hid (by rw [HM.out, if_neg (by simpa using hn)])
      all_goals
        try clear hn
        clear HM
        go_wp2
        go_round
        case rel => exact ⟨k + 1, by omega, by go_num, by rw [HF.out]⟩
        case measure => simp [intOf]; omega
    · obtain rfl : k = rs.length := by omega
      go_wp2
      go_ret
      exact ⟨rfl, rfl⟩
end Go.Proofs.YtnemdnidlbekbaaGreatDoor
