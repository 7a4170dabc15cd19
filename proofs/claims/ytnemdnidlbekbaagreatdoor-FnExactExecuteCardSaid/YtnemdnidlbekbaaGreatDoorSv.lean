/- Stores: the program's function StoreValid and the model's answer 'stB'. -/
import Derived.Test.YtnemdnidlbekbaaGreatDoorRs
import Derived.LoopTactic
import Derived.Outline
namespace Go.Proofs.YtnemdnidlbekbaaGreatDoor
open Go.RowKit
set_option linter.unusedVariables false

set_option maxHeartbeats 1000000 in
theorem sv_impl (a : Option Addr) (cap : Nat) (rs : List R4) (w : World) (h : Rs w a rs) (hm : rs.length ≤ 4611686018427387904) :
    Calls Tryz.prog 74 #[.slice a rs.length cap] w fun e w' => e = .returned (.bool (stB rs)) ∧ Keep w w' := by
  by_cases h2 : rs.length ≤ 40
  · have d1 : decide (40 < (rs.length : Int)) = false := by simp; omega
    go_enter Tryz.func74, Tryz.ntmps74
    go_wp2_with fail
    go_loopw [10] (fun i wr => ∃ k : Nat, k ≤ rs.length ∧ i = .int .i64 k ∧ Hid ((rs.take k).all rB = true) ∧ Keep w wr) (fun i _ => rs.length - (intOf i).toNat)
    case atStart => exact ⟨0, by omega, rfl, Lib.hid (by simp), Keep.refl w⟩
    case round =>
      obtain ⟨k, hk, rfl, HA, hK⟩ := hrel
      by_cases hlt : k < rs.length
      · obtain ⟨b, off, rfl, hb, hc⟩ := (h.keep hK).at_ hlt
        obtain ⟨c0, c1, c2, c3⟩ := hc
        rcases Bool.eq_false_or_eq_true (rB (rs.getD k r0)) with hr | hr
        · have HS := Lib.hid (show (rs.take (k + 1)).all rB = true by rw [rtake_all _ _ _ hlt, HA.out, hr]; rfl)
          have HR : Hid (rOk (rS (rs.getD k r0)) (rD (rs.getD k r0)) (rK (rs.getD k r0)) (rV (rs.getD k r0)) = true) := Lib.hid hr
          clear hr
          generalize rS (rs.getD k r0) = s at c0 HR
          generalize rD (rs.getD k r0) = d at c1 HR
          generalize rK (rs.getD k r0) = t at c2 HR
          generalize rV (rs.getD k r0) = v at c3 HR
          go_wp2_with (go_at_call 72; refine (rv_impl s d t v _).mono ?_; rintro e w1 ⟨he, hk1⟩; rw [HR.out] at he; subst he)
          go_roundw
          case rel => exact ⟨k + 1, by omega, by go_num, HS, (hK.alloc _).trans hk1⟩
          case measure => simp [intOf]; omega
        · have HF := Lib.hid (stB_bad (rall_not rB rs k hlt hr))
          have HR : Hid (rOk (rS (rs.getD k r0)) (rD (rs.getD k r0)) (rK (rs.getD k r0)) (rV (rs.getD k r0)) = false) := Lib.hid hr
          clear hr
          generalize rS (rs.getD k r0) = s at c0 HR
          generalize rD (rs.getD k r0) = d at c1 HR
          generalize rK (rs.getD k r0) = t at c2 HR
          generalize rV (rs.getD k r0) = v at c3 HR
          go_wp2_with (go_at_call 72; refine (rv_impl s d t v _).mono ?_; rintro e w1 ⟨he, hk1⟩; rw [HR.out] at he; subst he)
          go_ret
          exact ⟨retB HF.out.symm, (hK.alloc _).trans hk1⟩
      · have HT := Lib.hid (stB_yes (rs := rs) (by rw [← List.take_of_length_le (show rs.length ≤ k by omega)]; exact HA.out) h2)
        go_wp2
        go_ret
        exact ⟨retB HT.out.symm, hK⟩
  · have HF := Lib.hid (stB_long (rs := rs) (by omega))
    have d1 : decide (40 < (rs.length : Int)) = true := by simp; omega
    go_enter Tryz.func74, Tryz.ntmps74
    go_wp2
    go_ret
    exact ⟨retB HF.out.symm, Keep.refl w⟩
set_option maxHeartbeats 1000000 in
theorem sv_spec (a : Option Addr) (cap : Nat) (rs : List R4) (w : World) (h : Rs w a rs) (hm : rs.length ≤ 4611686018427387904) :
    Calls Tryz.prog 61 #[.slice a rs.length cap] w fun e w' => e = .returned (.bool (stB rs)) ∧ Keep w w' := by
    go_enter Tryz.func61, Tryz.ntmps61
    go_wp2_with fail
    go_loopw [3] (fun i wr => ∃ k : Nat, k ≤ rs.length ∧ i = .int .i64 k ∧ Hid ((rs.take k).all rB = true) ∧ Keep w wr) (fun i _ => rs.length - (intOf i).toNat)
    case atStart => exact ⟨0, by omega, rfl, Lib.hid (by simp), Keep.refl w⟩
    case round =>
      obtain ⟨k, hk, rfl, HA, hK⟩ := hrel
      by_cases hlt : k < rs.length
      · obtain ⟨b, off, rfl, hb, hc⟩ := (h.keep hK).at_ hlt
        obtain ⟨c0, c1, c2, c3⟩ := hc
        rcases Bool.eq_false_or_eq_true (rB (rs.getD k r0)) with hr | hr
        · have HS := Lib.hid (show (rs.take (k + 1)).all rB = true by rw [rtake_all _ _ _ hlt, HA.out, hr]; rfl)
          have HR : Hid (rOk (rS (rs.getD k r0)) (rD (rs.getD k r0)) (rK (rs.getD k r0)) (rV (rs.getD k r0)) = true) := Lib.hid hr
          clear hr
          generalize rS (rs.getD k r0) = s at c0 HR
          generalize rD (rs.getD k r0) = d at c1 HR
          generalize rK (rs.getD k r0) = t at c2 HR
          generalize rV (rs.getD k r0) = v at c3 HR
          go_wp2_with (go_at_call 42; refine (rv_spec s d t v _).mono ?_; rintro e w1 ⟨he, hk1⟩; rw [HR.out] at he; subst he)
          go_roundw
          case rel => exact ⟨k + 1, by omega, by go_num, HS, hK.trans hk1⟩
          case measure => simp [intOf]; omega
        · have HF := Lib.hid (stB_bad (rall_not rB rs k hlt hr))
          have HR : Hid (rOk (rS (rs.getD k r0)) (rD (rs.getD k r0)) (rK (rs.getD k r0)) (rV (rs.getD k r0)) = false) := Lib.hid hr
          clear hr
          generalize rS (rs.getD k r0) = s at c0 HR
          generalize rD (rs.getD k r0) = d at c1 HR
          generalize rK (rs.getD k r0) = t at c2 HR
          generalize rV (rs.getD k r0) = v at c3 HR
          go_wp2_with (go_at_call 42; refine (rv_spec s d t v _).mono ?_; rintro e w1 ⟨he, hk1⟩; rw [HR.out] at he; subst he)
          go_ret
          exact ⟨retB HF.out.symm, hK.trans hk1⟩
      · have HA2 : Hid (rs.all rB = true) := Lib.hid (by rw [← List.take_of_length_le (show rs.length ≤ k by omega)]; exact HA.out)
        have HT : Hid (decide ((rs.length : Int) ≤ 40) = stB rs) := Lib.hid (by
          by_cases h2 : rs.length ≤ 40
          · rw [stB_yes HA2.out h2]; simp; omega
          · rw [stB_long (by omega)]; simp; omega)
        go_wp2
        go_ret
        exact ⟨retB HT.out, hK⟩
end Go.Proofs.YtnemdnidlbekbaaGreatDoor
