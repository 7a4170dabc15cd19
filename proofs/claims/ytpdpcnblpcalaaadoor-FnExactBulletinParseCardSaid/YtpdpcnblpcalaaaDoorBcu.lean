/- The program's cursor at the texts of series: done, valueOrNone. -/
import Derived.Test.YtpdpcnblpcalaaaDoorCur2
import Derived.Test.YtpdpcnblpcalaaaDoorBj
namespace Go.Proofs.YtpdpcnblpcalaaaDoor
open Go.RowKit
set_option linter.unusedVariables false

def DoneR (w : World) (b : Nat) (s : ByteArray) (R : List UInt8) (e : Ending) (w' : World) : Prop :=
  Only b w w' ∧ CurR w' b s R ∧ e = .returned (.bool R.isEmpty)
theorem done_R (b : Nat) (s : ByteArray) (R : List UInt8) (w : World) (h : CurR w b s R) :
    Calls Tryd.prog 64 #[.pointer (some ⟨b, 0, none⟩)] w (DoneR w b s R) := by
  obtain ⟨p, hc, hR⟩ := h
  have hp : p ≤ s.size := hc.2.2.2.2.1
  by_cases he : p = s.size
  · subst he
    have hR' : R = [] := by rw [← hR]; exact drop_none (Nat.le_refl _)
    refine (done_yes b s w hc).mono fun e w' h => ?_
    obtain ⟨he, n, hw⟩ := h
    subst hw
    exact ⟨(Only.refl b w).drewN n, ⟨_, hc.drewN n, hR⟩, by rw [he, hR']; rfl⟩
  · have hlt : p < s.size := by omega
    have hd := drop_some hlt
    refine (done_no b p s w hc hlt).mono fun e w' h => ?_
    obtain ⟨he, n, hw⟩ := h
    subst hw
    exact ⟨(Only.refl b w).drewN n, ⟨_, hc.drewN n, hR⟩, by rw [he, ← hR, hd]; rfl⟩
/-- A value's word at the beginning of a text: the value, and what is left. -/
def vAt (R : List UInt8) : Option (Int × List UInt8) :=
  match R with
  | 47 :: t => some (-9999, t)
  | _ => if numOk (nrun R) && decide (numV (nrun R) ≠ -9999) then some (numV (nrun R), R.drop (nrun R).length) else none
theorem vAt_no {R : List UInt8} (h : ∀ t, R ≠ 47 :: t) : vAt R = if numOk (nrun R) && decide (numV (nrun R) ≠ -9999) then some (numV (nrun R), R.drop (nrun R).length) else none := by
  unfold vAt
  split
  · exact absurd rfl (h _)
  · rfl
def VonR (w : World) (b : Nat) (s : ByteArray) (R : List UInt8) (e : Ending) (w' : World) : Prop :=
  Only b w w' ∧ ((∃ v R', vAt R = some (v, R') ∧ CurR w' b s R' ∧ e = .returned (.tuple #[.int .i64 v, .bool true])) ∨
    (vAt R = none ∧ (∃ R', CurR w' b s R') ∧ ∃ v, e = .returned (.tuple #[.int .i64 v, .bool false])))
set_option maxHeartbeats 1000000 in
theorem von_R (b : Nat) (s : ByteArray) (R : List UInt8) (w : World) (h : CurR w b s R) :
    Calls Tryd.prog 65 #[.pointer (some ⟨b, 0, none⟩)] w (VonR w b s R) := by
  go_enter Tryd.func65, Tryd.ntmps65
  go_wp2_with fail
  refine (take_R b s R 47 w h).mono ?_
  rintro e w1 ⟨ho1, ⟨t, hR, hc1, rfl⟩ | ⟨hR, hc1, rfl⟩⟩
  · have HV : Hid (vAt R = some (-9999, t)) := Lib.hid (by rw [hR]; rfl)
    clear hR
    go_wp2
    go_ret2
    exact ⟨ho1, .inl ⟨_, _, HV.out, hc1, rfl⟩⟩
  · have HV : Hid (vAt R = if numOk (nrun R) && decide (numV (nrun R) ≠ -9999) then some (numV (nrun R), R.drop (nrun R).length) else none) := Lib.hid (vAt_no hR)
    clear hR
    go_wp2_with fail
    refine (number_R b s R _ hc1).mono ?_
    rintro e w2 ⟨ho2, ⟨hn, hc2, rfl⟩ | ⟨hn, hc2, rfl⟩⟩
    · have ho := ho1.trans ho2
      rw [hn] at HV
      clear hn
      generalize numV (nrun R) = v at *
      by_cases hv : v = -9999
      · have HV2 : Hid (vAt R = none) := Lib.hid (by rw [HV.out, hv]; rfl)
        have hvd : (v != -9999) = false := by simp [hv]
        clear HV hv
        go_wp2
        go_ret2
        exact ⟨ho, .inr ⟨HV2.out, ⟨_, hc2⟩, _, rfl⟩⟩
      · have HV2 : Hid (vAt R = some (v, R.drop (nrun R).length)) := Lib.hid (by rw [HV.out, decide_eq_true hv]; rfl)
        have hvd : (v != -9999) = true := by simp [hv]
        clear HV hv
        go_wp2
        go_ret2
        exact ⟨ho, .inl ⟨_, _, HV2.out, hc2, rfl⟩⟩
    · have ho := ho1.trans ho2
      have HV2 : Hid (vAt R = none) := Lib.hid (by rw [HV.out, hn]; rfl)
      clear HV hn
      go_wp2
      go_ret2
      exact ⟨ho, .inr ⟨HV2.out, hc2, _, rfl⟩⟩
end Go.Proofs.YtpdpcnblpcalaaaDoor
