/- P18: a long year has 366 days. -/
import Derived.Test.YthlabofegjfmfaaDoorIu
import Derived.Test.YthlabofegjfmfaaDoorCu
import Derived.Test.YthlabofegjfmfaaDoorDrCal
namespace Go.Proofs.YthlabofegjfmfaaDoor
open Go.RowKit
set_option linter.unusedVariables false

theorem year_ends (y c : Int) : (yl y c = true → dv y 1 1 c = true ∧ dv y 12 31 c = true) ∧ (yl y c = false → (dv y 1 1 c = true ∧ dv y 12 31 c = true) ∨ (dv y 1 1 c = false ∧ dv y 12 31 c = false)) := by
  have key : cOne c = true → yOk y = true → dv y 1 1 c = true ∧ dv y 12 31 c = true := fun hc hy => by
    have m1 : mlen y 1 c = 31 := by simp [mlen, cum]
    have m12 : mlen y 12 c = 31 := by simp [mlen, cum]; omega
    simp [dv, hc, hy, m1, m12, inB]
  rcases Bool.eq_false_or_eq_true (cOne c) with hc | hc
  · rcases Bool.eq_false_or_eq_true (yOk y) with hy | hy
    · exact ⟨fun _ => key hc hy, fun _ => .inl (key hc hy)⟩
    · exact ⟨fun h => by (rw [yl_ny hy] at h; cases h), fun _ => .inr ⟨dv_ny hy, dv_ny hy⟩⟩
  · exact ⟨fun h => by (rw [yl_nc hc] at h; cases h), fun _ => .inr ⟨dv_nc hc, dv_nc hc⟩⟩
theorem year_diff {y c : Int} {b : Bool} (v1 : dv y 1 1 c = true) (v2 : dv y 12 31 c = true) (hl : yl y c = b) :
    ∃ A B : Int, dn y 1 1 c = A ∧ dn y 12 31 c = B ∧ (-2 ≤ A ∧ A ≤ 1000000) ∧ (-2 ≤ B ∧ B ≤ 1000000) ∧ (B - A == 365) = b ∧ (B - A == 364) = !b := by
  obtain ⟨hc, y1, y2, _⟩ := dv_facts v1
  have hy : yOk y = true := by simp [yOk, inB]; omega
  have e := year_days y c
  have hll : lng y c = b := by rw [← yl_in hc hy]; exact hl
  refine ⟨_, _, rfl, rfl, dn_bd v1, dn_bd v2, ?_, ?_⟩ <;> rw [e] <;> unfold lpd <;> rw [hll] <;> cases b <;> simp

set_option maxRecDepth 100000 in
set_option maxHeartbeats 3200000 in
theorem walk_FnYearLong (a0 : Option Addr) (len0 cap0 : Nat) (z0 : List Int) (w : World) (w0 : IsRow .u8 w a0 len0 cap0 z0) (T : Tabs w) :
    Calls Tryd.prog 6 #[.slice a0 len0 cap0] w fun e w' => e = .returned (.bool true) ∧ Below w.heap.size w w' := by
  have ha := code_of_row w0
  obtain ⟨hl, hm⟩ := ha.1
  unfold maxLen at hm
  clear w0
  by_cases h : len0 ≤ 1048576
  case' neg =>
    have hd : decide (1048576 < (len0 : Int)) = true := by simp; omega
    go_enter Tryd.func6, Tryd.ntmps6
    go_wp2
    go_ret
    exact ⟨rfl, Below.refl _ _⟩
  have hd : decide (1048576 < (len0 : Int)) = false := by simp; omega
  go_enter Tryd.func6, Tryd.ntmps6
  have HT := Lib.hid T
  clear T
  go_wp2_with fail
  refine (drawYearLong a0 len0 cap0 _ ha).mono ?_
  rintro e w1 ⟨y, c, rfl, ⟨hy1, hy2⟩, hc, k1⟩
  have c1 : Keep w w1 := Keep.trans (by repeat' (first | with_reducible assumption | with_reducible exact Keep.refl _ | with_reducible refine Keep.setCell ?_ (by omega) _ | with_reducible refine Keep.drew ?_ | with_reducible refine Keep.drewN ?_ _ | with_reducible refine Keep.alloc ?_ _)) k1
  have z1 : w.heap.size ≤ w1.heap.size := c1.size
  have F := year_ends y c
  clear hc
  cases hl : yl y c
  case true =>
    obtain ⟨v1, v2⟩ := F.1 hl
    clear F
    obtain ⟨A, B, hA, hB, ⟨A1, A2⟩, ⟨B1, B2⟩, e1, e2⟩ := year_diff (y := y) (c := c) v1 v2 hl
    have E1 := (dOut_yes v1).trans hA
    have E2 := (dOut_yes v2).trans hB
    clear hA hB
    go_wp2_with (first | (go_at_call 25; refine (ylong_spec _ _ _).mono ?_; rintro e w' ⟨rfl, rfl⟩) | (go_at_call 24; refine (ylong_impl _ _ _).mono ?_; rintro e w' ⟨rfl, rfl⟩))
    go_wp2_with fail
    refine (dayof_impl y 1 1 c _ (HT.out.keep (by repeat' (first | with_reducible assumption | with_reducible exact Keep.refl _ | with_reducible refine Keep.setCell ?_ (by omega) _ | with_reducible refine Keep.drew ?_ | with_reducible refine Keep.drewN ?_ _ | with_reducible refine Keep.alloc ?_ _)))).mono ?_
    rintro e w2 ⟨rfl, k2⟩
    have c2 : Keep w w2 := Keep.trans (by repeat' (first | with_reducible assumption | with_reducible exact Keep.refl _ | with_reducible refine Keep.setCell ?_ (by omega) _ | with_reducible refine Keep.drew ?_ | with_reducible refine Keep.drewN ?_ _ | with_reducible refine Keep.alloc ?_ _)) k2
    have z2 : w.heap.size ≤ w2.heap.size := c2.size
    go_wp2_with fail
    refine (dayof_impl y 12 31 c _ (HT.out.keep (by repeat' (first | with_reducible assumption | with_reducible exact Keep.refl _ | with_reducible refine Keep.setCell ?_ (by omega) _ | with_reducible refine Keep.drew ?_ | with_reducible refine Keep.drewN ?_ _ | with_reducible refine Keep.alloc ?_ _)))).mono ?_
    rintro e w3 ⟨rfl, k3⟩
    have c3 : Keep w w3 := Keep.trans (by repeat' (first | with_reducible assumption | with_reducible exact Keep.refl _ | with_reducible refine Keep.setCell ?_ (by omega) _ | with_reducible refine Keep.drew ?_ | with_reducible refine Keep.drewN ?_ _ | with_reducible refine Keep.alloc ?_ _)) k3
    have z3 : w.heap.size ≤ w3.heap.size := c3.size
    go_wp2
    go_ret
    exact ⟨rfl, show Keep w _ from (by repeat' (first | with_reducible assumption | with_reducible exact Keep.refl _ | with_reducible refine Keep.setCell ?_ (by omega) _ | with_reducible refine Keep.drew ?_ | with_reducible refine Keep.drewN ?_ _ | with_reducible refine Keep.alloc ?_ _))⟩
  case false =>
    have F2 := F.2 hl
    clear F
    rcases F2 with ⟨v1, v2⟩ | ⟨v1, v2⟩
    case inl =>
      obtain ⟨A, B, hA, hB, ⟨A1, A2⟩, ⟨B1, B2⟩, e1, e2⟩ := year_diff (y := y) (c := c) v1 v2 hl
      have E1 := (dOut_yes v1).trans hA
      have E2 := (dOut_yes v2).trans hB
      clear hA hB
      go_wp2_with (first | (go_at_call 25; refine (ylong_spec _ _ _).mono ?_; rintro e w' ⟨rfl, rfl⟩) | (go_at_call 24; refine (ylong_impl _ _ _).mono ?_; rintro e w' ⟨rfl, rfl⟩))
      go_wp2_with fail
      refine (dayof_impl y 1 1 c _ (HT.out.keep (by repeat' (first | with_reducible assumption | with_reducible exact Keep.refl _ | with_reducible refine Keep.setCell ?_ (by omega) _ | with_reducible refine Keep.drew ?_ | with_reducible refine Keep.drewN ?_ _ | with_reducible refine Keep.alloc ?_ _)))).mono ?_
      rintro e w2 ⟨rfl, k2⟩
      have c2 : Keep w w2 := Keep.trans (by repeat' (first | with_reducible assumption | with_reducible exact Keep.refl _ | with_reducible refine Keep.setCell ?_ (by omega) _ | with_reducible refine Keep.drew ?_ | with_reducible refine Keep.drewN ?_ _ | with_reducible refine Keep.alloc ?_ _)) k2
      have z2 : w.heap.size ≤ w2.heap.size := c2.size
      go_wp2_with fail
      refine (dayof_impl y 12 31 c _ (HT.out.keep (by repeat' (first | with_reducible assumption | with_reducible exact Keep.refl _ | with_reducible refine Keep.setCell ?_ (by omega) _ | with_reducible refine Keep.drew ?_ | with_reducible refine Keep.drewN ?_ _ | with_reducible refine Keep.alloc ?_ _)))).mono ?_
      rintro e w3 ⟨rfl, k3⟩
      have c3 : Keep w w3 := Keep.trans (by repeat' (first | with_reducible assumption | with_reducible exact Keep.refl _ | with_reducible refine Keep.setCell ?_ (by omega) _ | with_reducible refine Keep.drew ?_ | with_reducible refine Keep.drewN ?_ _ | with_reducible refine Keep.alloc ?_ _)) k3
      have z3 : w.heap.size ≤ w3.heap.size := c3.size
      go_wp2
      go_ret
      exact ⟨rfl, show Keep w _ from (by repeat' (first | with_reducible assumption | with_reducible exact Keep.refl _ | with_reducible refine Keep.setCell ?_ (by omega) _ | with_reducible refine Keep.drew ?_ | with_reducible refine Keep.drewN ?_ _ | with_reducible refine Keep.alloc ?_ _))⟩
    case inr =>
      have E1 := dOut_no v1
      go_wp2_with (first | (go_at_call 25; refine (ylong_spec _ _ _).mono ?_; rintro e w' ⟨rfl, rfl⟩) | (go_at_call 24; refine (ylong_impl _ _ _).mono ?_; rintro e w' ⟨rfl, rfl⟩))
      go_wp2_with fail
      refine (dayof_impl y 1 1 c _ (HT.out.keep (by repeat' (first | with_reducible assumption | with_reducible exact Keep.refl _ | with_reducible refine Keep.setCell ?_ (by omega) _ | with_reducible refine Keep.drew ?_ | with_reducible refine Keep.drewN ?_ _ | with_reducible refine Keep.alloc ?_ _)))).mono ?_
      rintro e w2 ⟨rfl, k2⟩
      have c2 : Keep w w2 := Keep.trans (by repeat' (first | with_reducible assumption | with_reducible exact Keep.refl _ | with_reducible refine Keep.setCell ?_ (by omega) _ | with_reducible refine Keep.drew ?_ | with_reducible refine Keep.drewN ?_ _ | with_reducible refine Keep.alloc ?_ _)) k2
      have z2 : w.heap.size ≤ w2.heap.size := c2.size
      go_wp2_with fail
      refine (dayof_impl y 12 31 c _ (HT.out.keep (by repeat' (first | with_reducible assumption | with_reducible exact Keep.refl _ | with_reducible refine Keep.setCell ?_ (by omega) _ | with_reducible refine Keep.drew ?_ | with_reducible refine Keep.drewN ?_ _ | with_reducible refine Keep.alloc ?_ _)))).mono ?_
      rintro e w3 ⟨rfl, k3⟩
      have c3 : Keep w w3 := Keep.trans (by repeat' (first | with_reducible assumption | with_reducible exact Keep.refl _ | with_reducible refine Keep.setCell ?_ (by omega) _ | with_reducible refine Keep.drew ?_ | with_reducible refine Keep.drewN ?_ _ | with_reducible refine Keep.alloc ?_ _)) k3
      have z3 : w.heap.size ≤ w3.heap.size := c3.size
      go_wp2
      go_ret
      exact ⟨rfl, show Keep w _ from (by repeat' (first | with_reducible assumption | with_reducible exact Keep.refl _ | with_reducible refine Keep.setCell ?_ (by omega) _ | with_reducible refine Keep.drew ?_ | with_reducible refine Keep.drewN ?_ _ | with_reducible refine Keep.alloc ?_ _))⟩
end Go.Proofs.YthlabofegjfmfaaDoor
