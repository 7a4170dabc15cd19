/- The walk of the law on the limits of a report's kind. -/
import Derived.Test.YtpejamnecamecaaDrArg
import Derived.Test.YtpejamnecamecaaRv
namespace Go.Proofs.Ytpejamnecamecaa
open Go.RowKit
set_option linter.unusedVariables false

theorem limits_facts {s d k v : Int} (h : rOk s d k v = true) : kOk k = true ∧ kLo k ≤ v ∧ v ≤ kHi k ∧ rOk s d k (kLo k - 1) = false ∧ rOk s d k (kHi k + 1) = false ∧ (-600 ≤ kLo k ∧ kLo k ≤ 8500 ∧ 0 ≤ kHi k ∧ kHi k ≤ 10900) := by
  simp only [rOk, inB, Bool.and_eq_true, decide_eq_true_eq] at h
  refine ⟨h.1.1.1, h.2.1, h.2.2, ?_, ?_, ?_⟩
  · simp [rOk, inB]; intros; omega
  · simp [rOk, inB]; intros; omega
  · unfold kLo kHi; split <;> (try split) <;> (try split) <;> omega

set_option maxHeartbeats 1000000 in
theorem walk_FnReportLimits (a0 : Option Addr) (len0 cap0 : Nat) (z0 : List Int) (w : World) (w0 : IsRow .u8 w a0 len0 cap0 z0) :
    Calls Try.prog 4 #[.slice a0 len0 cap0] w fun e w' => e = .returned (.bool true) ∧ Below w.heap.size w w' := by
  have ha := code_of_row w0
  obtain ⟨hl, hm⟩ := ha.1
  unfold maxLen at hm
  by_cases h : len0 ≤ 1048576
  · have hd : decide (1048576 < (len0 : Int)) = false := by simp; omega
    go_enter Try.func4, Try.ntmps4
    go_wp2_with fail
    refine (drawReportValid a0 len0 cap0 _ ha).mono ?_
    rintro e w1 ⟨s, d, k, v, rfl, hs, hd, hk, hv, hb1⟩
    have hz1 := hb1.size
    go_wp2_with fail
    refine (rv_impl s d k v _).mono ?_
    rintro e w2 ⟨rfl, hb2⟩
    have c20 := newCell hb2 (by simp) 0 _ rfl
    have c21 := newCell hb2 (by simp) 1 _ rfl
    have c22 := newCell hb2 (by simp) 2 _ rfl
    have c23 := newCell hb2 (by simp) 3 _ rfl
    go_wp2_with fail
    refine (rv_spec s d k v _).mono ?_
    rintro e w3 ⟨rfl, hb3⟩
    have hz2 : w1.heap.size < w2.heap.size := by have := hb2.size; simp at this; omega
    have hz3 := hb3.size
    have hb23 := hb2.trans (hb3.mono (by simp; omega))
    have c30 := newCell hb23 (by simp) 0 _ rfl
    have c31 := newCell hb23 (by simp) 1 _ rfl
    have c32 := newCell hb23 (by simp) 2 _ rfl
    have c33 := newCell hb23 (by simp) 3 _ rfl
    have hfin := hb1.trans (((Below.refl w1.heap.size w1).alloc (Nat.le_refl _) _).trans (hb23.mono (by simp)) |>.mono hz1)
    by_cases hok : rOk s d k v = true
    · go_wp2_with fail
      refine (kl_impl k _).mono ?_
      rintro e w4 ⟨rfl, rfl⟩
      have hz13 : w1.heap.size < w3.heap.size := by omega
      obtain ⟨hko, hlv, hvh, hy, hzz, hb⟩ := limits_facts hok
      go_wp2_with fail
      refine (rv_impl s d k _ _).mono ?_
      rintro e w5 ⟨rfl, hb5⟩
      have hb5' := ((Below.refl w1.heap.size w3).alloc (by omega) _).alloc (by simp; omega) _ |>.trans (hb5.mono (by simp; omega))
      have c50 := (hb5.cell (p := ⟨w3.heap.size + 1, 0, none⟩) (by simp))
      have c51 := (hb5.cell (p := ⟨w3.heap.size + 1, 1, none⟩) (by simp))
      have c52 := (hb5.cell (p := ⟨w3.heap.size + 1, 2, none⟩) (by simp))
      have c53 := (hb5.cell (p := ⟨w3.heap.size + 1, 3, none⟩) (by simp))
      go_wp2_with fail
      refine (rv_impl s d k _ _).mono ?_
      rintro e w6 ⟨rfl, hb6⟩
      have hz5 := hb5.size
      simp at hz5
      go_wp2
      go_ret
      exact ⟨rfl, hfin.trans (hb5'.mono hz1 |>.trans (hb6.mono (by omega)))⟩
    · have hok' : rOk s d k v = false := by simpa using hok
      go_wp2
      go_ret
      exact ⟨rfl, hfin⟩
  · have hd : decide (1048576 < (len0 : Int)) = true := by simp; omega
    go_enter Try.func4, Try.ntmps4
    go_wp2
    go_ret
    exact ⟨rfl, Below.refl _ _⟩
end Go.Proofs.Ytpejamnecamecaa
