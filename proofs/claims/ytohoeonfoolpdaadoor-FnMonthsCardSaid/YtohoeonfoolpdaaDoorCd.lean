/- Years, months and dates: the program's small functions and the model's answer what the plain functions of XCal say. -/
import Derived.Test.YtohoeonfoolpdaaDoorCal
import Derived.Test.YtohoeonfoolpdaaDoorTab
import Derived.Test.YtohoeonfoolpdaaDoorKeep
import Derived.Lib.Hide
import Derived.WalkSpells
import Derived.Outline
namespace Go.Proofs.YtohoeonfoolpdaaDoor
open Go.RowKit
set_option linter.unusedVariables false

theorem yOk_facts {y : Int} (h : yOk y = true) : 1 ≤ y ∧ y ≤ 2200 := by simpa [yOk, inB] using h
theorem yl_in {y c : Int} (hc : cOne c = true) (hy : yOk y = true) : yl y c = lng y c := by simp [yl, hc, hy]
theorem yl_nc {y c : Int} (hc : cOne c = false) : yl y c = false := by simp [yl, hc]
theorem yl_ny {y c : Int} (hy : yOk y = false) : yl y c = false := by simp [yl, hy]

set_option maxHeartbeats 400000 in
theorem cv_any (c : Int) (w : World) :
    Calls Tryd.prog 38 #[.int .i64 c] w fun e w' => e = .returned (.bool (cOne c)) ∧ w = w' := by
  go_enter Tryd.func38, Tryd.ntmps38
  go_wp2
  all_goals
    go_ret
    refine ⟨retB ?_, rfl⟩
    rw [Bool.eq_iff_iff]; simp [cOne, *]
set_option maxHeartbeats 400000 in
theorem yv_any (y : Int) (w : World) :
    Calls Tryd.prog 59 #[.int .i64 y] w fun e w' => e = .returned (.bool (yOk y)) ∧ w = w' := by
  go_enter Tryd.func59, Tryd.ntmps59
  go_wp2
  all_goals
    go_ret
    refine ⟨retB ?_, rfl⟩
    rw [Bool.eq_iff_iff]; simp [yOk, inB, *]; try omega
set_option maxHeartbeats 400000 in
theorem ylong_impl (y c : Int) (w : World) :
    Calls Tryd.prog 46 #[.int .i64 y, .int .i64 c] w fun e w' => e = .returned (.bool (yl y c)) ∧ w = w' := by
  rcases Bool.eq_false_or_eq_true (yOk y) with hy | hy
  · rcases Bool.eq_false_or_eq_true (cOne c) with hc | hc
    · obtain ⟨h1, h2⟩ := yOk_facts hy
      have E := Lib.hid (yl_in hc hy)
      rcases cOne_cases hc with rfl | rfl
      all_goals
        go_enter Tryd.func46, Tryd.ntmps46
        go_wp2_with (first | (go_at_call 59; refine (yv_any _ _).mono ?_; rintro e w' ⟨rfl, rfl⟩) | (go_at_call 38; refine (cv_any _ _).mono ?_; rintro e w' ⟨rfl, rfl⟩))
        all_goals
          go_ret
          refine ⟨retB ?_, rfl⟩
          rw [E.out, Bool.eq_iff_iff]
          simp [lng, *]
          try (first | omega | (rename_i hq; simp at hq; omega))
    · have E := Lib.hid (yl_nc (y := y) hc)
      go_enter Tryd.func46, Tryd.ntmps46
      go_wp2_with (first | (go_at_call 59; refine (yv_any _ _).mono ?_; rintro e w' ⟨rfl, rfl⟩) | (go_at_call 38; refine (cv_any _ _).mono ?_; rintro e w' ⟨rfl, rfl⟩))
      go_ret
      exact ⟨retB E.out.symm, rfl⟩
  · have E := Lib.hid (yl_ny (c := c) hy)
    go_enter Tryd.func46, Tryd.ntmps46
    go_wp2_with (first | (go_at_call 59; refine (yv_any _ _).mono ?_; rintro e w' ⟨rfl, rfl⟩) | (go_at_call 38; refine (cv_any _ _).mono ?_; rintro e w' ⟨rfl, rfl⟩))
    go_ret
    exact ⟨retB E.out.symm, rfl⟩
set_option maxHeartbeats 400000 in
theorem sc_any (c : Int) (w : World) :
    Calls Tryd.prog 50 #[.int .i64 c] w fun e w' => e = .returned (.bool (cOne c)) ∧ w = w' := by
  go_enter Tryd.func50, Tryd.ntmps50
  go_wp2
  all_goals
    go_ret
    refine ⟨retB ?_, rfl⟩
    rw [Bool.eq_iff_iff]; simp [cOne, *]
set_option maxHeartbeats 400000 in
theorem sl_any (y c : Int) (w : World) (h1 : 1 ≤ y) (h2 : y ≤ 2201) :
    Calls Tryd.prog 60 #[.int .i64 y, .int .i64 c] w fun e w' => e = .returned (.bool (lng y c)) ∧ w = w' := by
  go_enter Tryd.func60, Tryd.ntmps60
  go_wp2
  all_goals
    go_ret
    refine ⟨retB ?_, rfl⟩
    rw [Bool.eq_iff_iff]
    simp [lng, *]
    try (first | omega | (rename_i hq; simp at hq; omega))
end Go.Proofs.YtohoeonfoolpdaaDoor
