/- DayOf, DateOf and DateTurn of the model. -/
import Derived.Test.YtohoeonfoolpdaaDoorCs
namespace Go.Proofs.YtohoeonfoolpdaaDoor
open Go.RowKit
set_option linter.unusedVariables false

theorem zero3 {x : Ending} (h : x = .returned (.tuple #[.agg #[.int .i64 0, .int .i64 0, .int .i64 0], .bool false])) : x = .returned (.tuple #[.agg #[.int .i64 0, .int .i64 0, .int .i64 0], .bool false]) := h

set_option maxHeartbeats 1000000 in
theorem dayof_spec (y m d c : Int) (w : World) :
    Calls Tryd.prog 26 #[.agg #[.int .i64 y, .int .i64 m, .int .i64 d], .int .i64 c] w fun e w' => e = .returned (.tuple #[.int .i64 (dOut y m d c), .bool (dv y m d c)]) ∧ Keep w w' := by
  rcases Bool.eq_false_or_eq_true (dv y m d c) with hv | hv
  · have E := Lib.hid (dOut_yes hv)
    have HV := Lib.hid hv
    go_enter Tryd.func26, Tryd.ntmps26
    go_wp2_with fail
    refine (dv_spec y m d c _).mono ?_
    rintro e w1 ⟨rfl, k1⟩
    have c0 := k1.new 0 rfl
    have c1 := k1.new 1 rfl
    have c2 := k1.new 2 rfl
    go_wp2_with fail
    refine (l3day y m d c _ HV.out).mono ?_
    rintro e w2 ⟨rfl, k2⟩
    go_wp2
    go_ret2
    exact ⟨retII E.out.symm HV.out.symm, (((Keep.refl w).alloc _).trans k1).trans k2⟩
  · have E := Lib.hid (dOut_no hv)
    go_enter Tryd.func26, Tryd.ntmps26
    go_wp2_with fail
    refine (dv_spec y m d c _).mono ?_
    rintro e w1 ⟨rfl, k1⟩
    go_wp2
    go_ret2
    exact ⟨retII E.out.symm hv.symm, ((Keep.refl w).alloc _).trans k1⟩
set_option maxHeartbeats 2000000 in
theorem dateof_spec_no (n c : Int) (w : World) (h : dayOk n c = false) :
    Calls Tryd.prog 35 #[.int .i64 n, .int .i64 c] w fun e w' => e = .returned (.tuple #[.agg #[.int .i64 0, .int .i64 0, .int .i64 0], .bool false]) ∧ Keep w w' := by
  rcases Bool.eq_false_or_eq_true (cOne c) with hc | hc
  · obtain ⟨b1, b2⟩ := ys_bd 2201 c (by omega) (by omega)
    have hi : inB n (ys 1 c) (ys 2201 c - 1) = false := by simp [dayOk, hc] at h; simp [inB]; omega
    have HC := Lib.hid hc
    clear h
    go_enter Tryd.func35, Tryd.ntmps35
    go_wp2_with (first | (go_at_call 50; refine (sc_any _ _).mono ?_; rintro e w' ⟨rfl, rfl⟩) | (go_at_call 51; refine (ys_spec _ _ _ HC.out (by omega) (by omega)).mono ?_; rintro e w' ⟨rfl, rfl⟩) | (go_at_call 49; refine (l6In_any _ _ _ _).mono ?_; rintro e w' ⟨rfl, rfl⟩))
    refine bodyPost_ret (v := .tuple #[.agg #[.int .i64 0, .int .i64 0, .int .i64 0], .bool false]) (by simp [results, Tryd.results35, go_sem, *]) rfl ⟨rfl, (Keep.refl w).alloc _⟩
  · clear h
    go_enter Tryd.func35, Tryd.ntmps35
    go_wp2_with (first | (go_at_call 50; refine (sc_any _ _).mono ?_; rintro e w' ⟨rfl, rfl⟩))
    refine bodyPost_ret (v := .tuple #[.agg #[.int .i64 0, .int .i64 0, .int .i64 0], .bool false]) (by simp [results, Tryd.results35, go_sem, *]) rfl ⟨rfl, (Keep.refl w).alloc _⟩
set_option maxHeartbeats 2000000 in
theorem dateof_spec_yes (n c : Int) (w : World) (h : dayOk n c = true) :
    Calls Tryd.prog 35 #[.int .i64 n, .int .i64 c] w (DateYes n c w) := by
  obtain ⟨hc, n1, n2⟩ := dayOk_facts h
  obtain ⟨b1, b2⟩ := ys_bd 2201 c (by omega) (by omega)
  have hi : inB n (ys 1 c) (ys 2201 c - 1) = true := by simp [inB]; omega
  have HC := Lib.hid hc
  have HH := Lib.hid h
  clear h n1 n2
  go_enter Tryd.func35, Tryd.ntmps35
  go_wp2_with (first | (go_at_call 50; refine (sc_any _ _).mono ?_; rintro e w' ⟨rfl, rfl⟩) | (go_at_call 51; refine (ys_spec _ _ _ HC.out (by omega) (by omega)).mono ?_; rintro e w' ⟨rfl, rfl⟩) | (go_at_call 49; refine (l6In_any _ _ _ _).mono ?_; rintro e w' ⟨rfl, rfl⟩))
  refine (l3date n c _ HH.out).mono ?_
  rintro e w1 ⟨⟨y, m, d, rfl, hd1, hd2⟩, k1⟩
  have HD1 := Lib.hid hd1
  have HD2 := Lib.hid hd2
  clear hd1 hd2
  have c0 := k1.new 0 rfl
  have c1 := k1.new 1 rfl
  have c2 := k1.new 2 rfl
  have f0 := k1.fresh 0
  have f1 := k1.fresh 1
  have f2 := k1.fresh 2
  go_wp2
  refine bodyPost_ret (v := .tuple #[.agg #[.int .i64 y, .int .i64 m, .int .i64 d], .bool true]) (by simp [results, Tryd.results35, go_sem, *]) rfl ⟨y, m, d, rfl, HD1.out, HD2.out, ?_⟩
  exact (((((Keep.refl w).alloc _).trans k1).setCell (Nat.le_refl _) _).setCell (Nat.le_refl _) _).setCell (Nat.le_refl _) _
end Go.Proofs.YtohoeonfoolpdaaDoor
