/- DateTurn of the program. -/
import Derived.Test.YthlabofegjfmfaaDoorIo
namespace Go.Proofs.YthlabofegjfmfaaDoor
open Go.RowKit
set_option linter.unusedVariables false

set_option maxHeartbeats 2000000 in
theorem turn_impl_bad (y m d c : Int) (w : World) (T : Tabs w) (h : dv y m d c = false) :
    Calls Tryd.prog 29 #[.agg #[.int .i64 y, .int .i64 m, .int .i64 d], .int .i64 c] w fun e w' => e = .returned (.tuple #[.agg #[.int .i64 0, .int .i64 0, .int .i64 0], .bool false]) ∧ Keep w w' := by
  have E := dOut_no h
  go_enter Tryd.func29, Tryd.ntmps29
  go_wp2_with fail
  refine (dayof_impl y m d _ _ ((T.keep ((Keep.refl w).alloc _)).keep ((Keep.refl _).alloc _))).mono ?_
  rintro e w1 ⟨rfl, k1⟩
  have ak1_0 : w1.cell? ⟨w.heap.size, 0, none⟩ = some (.int .i64 y) := k1.cell (by go_simp)
  have ak1f0 : w1.frozen? ⟨w.heap.size, 0, none⟩ = false := k1.still (v := .int .i64 y) (by go_simp) (by go_simp)
  have ak1_1 : w1.cell? ⟨w.heap.size, 1, none⟩ = some (.int .i64 m) := k1.cell (by go_simp)
  have ak1f1 : w1.frozen? ⟨w.heap.size, 1, none⟩ = false := k1.still (v := .int .i64 m) (by go_simp) (by go_simp)
  have ak1_2 : w1.cell? ⟨w.heap.size, 2, none⟩ = some (.int .i64 d) := k1.cell (by go_simp)
  have ak1f2 : w1.frozen? ⟨w.heap.size, 2, none⟩ = false := k1.still (v := .int .i64 d) (by go_simp) (by go_simp)
  have rk1_0 : w1.cell? ⟨w.heap.size + 1, 0, none⟩ = some (.int .i64 0) := k1.cell (by go_simp)
  have rk1f0 : w1.frozen? ⟨w.heap.size + 1, 0, none⟩ = false := k1.still (v := .int .i64 0) (by go_simp) (by go_simp)
  have rk1_1 : w1.cell? ⟨w.heap.size + 1, 1, none⟩ = some (.int .i64 0) := k1.cell (by go_simp)
  have rk1f1 : w1.frozen? ⟨w.heap.size + 1, 1, none⟩ = false := k1.still (v := .int .i64 0) (by go_simp) (by go_simp)
  have rk1_2 : w1.cell? ⟨w.heap.size + 1, 2, none⟩ = some (.int .i64 0) := k1.cell (by go_simp)
  have rk1f2 : w1.frozen? ⟨w.heap.size + 1, 2, none⟩ = false := k1.still (v := .int .i64 0) (by go_simp) (by go_simp)
  have c1 := ((((Keep.refl w).alloc _).alloc _).trans k1)
  go_wp2
  refine bodyPost_ret (v := .tuple #[.agg #[.int .i64 0, .int .i64 0, .int .i64 0], .bool false]) (by simp [results, Tryd.results29, go_sem, *]) rfl ⟨rfl, ?_⟩
  exact ((c1.setCell (by simp) _).setCell (by simp) _).setCell (by simp) _
set_option maxHeartbeats 2000000 in
theorem turn_impl_no (y m d c : Int) (w : World) (T : Tabs w) (h : dv y m d c = true) (h2 : dayOk (dn y m d c) (3 - c) = false) :
    Calls Tryd.prog 29 #[.agg #[.int .i64 y, .int .i64 m, .int .i64 d], .int .i64 c] w fun e w' => e = .returned (.tuple #[.agg #[.int .i64 0, .int .i64 0, .int .i64 0], .bool false]) ∧ Keep w w' := by
  have E := dOut_yes h
  obtain ⟨n1, n2⟩ := dn_bd h
  have hc := (dv_facts h).1
  generalize hn : dn y m d c = n at *
  have HN := Lib.hid hn
  clear hn
  rcases cOne_cases hc with rfl | rfl
  case' inl => have H2 : Hid (dayOk n 2 = false) := Lib.hid h2
  case' inr => have H2 : Hid (dayOk n 1 = false) := Lib.hid h2
  all_goals
    clear hc h2
    go_enter Tryd.func29, Tryd.ntmps29
    go_wp2_with fail
    refine (dayof_impl y m d _ _ ((T.keep ((Keep.refl w).alloc _)).keep ((Keep.refl _).alloc _))).mono ?_
    rintro e w1 ⟨rfl, k1⟩
    have ak1_0 : w1.cell? ⟨w.heap.size, 0, none⟩ = some (.int .i64 y) := k1.cell (by go_simp)
    have ak1f0 : w1.frozen? ⟨w.heap.size, 0, none⟩ = false := k1.still (v := .int .i64 y) (by go_simp) (by go_simp)
    have ak1_1 : w1.cell? ⟨w.heap.size, 1, none⟩ = some (.int .i64 m) := k1.cell (by go_simp)
    have ak1f1 : w1.frozen? ⟨w.heap.size, 1, none⟩ = false := k1.still (v := .int .i64 m) (by go_simp) (by go_simp)
    have ak1_2 : w1.cell? ⟨w.heap.size, 2, none⟩ = some (.int .i64 d) := k1.cell (by go_simp)
    have ak1f2 : w1.frozen? ⟨w.heap.size, 2, none⟩ = false := k1.still (v := .int .i64 d) (by go_simp) (by go_simp)
    have rk1_0 : w1.cell? ⟨w.heap.size + 1, 0, none⟩ = some (.int .i64 0) := k1.cell (by go_simp)
    have rk1f0 : w1.frozen? ⟨w.heap.size + 1, 0, none⟩ = false := k1.still (v := .int .i64 0) (by go_simp) (by go_simp)
    have rk1_1 : w1.cell? ⟨w.heap.size + 1, 1, none⟩ = some (.int .i64 0) := k1.cell (by go_simp)
    have rk1f1 : w1.frozen? ⟨w.heap.size + 1, 1, none⟩ = false := k1.still (v := .int .i64 0) (by go_simp) (by go_simp)
    have rk1_2 : w1.cell? ⟨w.heap.size + 1, 2, none⟩ = some (.int .i64 0) := k1.cell (by go_simp)
    have rk1f2 : w1.frozen? ⟨w.heap.size + 1, 2, none⟩ = false := k1.still (v := .int .i64 0) (by go_simp) (by go_simp)
    have c1 := ((((Keep.refl w).alloc _).alloc _).trans k1)
    go_wp2_with fail
    refine (dateof_impl_no _ _ _ (((T.keep ((Keep.refl w).alloc _)).keep ((Keep.refl _).alloc _)).keep k1) H2.out).mono ?_
    rintro e w2 ⟨rfl, k2⟩
    have rk2_0 : w2.cell? ⟨w.heap.size + 1, 0, none⟩ = some (.int .i64 0) := k2.cell (by first | exact rk1_0 | go_simp)
    have rk2f0 : w2.frozen? ⟨w.heap.size + 1, 0, none⟩ = false := k2.still (v := .int .i64 0) (by first | exact rk1_0 | go_simp) (by first | exact rk1f0 | go_simp)
    have rk2_1 : w2.cell? ⟨w.heap.size + 1, 1, none⟩ = some (.int .i64 0) := k2.cell (by first | exact rk1_1 | go_simp)
    have rk2f1 : w2.frozen? ⟨w.heap.size + 1, 1, none⟩ = false := k2.still (v := .int .i64 0) (by first | exact rk1_1 | go_simp) (by first | exact rk1f1 | go_simp)
    have rk2_2 : w2.cell? ⟨w.heap.size + 1, 2, none⟩ = some (.int .i64 0) := k2.cell (by first | exact rk1_2 | go_simp)
    have rk2f2 : w2.frozen? ⟨w.heap.size + 1, 2, none⟩ = false := k2.still (v := .int .i64 0) (by first | exact rk1_2 | go_simp) (by first | exact rk1f2 | go_simp)
    go_wp2
    refine bodyPost_ret (v := .tuple #[.agg #[.int .i64 0, .int .i64 0, .int .i64 0], .bool false]) (by simp [results, Tryd.results29, go_sem, *]) rfl ⟨rfl, ?_⟩
    exact (((c1.trans k2).setCell (by simp) _).setCell (by simp) _).setCell (by simp) _
set_option maxHeartbeats 2000000 in
theorem turn_impl_yes (y m d c : Int) (w : World) (T : Tabs w) (h : dv y m d c = true) (h2 : dayOk (dn y m d c) (3 - c) = true) :
    Calls Tryd.prog 29 #[.agg #[.int .i64 y, .int .i64 m, .int .i64 d], .int .i64 c] w (DateYes (dn y m d c) (3 - c) w) := by
  have E := dOut_yes h
  obtain ⟨n1, n2⟩ := dn_bd h
  have hc := (dv_facts h).1
  generalize hn : dn y m d c = n at *
  have HN := Lib.hid hn
  clear hn
  rcases cOne_cases hc with rfl | rfl
  case' inl => have H2 : Hid (dayOk n 2 = true) := Lib.hid h2
  case' inr => have H2 : Hid (dayOk n 1 = true) := Lib.hid h2
  all_goals
    clear hc h2
    go_enter Tryd.func29, Tryd.ntmps29
    go_wp2_with fail
    refine (dayof_impl y m d _ _ ((T.keep ((Keep.refl w).alloc _)).keep ((Keep.refl _).alloc _))).mono ?_
    rintro e w1 ⟨rfl, k1⟩
    have ak1_0 : w1.cell? ⟨w.heap.size, 0, none⟩ = some (.int .i64 y) := k1.cell (by go_simp)
    have ak1f0 : w1.frozen? ⟨w.heap.size, 0, none⟩ = false := k1.still (v := .int .i64 y) (by go_simp) (by go_simp)
    have ak1_1 : w1.cell? ⟨w.heap.size, 1, none⟩ = some (.int .i64 m) := k1.cell (by go_simp)
    have ak1f1 : w1.frozen? ⟨w.heap.size, 1, none⟩ = false := k1.still (v := .int .i64 m) (by go_simp) (by go_simp)
    have ak1_2 : w1.cell? ⟨w.heap.size, 2, none⟩ = some (.int .i64 d) := k1.cell (by go_simp)
    have ak1f2 : w1.frozen? ⟨w.heap.size, 2, none⟩ = false := k1.still (v := .int .i64 d) (by go_simp) (by go_simp)
    have rk1_0 : w1.cell? ⟨w.heap.size + 1, 0, none⟩ = some (.int .i64 0) := k1.cell (by go_simp)
    have rk1f0 : w1.frozen? ⟨w.heap.size + 1, 0, none⟩ = false := k1.still (v := .int .i64 0) (by go_simp) (by go_simp)
    have rk1_1 : w1.cell? ⟨w.heap.size + 1, 1, none⟩ = some (.int .i64 0) := k1.cell (by go_simp)
    have rk1f1 : w1.frozen? ⟨w.heap.size + 1, 1, none⟩ = false := k1.still (v := .int .i64 0) (by go_simp) (by go_simp)
    have rk1_2 : w1.cell? ⟨w.heap.size + 1, 2, none⟩ = some (.int .i64 0) := k1.cell (by go_simp)
    have rk1f2 : w1.frozen? ⟨w.heap.size + 1, 2, none⟩ = false := k1.still (v := .int .i64 0) (by go_simp) (by go_simp)
    have c1 := ((((Keep.refl w).alloc _).alloc _).trans k1)
    go_wp2_with fail
    refine (dateof_impl_yes _ _ _ (((T.keep ((Keep.refl w).alloc _)).keep ((Keep.refl _).alloc _)).keep k1) H2.out).mono ?_
    rintro e w2 ⟨y', m', d', rfl, hd1, hd2, k2⟩
    have HD1 := Lib.hid hd1
    have HD2 := Lib.hid hd2
    clear hd1 hd2
    have rk2_0 : w2.cell? ⟨w.heap.size + 1, 0, none⟩ = some (.int .i64 0) := k2.cell (by first | exact rk1_0 | go_simp)
    have rk2f0 : w2.frozen? ⟨w.heap.size + 1, 0, none⟩ = false := k2.still (v := .int .i64 0) (by first | exact rk1_0 | go_simp) (by first | exact rk1f0 | go_simp)
    have rk2_1 : w2.cell? ⟨w.heap.size + 1, 1, none⟩ = some (.int .i64 0) := k2.cell (by first | exact rk1_1 | go_simp)
    have rk2f1 : w2.frozen? ⟨w.heap.size + 1, 1, none⟩ = false := k2.still (v := .int .i64 0) (by first | exact rk1_1 | go_simp) (by first | exact rk1f1 | go_simp)
    have rk2_2 : w2.cell? ⟨w.heap.size + 1, 2, none⟩ = some (.int .i64 0) := k2.cell (by first | exact rk1_2 | go_simp)
    have rk2f2 : w2.frozen? ⟨w.heap.size + 1, 2, none⟩ = false := k2.still (v := .int .i64 0) (by first | exact rk1_2 | go_simp) (by first | exact rk1f2 | go_simp)
    go_wp2
    refine bodyPost_ret (v := .tuple #[.agg #[.int .i64 y', .int .i64 m', .int .i64 d'], .bool true]) (by simp [results, Tryd.results29, go_sem, *]) rfl ⟨y', m', d', rfl, HD1.out, HD2.out, ?_⟩
    exact (((c1.trans k2).setCell (by simp) _).setCell (by simp) _).setCell (by simp) _
end Go.Proofs.YthlabofegjfmfaaDoor
