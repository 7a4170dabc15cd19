/- P17: days follow each other. -/
import Derived.Test.YthlabofegjfmfaaDoorIu
import Derived.Test.YthlabofegjfmfaaDoorCu
import Derived.Test.YthlabofegjfmfaaDoorDrCc
namespace Go.Proofs.YthlabofegjfmfaaDoor
open Go.RowKit
set_option linter.unusedVariables false

theorem dv_bd {y m d c : Int} (h : dv y m d c = true) : 1 ≤ y ∧ y ≤ 2200 ∧ 1 ≤ m ∧ m ≤ 12 ∧ 1 ≤ d ∧ d ≤ 31 := by
  obtain ⟨hc, y1, y2, m1, m2, d1, d2⟩ := dv_facts h
  have := mlen_bd y m c m1 m2
  omega
theorem next_cases {y m d c n : Int} (h : dv y m d c = true) (hn : dn y m d c = n) :
    (d < mlen y m c ∧ dv y m (d + 1) c = true ∧ dn y m (d + 1) c = n + 1) ∨
    (m < 12 ∧ dv y (m + 1) 1 c = true ∧ dn y (m + 1) 1 c = n + 1) ∨
    ((m = 12 ∧ d = 31) ∧ dv (y + 1) 1 1 c = true ∧ dn (y + 1) 1 1 c = n + 1) ∨
    ((m = 12 ∧ d = 31 ∧ y = 2200) ∧ dayOk (n + 1) c = false) := by
  obtain ⟨hc, y1, y2, m1, m2, d1, d2⟩ := dv_facts h
  have m12 : mlen y 12 c = 31 := by simp [mlen, cum]; omega
  rcases later 1 (by omega) (by omega) h with ⟨h1, h2, h3⟩ | ⟨h1, h2, h3, h4⟩ | ⟨h1, h2, h3, h4, h5⟩ | ⟨h1, h2, h3, h4⟩
  · exact .inl ⟨by omega, h2, by rw [h3, hn]⟩
  · have e : d + 1 - mlen y m c = 1 := by omega
    rw [e] at h3 h4
    exact .inr (.inl ⟨h2, h3, by rw [h4, hn]⟩)
  · have e : d + 1 - mlen y m c = 1 := by omega
    rw [e] at h4 h5
    subst h2
    exact .inr (.inr (.inl ⟨⟨rfl, by omega⟩, h4, by rw [h5, hn]⟩))
  · subst h2
    exact .inr (.inr (.inr ⟨⟨rfl, by omega, h3⟩, by rw [← hn]; exact h4⟩))

set_option maxRecDepth 100000 in
set_option maxHeartbeats 3200000 in
theorem walk_FnDateNext (a0 : Option Addr) (len0 cap0 : Nat) (z0 : List Int) (w : World) (w0 : IsRow .u8 w a0 len0 cap0 z0) (T : Tabs w) :
    Calls Tryd.prog 5 #[.slice a0 len0 cap0] w fun e w' => e = .returned (.bool true) ∧ Below w.heap.size w w' := by
  have ha := code_of_row w0
  obtain ⟨hl, hm⟩ := ha.1
  unfold maxLen at hm
  clear w0
  by_cases h : len0 ≤ 1048576
  case' neg =>
    have hd : decide (1048576 < (len0 : Int)) = true := by simp; omega
    go_enter Tryd.func5, Tryd.ntmps5
    go_wp2
    go_ret
    exact ⟨rfl, Below.refl _ _⟩
  have hd : decide (1048576 < (len0 : Int)) = false := by simp; omega
  go_enter Tryd.func5, Tryd.ntmps5
  have HT := Lib.hid T
  clear T
  go_wp2_with fail
  refine (drawDateOf a0 len0 cap0 _ ha).mono ?_
  rintro e w1 ⟨n, c, rfl, ⟨b1, b2⟩, hc, k1⟩
  have c1 : Keep w w1 := Keep.trans (by repeat' (first | with_reducible assumption | with_reducible exact Keep.refl _ | with_reducible refine Keep.setCell ?_ (by omega) _ | with_reducible refine Keep.drew ?_ | with_reducible refine Keep.drewN ?_ _ | with_reducible refine Keep.alloc ?_ _)) k1
  have z1 : w.heap.size ≤ w1.heap.size := c1.size
  clear hc
  rcases Bool.eq_false_or_eq_true (dayOk n c) with hk | hk
  case inl =>
    have HK := Lib.hid hk
    clear hk
    go_wp2_with fail
    refine (dateof_impl_yes n c _ (HT.out.keep (by repeat' (first | with_reducible assumption | with_reducible exact Keep.refl _ | with_reducible refine Keep.setCell ?_ (by omega) _ | with_reducible refine Keep.drew ?_ | with_reducible refine Keep.drewN ?_ _ | with_reducible refine Keep.alloc ?_ _))) HK.out).mono ?_
    rintro e w2 ⟨y, m, d, rfl, hd1, hd2, k2⟩
    have c2 : Keep w w2 := Keep.trans (by repeat' (first | with_reducible assumption | with_reducible exact Keep.refl _ | with_reducible refine Keep.setCell ?_ (by omega) _ | with_reducible refine Keep.drew ?_ | with_reducible refine Keep.drewN ?_ _ | with_reducible refine Keep.alloc ?_ _)) k2
    have z2 : w.heap.size ≤ w2.heap.size := c2.size
    have HD1 := Lib.hid hd1
    have HD2 := Lib.hid hd2
    clear hd1 hd2
    go_wp2_with fail
    refine (dateof_spec_yes n c _ HK.out).mono ?_
    rintro e w3 ⟨y', m', d', rfl, hd1, hd2, k3⟩
    have c3 : Keep w w3 := Keep.trans (by repeat' (first | with_reducible assumption | with_reducible exact Keep.refl _ | with_reducible refine Keep.setCell ?_ (by omega) _ | with_reducible refine Keep.drew ?_ | with_reducible refine Keep.drewN ?_ _ | with_reducible refine Keep.alloc ?_ _)) k3
    have z3 : w.heap.size ≤ w3.heap.size := c3.size
    have o3_0 : w3.cell? ⟨w2.heap.size, 0, none⟩ = some (.int .i64 y) := k3.cell (by first | exact o2_0 | go_simp)
    have o3f0 : w3.frozen? ⟨w2.heap.size, 0, none⟩ = false := k3.still (v := .int .i64 y) (by first | exact o2_0 | go_simp) (by first | exact o2f0 | go_simp)
    have o3_1 : w3.cell? ⟨w2.heap.size, 1, none⟩ = some (.int .i64 m) := k3.cell (by first | exact o2_1 | go_simp)
    have o3f1 : w3.frozen? ⟨w2.heap.size, 1, none⟩ = false := k3.still (v := .int .i64 m) (by first | exact o2_1 | go_simp) (by first | exact o2f1 | go_simp)
    have o3_2 : w3.cell? ⟨w2.heap.size, 2, none⟩ = some (.int .i64 d) := k3.cell (by first | exact o2_2 | go_simp)
    have o3f2 : w3.frozen? ⟨w2.heap.size, 2, none⟩ = false := k3.still (v := .int .i64 d) (by first | exact o2_2 | go_simp) (by first | exact o2f2 | go_simp)
    have oz3 : w2.heap.size < w3.heap.size := World.block_lt_of_cell? w3 _ o3_0
    obtain ⟨rfl, rfl, rfl⟩ := dn_inj hd1 HD1.out (hd2.trans HD2.out.symm)
    clear hd1 hd2
    obtain ⟨y1, y2, m1, m2, d1, d2⟩ := dv_bd HD1.out
    rcases next_cases HD1.out HD2.out with ⟨f, hx1, hx2⟩ | ⟨f, hx1, hx2⟩ | ⟨f, hx1, hx2⟩ | ⟨f, hx1⟩
    case inl =>
      skip
      have HX1 := Lib.hid hx1
      have HX2 := Lib.hid hx2
      have HO := Lib.hid (show dayOk (n + 1) c = true from HX2.out ▸ dn_ok HX1.out)
      clear hx1 hx2
      go_wp2_with fail
      refine (dateof_impl_yes (n + 1) c _ (HT.out.keep (by repeat' (first | with_reducible assumption | with_reducible exact Keep.refl _ | with_reducible refine Keep.setCell ?_ (by omega) _ | with_reducible refine Keep.drew ?_ | with_reducible refine Keep.drewN ?_ _ | with_reducible refine Keep.alloc ?_ _))) HO.out).mono ?_
      rintro e w4 ⟨y2', m2', d2', rfl, hd1, hd2, k4⟩
      have c4 : Keep w w4 := Keep.trans (by repeat' (first | with_reducible assumption | with_reducible exact Keep.refl _ | with_reducible refine Keep.setCell ?_ (by omega) _ | with_reducible refine Keep.drew ?_ | with_reducible refine Keep.drewN ?_ _ | with_reducible refine Keep.alloc ?_ _)) k4
      have z4 : w.heap.size ≤ w4.heap.size := c4.size
      have o4_0 : w4.cell? ⟨w2.heap.size, 0, none⟩ = some (.int .i64 y') := k4.cell (by first | exact o3_0 | go_simp)
      have o4f0 : w4.frozen? ⟨w2.heap.size, 0, none⟩ = false := k4.still (v := .int .i64 y') (by first | exact o3_0 | go_simp) (by first | exact o3f0 | go_simp)
      have o4_1 : w4.cell? ⟨w2.heap.size, 1, none⟩ = some (.int .i64 m') := k4.cell (by first | exact o3_1 | go_simp)
      have o4f1 : w4.frozen? ⟨w2.heap.size, 1, none⟩ = false := k4.still (v := .int .i64 m') (by first | exact o3_1 | go_simp) (by first | exact o3f1 | go_simp)
      have o4_2 : w4.cell? ⟨w2.heap.size, 2, none⟩ = some (.int .i64 d') := k4.cell (by first | exact o3_2 | go_simp)
      have o4f2 : w4.frozen? ⟨w2.heap.size, 2, none⟩ = false := k4.still (v := .int .i64 d') (by first | exact o3_2 | go_simp) (by first | exact o3f2 | go_simp)
      have oz4 : w2.heap.size < w4.heap.size := World.block_lt_of_cell? w4 _ o4_0
      obtain ⟨e0, e1, e2⟩ := dn_inj hd1 HX1.out (hd2.trans HX2.out.symm)
      clear hd1 hd2
      subst e0 e1 e2
      go_wp2
      first | (go_ret; exact ⟨rfl, show Keep w _ from (by repeat' (first | with_reducible assumption | with_reducible exact Keep.refl _ | with_reducible refine Keep.setCell ?_ (by omega) _ | with_reducible refine Keep.drew ?_ | with_reducible refine Keep.drewN ?_ _ | with_reducible refine Keep.alloc ?_ _))⟩) | go_outline
    case inr.inl =>
      skip
      have HX1 := Lib.hid hx1
      have HX2 := Lib.hid hx2
      have HO := Lib.hid (show dayOk (n + 1) c = true from HX2.out ▸ dn_ok HX1.out)
      clear hx1 hx2
      go_wp2_with fail
      refine (dateof_impl_yes (n + 1) c _ (HT.out.keep (by repeat' (first | with_reducible assumption | with_reducible exact Keep.refl _ | with_reducible refine Keep.setCell ?_ (by omega) _ | with_reducible refine Keep.drew ?_ | with_reducible refine Keep.drewN ?_ _ | with_reducible refine Keep.alloc ?_ _))) HO.out).mono ?_
      rintro e w4 ⟨y2', m2', d2', rfl, hd1, hd2, k4⟩
      have c4 : Keep w w4 := Keep.trans (by repeat' (first | with_reducible assumption | with_reducible exact Keep.refl _ | with_reducible refine Keep.setCell ?_ (by omega) _ | with_reducible refine Keep.drew ?_ | with_reducible refine Keep.drewN ?_ _ | with_reducible refine Keep.alloc ?_ _)) k4
      have z4 : w.heap.size ≤ w4.heap.size := c4.size
      have o4_0 : w4.cell? ⟨w2.heap.size, 0, none⟩ = some (.int .i64 y') := k4.cell (by first | exact o3_0 | go_simp)
      have o4f0 : w4.frozen? ⟨w2.heap.size, 0, none⟩ = false := k4.still (v := .int .i64 y') (by first | exact o3_0 | go_simp) (by first | exact o3f0 | go_simp)
      have o4_1 : w4.cell? ⟨w2.heap.size, 1, none⟩ = some (.int .i64 m') := k4.cell (by first | exact o3_1 | go_simp)
      have o4f1 : w4.frozen? ⟨w2.heap.size, 1, none⟩ = false := k4.still (v := .int .i64 m') (by first | exact o3_1 | go_simp) (by first | exact o3f1 | go_simp)
      have o4_2 : w4.cell? ⟨w2.heap.size, 2, none⟩ = some (.int .i64 d') := k4.cell (by first | exact o3_2 | go_simp)
      have o4f2 : w4.frozen? ⟨w2.heap.size, 2, none⟩ = false := k4.still (v := .int .i64 d') (by first | exact o3_2 | go_simp) (by first | exact o3f2 | go_simp)
      have oz4 : w2.heap.size < w4.heap.size := World.block_lt_of_cell? w4 _ o4_0
      obtain ⟨e0, e1, e2⟩ := dn_inj hd1 HX1.out (hd2.trans HX2.out.symm)
      clear hd1 hd2
      subst e0 e1 e2
      go_wp2
      first | (go_ret; exact ⟨rfl, show Keep w _ from (by repeat' (first | with_reducible assumption | with_reducible exact Keep.refl _ | with_reducible refine Keep.setCell ?_ (by omega) _ | with_reducible refine Keep.drew ?_ | with_reducible refine Keep.drewN ?_ _ | with_reducible refine Keep.alloc ?_ _))⟩) | go_outline
    case inr.inr.inl =>
      obtain ⟨rfl, rfl⟩ := f
      have HX1 := Lib.hid hx1
      have HX2 := Lib.hid hx2
      have HO := Lib.hid (show dayOk (n + 1) c = true from HX2.out ▸ dn_ok HX1.out)
      clear hx1 hx2
      go_wp2_with fail
      refine (dateof_impl_yes (n + 1) c _ (HT.out.keep (by repeat' (first | with_reducible assumption | with_reducible exact Keep.refl _ | with_reducible refine Keep.setCell ?_ (by omega) _ | with_reducible refine Keep.drew ?_ | with_reducible refine Keep.drewN ?_ _ | with_reducible refine Keep.alloc ?_ _))) HO.out).mono ?_
      rintro e w4 ⟨y2', m2', d2', rfl, hd1, hd2, k4⟩
      have c4 : Keep w w4 := Keep.trans (by repeat' (first | with_reducible assumption | with_reducible exact Keep.refl _ | with_reducible refine Keep.setCell ?_ (by omega) _ | with_reducible refine Keep.drew ?_ | with_reducible refine Keep.drewN ?_ _ | with_reducible refine Keep.alloc ?_ _)) k4
      have z4 : w.heap.size ≤ w4.heap.size := c4.size
      have o4_0 : w4.cell? ⟨w2.heap.size, 0, none⟩ = some (.int .i64 y') := k4.cell (by first | exact o3_0 | go_simp)
      have o4f0 : w4.frozen? ⟨w2.heap.size, 0, none⟩ = false := k4.still (v := .int .i64 y') (by first | exact o3_0 | go_simp) (by first | exact o3f0 | go_simp)
      have o4_1 : w4.cell? ⟨w2.heap.size, 1, none⟩ = some (.int .i64 12) := k4.cell (by first | exact o3_1 | go_simp)
      have o4f1 : w4.frozen? ⟨w2.heap.size, 1, none⟩ = false := k4.still (v := .int .i64 12) (by first | exact o3_1 | go_simp) (by first | exact o3f1 | go_simp)
      have o4_2 : w4.cell? ⟨w2.heap.size, 2, none⟩ = some (.int .i64 31) := k4.cell (by first | exact o3_2 | go_simp)
      have o4f2 : w4.frozen? ⟨w2.heap.size, 2, none⟩ = false := k4.still (v := .int .i64 31) (by first | exact o3_2 | go_simp) (by first | exact o3f2 | go_simp)
      have oz4 : w2.heap.size < w4.heap.size := World.block_lt_of_cell? w4 _ o4_0
      obtain ⟨e0, e1, e2⟩ := dn_inj hd1 HX1.out (hd2.trans HX2.out.symm)
      clear hd1 hd2
      subst e0 e1 e2
      go_wp2
      first | (go_ret; exact ⟨rfl, show Keep w _ from (by repeat' (first | with_reducible assumption | with_reducible exact Keep.refl _ | with_reducible refine Keep.setCell ?_ (by omega) _ | with_reducible refine Keep.drew ?_ | with_reducible refine Keep.drewN ?_ _ | with_reducible refine Keep.alloc ?_ _))⟩) | go_outline
    case inr.inr.inr =>
      obtain ⟨rfl, rfl, rfl⟩ := f
      have HX := Lib.hid hx1
      clear hx1
      go_wp2_with fail
      refine (dateof_impl_no (n + 1) c _ (HT.out.keep (by repeat' (first | with_reducible assumption | with_reducible exact Keep.refl _ | with_reducible refine Keep.setCell ?_ (by omega) _ | with_reducible refine Keep.drew ?_ | with_reducible refine Keep.drewN ?_ _ | with_reducible refine Keep.alloc ?_ _))) HX.out).mono ?_
      rintro e w4 ⟨rfl, k4⟩
      have c4 : Keep w w4 := Keep.trans (by repeat' (first | with_reducible assumption | with_reducible exact Keep.refl _ | with_reducible refine Keep.setCell ?_ (by omega) _ | with_reducible refine Keep.drew ?_ | with_reducible refine Keep.drewN ?_ _ | with_reducible refine Keep.alloc ?_ _)) k4
      have z4 : w.heap.size ≤ w4.heap.size := c4.size
      have o4_0 : w4.cell? ⟨w2.heap.size, 0, none⟩ = some (.int .i64 2200) := k4.cell (by first | exact o3_0 | go_simp)
      have o4f0 : w4.frozen? ⟨w2.heap.size, 0, none⟩ = false := k4.still (v := .int .i64 2200) (by first | exact o3_0 | go_simp) (by first | exact o3f0 | go_simp)
      have o4_1 : w4.cell? ⟨w2.heap.size, 1, none⟩ = some (.int .i64 12) := k4.cell (by first | exact o3_1 | go_simp)
      have o4f1 : w4.frozen? ⟨w2.heap.size, 1, none⟩ = false := k4.still (v := .int .i64 12) (by first | exact o3_1 | go_simp) (by first | exact o3f1 | go_simp)
      have o4_2 : w4.cell? ⟨w2.heap.size, 2, none⟩ = some (.int .i64 31) := k4.cell (by first | exact o3_2 | go_simp)
      have o4f2 : w4.frozen? ⟨w2.heap.size, 2, none⟩ = false := k4.still (v := .int .i64 31) (by first | exact o3_2 | go_simp) (by first | exact o3f2 | go_simp)
      have oz4 : w2.heap.size < w4.heap.size := World.block_lt_of_cell? w4 _ o4_0
      go_wp2
      first | (go_ret; exact ⟨rfl, show Keep w _ from (by repeat' (first | with_reducible assumption | with_reducible exact Keep.refl _ | with_reducible refine Keep.setCell ?_ (by omega) _ | with_reducible refine Keep.drew ?_ | with_reducible refine Keep.drewN ?_ _ | with_reducible refine Keep.alloc ?_ _))⟩) | go_outline
  case inr =>
    have HK := Lib.hid hk
    clear hk
    go_wp2_with fail
    refine (dateof_impl_no n c _ (HT.out.keep (by repeat' (first | with_reducible assumption | with_reducible exact Keep.refl _ | with_reducible refine Keep.setCell ?_ (by omega) _ | with_reducible refine Keep.drew ?_ | with_reducible refine Keep.drewN ?_ _ | with_reducible refine Keep.alloc ?_ _))) HK.out).mono ?_
    rintro e w2 ⟨rfl, k2⟩
    have c2 : Keep w w2 := Keep.trans (by repeat' (first | with_reducible assumption | with_reducible exact Keep.refl _ | with_reducible refine Keep.setCell ?_ (by omega) _ | with_reducible refine Keep.drew ?_ | with_reducible refine Keep.drewN ?_ _ | with_reducible refine Keep.alloc ?_ _)) k2
    have z2 : w.heap.size ≤ w2.heap.size := c2.size
    go_wp2_with fail
    refine (dateof_spec_no n c _ HK.out).mono ?_
    rintro e w3 ⟨rfl, k3⟩
    have c3 : Keep w w3 := Keep.trans (by repeat' (first | with_reducible assumption | with_reducible exact Keep.refl _ | with_reducible refine Keep.setCell ?_ (by omega) _ | with_reducible refine Keep.drew ?_ | with_reducible refine Keep.drewN ?_ _ | with_reducible refine Keep.alloc ?_ _)) k3
    have z3 : w.heap.size ≤ w3.heap.size := c3.size
    have o3_0 : w3.cell? ⟨w2.heap.size, 0, none⟩ = some (.int .i64 0) := k3.cell (by first | exact o2_0 | go_simp)
    have o3f0 : w3.frozen? ⟨w2.heap.size, 0, none⟩ = false := k3.still (v := .int .i64 0) (by first | exact o2_0 | go_simp) (by first | exact o2f0 | go_simp)
    have o3_1 : w3.cell? ⟨w2.heap.size, 1, none⟩ = some (.int .i64 0) := k3.cell (by first | exact o2_1 | go_simp)
    have o3f1 : w3.frozen? ⟨w2.heap.size, 1, none⟩ = false := k3.still (v := .int .i64 0) (by first | exact o2_1 | go_simp) (by first | exact o2f1 | go_simp)
    have o3_2 : w3.cell? ⟨w2.heap.size, 2, none⟩ = some (.int .i64 0) := k3.cell (by first | exact o2_2 | go_simp)
    have o3f2 : w3.frozen? ⟨w2.heap.size, 2, none⟩ = false := k3.still (v := .int .i64 0) (by first | exact o2_2 | go_simp) (by first | exact o2f2 | go_simp)
    have oz3 : w2.heap.size < w3.heap.size := World.block_lt_of_cell? w3 _ o3_0
    go_wp2
    go_ret
    exact ⟨rfl, show Keep w _ from (by repeat' (first | with_reducible assumption | with_reducible exact Keep.refl _ | with_reducible refine Keep.setCell ?_ (by omega) _ | with_reducible refine Keep.drew ?_ | with_reducible refine Keep.drewN ?_ _ | with_reducible refine Keep.alloc ?_ _))⟩
end Go.Proofs.YthlabofegjfmfaaDoor
