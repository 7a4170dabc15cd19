/- The walk of the law: a report has three words; a blank behind them, or a zero ahead of its first number, spoils it. -/
import Derived.Test.YthlabofegjfmfabDrPb
import Derived.Test.YthlabofegjfmfabCur3
import Derived.Test.YthlabofegjfmfabSp3
import Derived.Deep.RegionWith
namespace Go.Proofs.Ythlabofegjfmfab
open Go.RowKit
set_option linter.unusedVariables false

theorem ext_list (t : ByteArray) (i j : Nat) : (t.extract i j).data.toList = (t.data.toList.take j).drop i := by
  simp [List.drop_take]
theorem blank_list (t u : ByteArray) : (t ++ u).data.toList = t.data.toList ++ u.data.toList := by
  simp
theorem zero_list (t : ByteArray) (r : List UInt8) (h : t.data.toList = 115 :: r) : (t.extract 0 1 ++ ⟨#[48]⟩ ++ t.extract 1 t.size).data.toList = 115 :: 48 :: r := by
  have hs : t.size = r.length + 1 := by
    have h1 := congrArg List.length h
    rw [Array.length_toList] at h1
    rw [List.length_cons] at h1
    exact h1
  rw [blank_list, blank_list, ext_list, ext_list, h, hs]
  simp
/-- What is no report is answered so. -/
theorem parsed_no {l : List UInt8} {e : Ending} (h : Parsed l e) (hn : ∀ s d k v, ¬ Rep l s d k v) : e = .returned (.tuple #[.agg #[.int .i64 0, .int .i64 0, .int .i64 0, .int .i64 0], .bool false]) := by
  rcases h with ⟨s, d, k, v, h1, _, _⟩ | ⟨_, h⟩
  · exact absurd h1 (hn s d k v)
  · exact h

set_option maxHeartbeats 2000000 in
theorem walk_FnReportParseBad (a0 : Option Addr) (len0 cap0 : Nat) (z0 : List Int) (w : World) (w0 : IsRow .u8 w a0 len0 cap0 z0) :
    Calls Try.prog 3 #[.slice a0 len0 cap0] w fun e w' => e = .returned (.bool true) ∧ Below w.heap.size w w' := by
  have ha := code_of_row w0
  obtain ⟨hl, hm⟩ := ha.1
  unfold maxLen at hm
  clear w0
  by_cases h : len0 ≤ 1048576
  · have hd : decide (1048576 < (len0 : Int)) = false := by simp; omega
    go_enter Try.func3, Try.ntmps3
    go_wp2_with fail
    refine (drawReportParse a0 len0 cap0 _ ha).mono ?_
    rintro e w1 ⟨t, rfl, ht, k1⟩
    go_wp2_with fail
    refine (rp_impl t _ (by omega)).mono ?_
    rintro e w2 ⟨hp, k2⟩
    rcases hp with ⟨s, d, k, v, h1, h2, rfl⟩ | ⟨h1, rfl⟩
    · have HP := Lib.hid (show Parsed t.data.toList _ from .inl ⟨s, d, k, v, h1, h2, rfl⟩)
      have HX := Lib.hid h1
      clear h1 h2
      go_wp2_with fail
      refine (rp_spec t _ (by omega)).mono ?_
      rintro e w3 ⟨he3, k3⟩
      have hE := he3.same HP.out
      subst hE
      clear he3 HP
      have x0 := Keep.new k3 0 (v := .int .i64 s) rfl
      have x1 := Keep.new k3 1 (v := .int .i64 d) rfl
      have x2 := Keep.new k3 2 (v := .int .i64 k) rfl
      have x3 := Keep.new k3 3 (v := .int .i64 v) rfl
      have hb : w2.heap.size < w3.heap.size := World.block_lt_of_cell? w3 _ x0
      have kf := ((k1.trans k2).alloc _).trans k3
      obtain ⟨r, hr⟩ : ∃ r, t.data.toList = 115 :: r := by
        obtain ⟨r, hr, _⟩ := HX.out
        exact ⟨r, hr⟩
      have hlen : 1 ≤ t.size := by
        have h1 := congrArg List.length hr
        rw [Array.length_toList, List.length_cons] at h1
        have h2 : t.size = t.data.size := rfl
        omega
      have HA := Lib.hid (show ∀ s d k v, ¬ Rep (t ++ ⟨#[32]⟩ : ByteArray).data.toList s d k v by
        intro s' d' k' v'
        rw [blank_list]
        exact rep_blank HX.out)
      have HZ := Lib.hid (show ∀ s d k v, ¬ Rep (t.extract 0 1 ++ ⟨#[48]⟩ ++ t.extract 1 t.size : ByteArray).data.toList s d k v by
        intro s' d' k' v'
        rw [zero_list t r hr]
        have h0 := HX.out
        rw [hr] at h0
        exact rep_zero h0)
      have s1 : (t ++ ⟨#[32]⟩ : ByteArray).size ≤ 1048576 := by
        have h1 : (⟨#[32]⟩ : ByteArray).size = 1 := rfl
        rw [ByteArray.size_append]; omega
      have s2 : (t.extract 0 1 ++ ⟨#[48]⟩ ++ t.extract 1 t.size : ByteArray).size ≤ 1048576 := by
        have h1 : (⟨#[48]⟩ : ByteArray).size = 1 := rfl
        have h2 := ext_le t 0 1
        have h3 := ext_le t 1 t.size
        rw [ByteArray.size_append, ByteArray.size_append]; omega
      have t1 : ¬ 9223372036854775807 < t.size + 1 := by omega
      have t2 : ¬ 9223372036854775807 < min 1 t.size + 1 := by omega
      have t3 : ¬ 9223372036854775807 < min 1 t.size + 1 + (t.size - 1) := by omega
      have t5 : ¬ 9223372036854775807 < 1 + 1 + (t.size - 1) := by omega
      have t6 : ¬ 9223372036854775807 < 2 + (t.size - 1) := by omega
      have t4 : (1 : Int) ≤ (t.size : Int) := by omega
      clear k3 hr HX
      go_wp2_with fail
      refine (rp_impl _ _ s1).mono ?_
      rintro e w4 ⟨hp4, k4⟩
      have hE4 := parsed_no hp4 HA.out
      subst hE4
      clear hp4 HA
      have k4f : Keep w w4 := (kf.alloc _).trans k4
      clear kf k4 k1 k2 x0 x1 x2 x3
      go_wp2_with fail
      have b0 : (((w4.alloc (.cells #[.int .i64 0, .int .i64 0, .int .i64 0, .int .i64 0] 25)).alloc (.cells #[.int .i64 0, .int .i64 0, .int .i64 0, .int .i64 0] 25)).drew).cell? ⟨w4.heap.size + 1, 0, none⟩ = some (.int .i64 0) := by go_simp
      have g0 : (((w4.alloc (.cells #[.int .i64 0, .int .i64 0, .int .i64 0, .int .i64 0] 25)).alloc (.cells #[.int .i64 0, .int .i64 0, .int .i64 0, .int .i64 0] 25)).drew).frozen? ⟨w4.heap.size + 1, 0, none⟩ = false := by go_simp
      have b1 : (((w4.alloc (.cells #[.int .i64 0, .int .i64 0, .int .i64 0, .int .i64 0] 25)).alloc (.cells #[.int .i64 0, .int .i64 0, .int .i64 0, .int .i64 0] 25)).drew).cell? ⟨w4.heap.size + 1, 1, none⟩ = some (.int .i64 0) := by go_simp
      have g1 : (((w4.alloc (.cells #[.int .i64 0, .int .i64 0, .int .i64 0, .int .i64 0] 25)).alloc (.cells #[.int .i64 0, .int .i64 0, .int .i64 0, .int .i64 0] 25)).drew).frozen? ⟨w4.heap.size + 1, 1, none⟩ = false := by go_simp
      have b2 : (((w4.alloc (.cells #[.int .i64 0, .int .i64 0, .int .i64 0, .int .i64 0] 25)).alloc (.cells #[.int .i64 0, .int .i64 0, .int .i64 0, .int .i64 0] 25)).drew).cell? ⟨w4.heap.size + 1, 2, none⟩ = some (.int .i64 0) := by go_simp
      have g2 : (((w4.alloc (.cells #[.int .i64 0, .int .i64 0, .int .i64 0, .int .i64 0] 25)).alloc (.cells #[.int .i64 0, .int .i64 0, .int .i64 0, .int .i64 0] 25)).drew).frozen? ⟨w4.heap.size + 1, 2, none⟩ = false := by go_simp
      have b3 : (((w4.alloc (.cells #[.int .i64 0, .int .i64 0, .int .i64 0, .int .i64 0] 25)).alloc (.cells #[.int .i64 0, .int .i64 0, .int .i64 0, .int .i64 0] 25)).drew).cell? ⟨w4.heap.size + 1, 3, none⟩ = some (.int .i64 0) := by go_simp
      have g3 : (((w4.alloc (.cells #[.int .i64 0, .int .i64 0, .int .i64 0, .int .i64 0] 25)).alloc (.cells #[.int .i64 0, .int .i64 0, .int .i64 0, .int .i64 0] 25)).drew).frozen? ⟨w4.heap.size + 1, 3, none⟩ = false := by go_simp
      go_region_with (first
        | (go_at_call 5; refine (rp_impl _ _ s2).mono ?_; rintro e w5 ⟨hp5, k5⟩; have hE5 := parsed_no hp5 HZ.out; subst hE5; clear hp5; have k5f : Keep w w5 := Keep.trans (by (repeat' (first | with_reducible assumption | with_reducible refine Keep.drew ?_ | with_reducible refine Keep.alloc ?_ _))) k5; try (have n0 := k5.cell b0; have f0 := k5.still b0 g0; have n1 := k5.cell b1; have f1 := k5.still b1 g1; have n2 := k5.cell b2; have f2 := k5.still b2 g2; have n3 := k5.cell b3; have f3 := k5.still b3 g3)))
      all_goals
        have z4 := k4f.size
        have z5 := k5f.size
        go_wp2
        go_ret
        exact ⟨rfl, (by (change Keep w _); (repeat' (first | with_reducible assumption | with_reducible refine Keep.drew ?_ | with_reducible refine Keep.alloc ?_ _ | with_reducible refine Keep.setCell ?_ ?_ _ | omega | (simp; omega))))⟩
    · have HP := Lib.hid (show Parsed t.data.toList _ from .inr ⟨h1, rfl⟩)
      clear h1
      go_wp2_with fail
      refine (rp_spec t _ (by omega)).mono ?_
      rintro e w3 ⟨he3, k3⟩
      have hE := he3.same HP.out
      subst hE
      clear he3
      have x0 := Keep.new k3 0 (v := .int .i64 0) rfl
      have x1 := Keep.new k3 1 (v := .int .i64 0) rfl
      have x2 := Keep.new k3 2 (v := .int .i64 0) rfl
      have x3 := Keep.new k3 3 (v := .int .i64 0) rfl
      have hb : w2.heap.size < w3.heap.size := World.block_lt_of_cell? w3 _ x0
      have kf := ((k1.trans k2).alloc _).trans k3
      clear k3
      go_wp2
      go_ret
      exact ⟨rfl, kf.alloc _⟩
  · have hd : decide (1048576 < (len0 : Int)) = true := by simp; omega
    go_enter Try.func3, Try.ntmps3
    go_wp2
    go_ret
    exact ⟨rfl, Below.refl _ _⟩
end Go.Proofs.Ythlabofegjfmfab
