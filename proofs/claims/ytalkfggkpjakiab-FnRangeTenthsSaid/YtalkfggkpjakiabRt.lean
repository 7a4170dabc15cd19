/- Ranges in tenths: quotients that go down; the law's own ranges turned into the program's, and held against each other. -/
import Derived.Test.YtalkfggkpjakiabRg
import Derived.Test.YtalkfggkpjakiabStill
import Derived.IntWalk
namespace Go.Proofs.Ytalkfggkpjakiab
open Go.RowKit
set_option linter.unusedVariables false

theorem rgOk_facts' {a b : Int} (h : rgOk a b = true) : -99999 ≤ a ∧ a ≤ b ∧ b ≤ 99999 := by
  simp [rgOk, inB] at h; omega

def tLo (a b : Int) : Int := if rgOk a b then 0 - (9 - a) / 18 else 0
def tHi (a b : Int) : Int := if rgOk a b then (b + 9) / 18 else 0

set_option maxHeartbeats 400000 in
theorem floor_up (n : Int) (w : World) (h0 : 0 ≤ n) (h1 : n ≤ 200000) :
    Calls Try.prog 42 #[.int .i64 n, .int .i64 18] w fun e w' => e = .returned (.int .i64 (n / 18)) ∧ w = w' := by
  have h2 : 0 ≤ n % 18 := by omega
  go_enter Try.func42, Try.ntmps42
  go_wp2
  go_ret
  exact ⟨rfl, rfl⟩

set_option maxHeartbeats 400000 in
theorem floor_down (n : Int) (w : World) (h0 : -200000 ≤ n) (h1 : n < 0) :
    Calls Try.prog 42 #[.int .i64 n, .int .i64 18] w fun e w' => e = .returned (.int .i64 (n / 18)) ∧ w = w' := by
  obtain ⟨m, rfl⟩ : ∃ m : Int, n = -m := ⟨-n, by omega⟩
  have e1 : Int.tmod (-m) 18 = -(m % 18) := by rw [Int.neg_tmod, Int.tmod_eq_emod_of_nonneg (by omega)]
  have e2 : Int.tdiv (-m) 18 = -(m / 18) := by rw [Int.neg_tdiv, Int.tdiv_eq_ediv_of_nonneg (by omega)]
  have b1 : 0 ≤ m / 18 := by omega
  have b2 : m / 18 ≤ 200000 := by omega
  have b3 : 0 ≤ m % 18 := by omega
  have b4 : m % 18 < 18 := by omega
  by_cases hm : 0 < m % 18
  · have HR : Hid (-(m / 18) - 1 = -m / 18) := Lib.hid (by omega)
    have hd : decide (-(m % 18) < 0) = true := by simp; omega
    go_enter Try.func42, Try.ntmps42
    go_wp2
    go_ret
    exact ⟨retI HR.out, rfl⟩
  · have HR : Hid (-(m / 18) = -m / 18) := Lib.hid (by omega)
    have hd : decide (-(m % 18) < 0) = false := by simp; omega
    go_enter Try.func42, Try.ntmps42
    go_wp2
    go_ret
    exact ⟨retI HR.out, rfl⟩

theorem floor_any (n : Int) (w : World) (h0 : -200000 ≤ n) (h1 : n ≤ 200000) :
    Calls Try.prog 42 #[.int .i64 n, .int .i64 18] w fun e w' => e = .returned (.int .i64 (n / 18)) ∧ w = w' := by
  by_cases h : 0 ≤ n
  · exact floor_up n w h h1
  · exact floor_down n w h0 (by omega)

set_option maxHeartbeats 400000 in
theorem ceil_any (n : Int) (w : World) (h0 : -190000 ≤ n) (h1 : n ≤ 190000) :
    Calls Try.prog 41 #[.int .i64 n, .int .i64 18] w fun e w' => e = .returned (.int .i64 (0 - (0 - n) / 18)) ∧ w = w' := by
  have b1 : -200000 ≤ -n / 18 := by omega
  have b2 : -n / 18 ≤ 200000 := by omega
  go_enter Try.func41, Try.ntmps41
  go_wp2_with fail
  refine (floor_any (-n) _ (by omega) (by omega)).mono ?_
  rintro e w' ⟨rfl, rfl⟩
  go_wp2
  go_ret
  exact ⟨retI (by rw [Int.zero_sub, Int.zero_sub]), rfl⟩
set_option maxHeartbeats 400000 in
theorem down_any (n : Int) (w : World) (h0 : -200000 ≤ n) (h1 : n ≤ 200000) :
    Calls Try.prog 43 #[.int .i64 n, .int .i64 18] w fun e w' => e = .returned (.int .i64 (n / 18)) ∧ w = w' := by
  by_cases h : n < 0
  · have HR : Hid (0 - (0 - n + 18 - 1) / 18 = n / 18) := Lib.hid (by omega)
    have hd : 0 ≤ 0 - n + 18 - 1 := by omega
    have b1 : 0 ≤ (0 - n + 18 - 1) / 18 := by omega
    have b2 : (0 - n + 18 - 1) / 18 ≤ 200000 := by omega
    go_enter Try.func43, Try.ntmps43
    go_wp2
    go_ret
    exact ⟨retI (by have := HR.out; omega), rfl⟩
  · have h' : 0 ≤ n := by omega
    have hd : decide (n < 0) = false := by simp; omega
    go_enter Try.func43, Try.ntmps43
    go_wp2
    go_ret
    exact ⟨rfl, rfl⟩
set_option maxHeartbeats 400000 in
theorem toRg (a b : Int) (w : World) :
    Calls Try.prog 30 #[.agg #[.int .i64 a, .int .i64 b]] w fun e w' => e = .returned (.agg #[.int .i64 a, .int .i64 b]) ∧ Keep w w' := by
  go_enter Try.func30, Try.ntmps30
  go_wp2
  refine bodyPost_ret (v := .agg #[.int .i64 a, .int .i64 b]) (by simp [results, Try.results30, go_sem]) rfl ⟨rfl, ?_⟩
  repeat (first | with_reducible exact Keep.refl _ | with_reducible refine Keep.setCell ?_ (by simp <;> omega) _ | with_reducible refine Keep.alloc ?_ _)
set_option maxHeartbeats 400000 in
theorem eqRg (a b : Int) (w : World) :
    Calls Try.prog 32 #[.agg #[.int .i64 a, .int .i64 b], .agg #[.int .i64 a, .int .i64 b]] w fun e w' => e = .returned (.bool true) ∧ Keep w w' := by
  go_enter Try.func32, Try.ntmps32
  go_wp2
  go_ret
  exact ⟨rfl, ((Keep.refl _).alloc _).alloc _⟩

set_option maxHeartbeats 400000 in
theorem rt_impl_n (a b : Int) (w : World) (h : rgOk a b = false) :
    Calls Try.prog 15 #[.agg #[.int .i64 a, .int .i64 b]] w fun e w' => e = .returned (.tuple #[.agg #[.int .i64 0, .int .i64 0], .bool false]) ∧ Keep w w' := by
  go_enter Try.func15, Try.ntmps15
  go_wp2_with fail
  refine (rgMeth a b _).mono ?_
  rintro e w1 ⟨rfl, k1⟩
  have o1_0 : w1.cell? ⟨w.heap.size + 1, 0, none⟩ = some (.int .i64 0) := k1.cell (by go_simp)
  have o1_1 : w1.cell? ⟨w.heap.size + 1, 1, none⟩ = some (.int .i64 0) := k1.cell (by go_simp)
  have o1_f0 : w1.frozen? ⟨w.heap.size + 1, 0, none⟩ = false := k1.still (v := .int .i64 0) (by go_simp) (by go_simp)
  have o1_f1 : w1.frozen? ⟨w.heap.size + 1, 1, none⟩ = false := k1.still (v := .int .i64 0) (by go_simp) (by go_simp)
  go_wp2
  have hk := (((Keep.refl w).alloc _).alloc _).trans k1
  refine bodyPost_ret (v := .tuple #[.agg #[.int .i64 0, .int .i64 0], .bool false]) (by simp [results, Try.results15, go_sem, *]) rfl ⟨rfl, ?_⟩
  exact (hk.setCell (by omega) _).setCell (by omega) _

set_option maxRecDepth 100000 in
set_option maxHeartbeats 1000000 in
theorem rt_impl_y (a b : Int) (w : World) (h : rgOk a b = true) :
    Calls Try.prog 15 #[.agg #[.int .i64 a, .int .i64 b]] w fun e w' => e = .returned (.tuple #[.agg #[.int .i64 (0 - (9 - a) / 18), .int .i64 ((b + 9) / 18)], .bool true]) ∧ Keep w w' := by
  obtain ⟨f1, f2, f3⟩ := rgOk_facts' h
  have f4 : -99999 ≤ b := by omega
  have f5 : a ≤ 99999 := by omega
  go_enter Try.func15, Try.ntmps15
  go_wp2_with fail
  refine (rgMeth a b _).mono ?_
  rintro e w1 ⟨rfl, k1⟩
  have a1_0 : w1.cell? ⟨w.heap.size, 0, none⟩ = some (.int .i64 a) := k1.cell (by go_simp)
  have a1_1 : w1.cell? ⟨w.heap.size, 1, none⟩ = some (.int .i64 b) := k1.cell (by go_simp)
  have o1_0 : w1.cell? ⟨w.heap.size + 1, 0, none⟩ = some (.int .i64 0) := k1.cell (by go_simp)
  have o1_1 : w1.cell? ⟨w.heap.size + 1, 1, none⟩ = some (.int .i64 0) := k1.cell (by go_simp)
  have o1_f0 : w1.frozen? ⟨w.heap.size + 1, 0, none⟩ = false := k1.still (v := .int .i64 0) (by go_simp) (by go_simp)
  have o1_f1 : w1.frozen? ⟨w.heap.size + 1, 1, none⟩ = false := k1.still (v := .int .i64 0) (by go_simp) (by go_simp)
  go_wp2_with fail
  have s1 : IntKind.i64.wrap (a - 9) = a - 9 := IntWalk.i64_in _ (by omega)
  have s2 : IntKind.i64.wrap (b + 9) = b + 9 := IntWalk.i64_in _ (by omega)
  refine wp_region_still_tail 11 (by kernel_rfl) (by kernel_rfl) ?_
  simp only [List.take_succ_cons, List.take_zero, List.drop_succ_cons, List.drop_zero]
  change wpStill _ _ w1.drew _ _ _
  refine wpStill_hide (fun T hT => ?_)
  repeat still_step
  still_call ((ceil_any (a - 9) _ (by omega) (by omega)).mono fun _ _ h => ⟨h.1, h.2.symm⟩)
  repeat still_step
  still_call ((floor_any (b + 9) _ (by omega) (by omega)).mono fun _ _ h => ⟨h.1, h.2.symm⟩)
  repeat still_step
  refine wpStill_nil ?_
  refine hT.out _ ?_
  clear hT
  change wpList _ _ _ _ _ w1.drew
  go_wp2
  have hk := (((Keep.refl w).alloc _).alloc _).trans k1
  refine bodyPost_ret (v := .tuple #[.agg #[.int .i64 (0 - (0 - (a - 9)) / 18), .int .i64 ((b + 9) / 18)], .bool true]) (by simp [results, Try.results15, go_sem, *]) rfl ⟨retRg (by rw [show 0 - (a - 9) = 9 - a by omega]) rfl rfl, ?_⟩
  exact ((hk.drewN 1).setCell (by omega) _).setCell (by omega) _

theorem rt_impl (a b : Int) (w : World) :
    Calls Try.prog 15 #[.agg #[.int .i64 a, .int .i64 b]] w fun e w' => e = .returned (.tuple #[.agg #[.int .i64 (tLo a b), .int .i64 (tHi a b)], .bool (rgOk a b)]) ∧ Keep w w' := by
  rcases Bool.eq_false_or_eq_true (rgOk a b) with h | h
  · rw [tLo, tHi, h, if_pos rfl, if_pos rfl]; exact rt_impl_y a b w h
  · rw [tLo, tHi, h, if_neg (by simp), if_neg (by simp)]; exact rt_impl_n a b w h
set_option maxHeartbeats 400000 in
theorem rt_spec_n (a b : Int) (w : World) (h : rgOk a b = false) :
    Calls Try.prog 16 #[.agg #[.int .i64 a, .int .i64 b]] w fun e w' => e = .returned (.tuple #[.agg #[.int .i64 0, .int .i64 0], .bool false]) ∧ Keep w w' := by
  go_enter Try.func16, Try.ntmps16
  go_wp2_with fail
  refine (rg_spec a b _).mono ?_
  rintro e w1 ⟨rfl, k1⟩
  have o1_0 : w1.cell? ⟨w.heap.size + 1, 0, none⟩ = some (.int .i64 0) := k1.cell (by go_simp)
  have o1_1 : w1.cell? ⟨w.heap.size + 1, 1, none⟩ = some (.int .i64 0) := k1.cell (by go_simp)
  have o1_f0 : w1.frozen? ⟨w.heap.size + 1, 0, none⟩ = false := k1.still (v := .int .i64 0) (by go_simp) (by go_simp)
  have o1_f1 : w1.frozen? ⟨w.heap.size + 1, 1, none⟩ = false := k1.still (v := .int .i64 0) (by go_simp) (by go_simp)
  go_wp2
  have hk := (((Keep.refl w).alloc _).alloc _).trans k1
  refine bodyPost_ret (v := .tuple #[.agg #[.int .i64 0, .int .i64 0], .bool false]) (by simp [results, Try.results16, go_sem, *]) rfl ⟨rfl, ?_⟩
  exact (hk.setCell (by omega) _).setCell (by omega) _

set_option maxRecDepth 100000 in
set_option maxHeartbeats 1000000 in
theorem rt_spec_y (a b : Int) (w : World) (h : rgOk a b = true) :
    Calls Try.prog 16 #[.agg #[.int .i64 a, .int .i64 b]] w fun e w' => e = .returned (.tuple #[.agg #[.int .i64 (0 - (9 - a) / 18), .int .i64 ((b + 9) / 18)], .bool true]) ∧ Keep w w' := by
  obtain ⟨f1, f2, f3⟩ := rgOk_facts' h
  have f4 : -99999 ≤ b := by omega
  have f5 : a ≤ 99999 := by omega
  have f6 : -200000 ≤ (9 - a) / 18 := by omega
  have f7 : (9 - a) / 18 ≤ 200000 := by omega
  go_enter Try.func16, Try.ntmps16
  go_wp2_with fail
  refine (rg_spec a b _).mono ?_
  rintro e w1 ⟨rfl, k1⟩
  have a1_0 : w1.cell? ⟨w.heap.size, 0, none⟩ = some (.int .i64 a) := k1.cell (by go_simp)
  have a1_1 : w1.cell? ⟨w.heap.size, 1, none⟩ = some (.int .i64 b) := k1.cell (by go_simp)
  have o1_0 : w1.cell? ⟨w.heap.size + 1, 0, none⟩ = some (.int .i64 0) := k1.cell (by go_simp)
  have o1_1 : w1.cell? ⟨w.heap.size + 1, 1, none⟩ = some (.int .i64 0) := k1.cell (by go_simp)
  have o1_f0 : w1.frozen? ⟨w.heap.size + 1, 0, none⟩ = false := k1.still (v := .int .i64 0) (by go_simp) (by go_simp)
  have o1_f1 : w1.frozen? ⟨w.heap.size + 1, 1, none⟩ = false := k1.still (v := .int .i64 0) (by go_simp) (by go_simp)
  go_wp2_with fail
  have s1 : IntKind.i64.wrap (9 - a) = 9 - a := IntWalk.i64_in _ (by omega)
  have s2 : IntKind.i64.wrap (b + 9) = b + 9 := IntWalk.i64_in _ (by omega)
  have s3 : IntKind.i64.wrap (0 - (9 - a) / 18) = 0 - (9 - a) / 18 := IntWalk.i64_in _ (by omega)
  have s4 : IntKind.i64.wrap (-((9 - a) / 18)) = -((9 - a) / 18) := IntWalk.i64_in _ (by omega)
  refine wp_region_still_tail 10 (by kernel_rfl) (by kernel_rfl) ?_
  simp only [List.take_succ_cons, List.take_zero, List.drop_succ_cons, List.drop_zero]
  change wpStill _ _ w1.drew _ _ _
  refine wpStill_hide (fun T hT => ?_)
  repeat still_step
  still_call ((down_any (9 - a) _ (by omega) (by omega)).mono fun _ _ h => ⟨h.1, h.2.symm⟩)
  repeat still_step
  still_call ((down_any (b + 9) _ (by omega) (by omega)).mono fun _ _ h => ⟨h.1, h.2.symm⟩)
  repeat still_step
  refine wpStill_nil ?_
  refine hT.out _ ?_
  clear hT
  change wpList _ _ _ _ _ w1.drew
  go_wp2
  have hk := (((Keep.refl w).alloc _).alloc _).trans k1
  refine bodyPost_ret (v := .tuple #[.agg #[.int .i64 (0 - (9 - a) / 18), .int .i64 ((b + 9) / 18)], .bool true]) (by simp [results, Try.results16, go_sem, *]) rfl ⟨rfl, ?_⟩
  exact ((hk.drewN 1).setCell (by omega) _).setCell (by omega) _

theorem rt_spec (a b : Int) (w : World) :
    Calls Try.prog 16 #[.agg #[.int .i64 a, .int .i64 b]] w fun e w' => e = .returned (.tuple #[.agg #[.int .i64 (tLo a b), .int .i64 (tHi a b)], .bool (rgOk a b)]) ∧ Keep w w' := by
  rcases Bool.eq_false_or_eq_true (rgOk a b) with h | h
  · rw [tLo, tHi, h, if_pos rfl, if_pos rfl]; exact rt_spec_y a b w h
  · rw [tLo, tHi, h, if_neg (by simp), if_neg (by simp)]; exact rt_spec_n a b w h
end Go.Proofs.Ytalkfggkpjakiab
