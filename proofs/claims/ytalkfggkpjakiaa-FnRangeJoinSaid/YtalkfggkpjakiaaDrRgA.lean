/- The laws' own drawing of ranges and tenths out of their code. -/
import Derived.Test.YtalkfggkpjakiaaDrRg
namespace Go.Proofs.Ytalkfggkpjakiaa
open Go.RowKit
set_option linter.unusedVariables false

set_option maxHeartbeats 1000000 in
theorem drawRangeMeet (a0 : Option Addr) (len cap : Nat) (w : World) (ha : CodeArg w a0 len cap) :
    Calls Try.prog 28 #[.slice a0 len cap] w fun e w' => ∃ a b c d : Int, e = .returned (.tuple #[.agg #[.int .i64 a, .int .i64 b], .agg #[.int .i64 c, .int .i64 d]]) ∧ Sm a ∧ Sm b ∧ (-300000 ≤ c ∧ c ≤ 300000) ∧ (-300000 ≤ d ∧ d ≤ 300000) ∧ Keep w w' := by
  have ha2 := fun (o0 o1 : Obj) => ha.below (((Keep.refl w).alloc o0).alloc o1).below
  go_enter Try.func28, Try.ntmps28
  go_wp2_with fail
  refine (open_any a0 len cap _ (ha2 _ _)).mono ?_
  rintro e w1 ⟨rfl, hr0, hb0, hs0⟩
  have hr : Rd w1 (w.heap.size + 2) 0 := by simpa using hr0
  have hk1 : Keep w w1 := (((Keep.refl w).alloc _).alloc _).trans hb0
  have hs : w.heap.size + 2 < w1.heap.size := by simp at hs0; omega
  have p00 : w1.cell? ⟨w.heap.size, 0, none⟩ = some (.int .i64 0) := Keep.cell hb0 (by go_simp)
  have f00 : w1.frozen? ⟨w.heap.size, 0, none⟩ = false := Keep.still (v := .int .i64 0) hb0 (by go_simp) (by go_simp)
  have p01 : w1.cell? ⟨w.heap.size, 1, none⟩ = some (.int .i64 0) := Keep.cell hb0 (by go_simp)
  have f01 : w1.frozen? ⟨w.heap.size, 1, none⟩ = false := Keep.still (v := .int .i64 0) hb0 (by go_simp) (by go_simp)
  have p10 : w1.cell? ⟨w.heap.size + 1, 0, none⟩ = some (.int .i64 0) := Keep.cell hb0 (by go_simp)
  have f10 : w1.frozen? ⟨w.heap.size + 1, 0, none⟩ = false := Keep.still (v := .int .i64 0) hb0 (by go_simp) (by go_simp)
  have p11 : w1.cell? ⟨w.heap.size + 1, 1, none⟩ = some (.int .i64 0) := Keep.cell hb0 (by go_simp)
  have f11 : w1.frozen? ⟨w.heap.size + 1, 1, none⟩ = false := Keep.still (v := .int .i64 0) hb0 (by go_simp) (by go_simp)
  clear hr0 hs0 hb0
  go_wp2_with fail
  refine (drawNear _ 0 _ (by omega) hr).mono ?_
  rintro e w2 ⟨a, b, c, d, q, rfl, ha', hb', hc', hd', hq, hr2, ho⟩
  have hz2 := ho.size
  have q00 := (ho.cell _ _ (show w.heap.size < w1.heap.size by omega) (by omega)).trans p00
  have g00 := (ho.frozen _ _ (show w.heap.size < w1.heap.size by omega) (by omega)).trans f00
  have q01 := (ho.cell _ _ (show w.heap.size < w1.heap.size by omega) (by omega)).trans p01
  have g01 := (ho.frozen _ _ (show w.heap.size < w1.heap.size by omega) (by omega)).trans f01
  have q10 := (ho.cell _ _ (show w.heap.size + 1 < w1.heap.size by omega) (by omega)).trans p10
  have g10 := (ho.frozen _ _ (show w.heap.size + 1 < w1.heap.size by omega) (by omega)).trans f10
  have q11 := (ho.cell _ _ (show w.heap.size + 1 < w1.heap.size by omega) (by omega)).trans p11
  have g11 := (ho.frozen _ _ (show w.heap.size + 1 < w1.heap.size by omega) (by omega)).trans f11
  have hk : Keep w w2 := Only.keep ho hk1 (by omega)
  go_wp2
  refine bodyPost_ret (v := .tuple #[.agg #[.int .i64 a, .int .i64 b], .agg #[.int .i64 c, .int .i64 d]]) (by simp [results, Try.results28, go_sem, *]) rfl ⟨_, _, _, _, rfl, ha', hb', hc', hd', ?_⟩
  exact ((((hk.setCell (by omega) _).setCell (by omega) _).setCell (by omega) _).setCell (by omega) _)
set_option maxHeartbeats 1000000 in
theorem drawRangeJoin (a0 : Option Addr) (len cap : Nat) (w : World) (ha : CodeArg w a0 len cap) :
    Calls Try.prog 32 #[.slice a0 len cap] w fun e w' => ∃ a b c d : Int, e = .returned (.tuple #[.agg #[.int .i64 a, .int .i64 b], .agg #[.int .i64 c, .int .i64 d]]) ∧ Sm a ∧ Sm b ∧ (-300000 ≤ c ∧ c ≤ 300000) ∧ (-300000 ≤ d ∧ d ≤ 300000) ∧ Keep w w' := by
  have ha2 := fun (o0 o1 : Obj) => ha.below (((Keep.refl w).alloc o0).alloc o1).below
  go_enter Try.func32, Try.ntmps32
  go_wp2_with fail
  refine (open_any a0 len cap _ (ha2 _ _)).mono ?_
  rintro e w1 ⟨rfl, hr0, hb0, hs0⟩
  have hr : Rd w1 (w.heap.size + 2) 0 := by simpa using hr0
  have hk1 : Keep w w1 := (((Keep.refl w).alloc _).alloc _).trans hb0
  have hs : w.heap.size + 2 < w1.heap.size := by simp at hs0; omega
  have p00 : w1.cell? ⟨w.heap.size, 0, none⟩ = some (.int .i64 0) := Keep.cell hb0 (by go_simp)
  have f00 : w1.frozen? ⟨w.heap.size, 0, none⟩ = false := Keep.still (v := .int .i64 0) hb0 (by go_simp) (by go_simp)
  have p01 : w1.cell? ⟨w.heap.size, 1, none⟩ = some (.int .i64 0) := Keep.cell hb0 (by go_simp)
  have f01 : w1.frozen? ⟨w.heap.size, 1, none⟩ = false := Keep.still (v := .int .i64 0) hb0 (by go_simp) (by go_simp)
  have p10 : w1.cell? ⟨w.heap.size + 1, 0, none⟩ = some (.int .i64 0) := Keep.cell hb0 (by go_simp)
  have f10 : w1.frozen? ⟨w.heap.size + 1, 0, none⟩ = false := Keep.still (v := .int .i64 0) hb0 (by go_simp) (by go_simp)
  have p11 : w1.cell? ⟨w.heap.size + 1, 1, none⟩ = some (.int .i64 0) := Keep.cell hb0 (by go_simp)
  have f11 : w1.frozen? ⟨w.heap.size + 1, 1, none⟩ = false := Keep.still (v := .int .i64 0) hb0 (by go_simp) (by go_simp)
  clear hr0 hs0 hb0
  go_wp2_with fail
  refine (drawNear _ 0 _ (by omega) hr).mono ?_
  rintro e w2 ⟨a, b, c, d, q, rfl, ha', hb', hc', hd', hq, hr2, ho⟩
  have hz2 := ho.size
  have q00 := (ho.cell _ _ (show w.heap.size < w1.heap.size by omega) (by omega)).trans p00
  have g00 := (ho.frozen _ _ (show w.heap.size < w1.heap.size by omega) (by omega)).trans f00
  have q01 := (ho.cell _ _ (show w.heap.size < w1.heap.size by omega) (by omega)).trans p01
  have g01 := (ho.frozen _ _ (show w.heap.size < w1.heap.size by omega) (by omega)).trans f01
  have q10 := (ho.cell _ _ (show w.heap.size + 1 < w1.heap.size by omega) (by omega)).trans p10
  have g10 := (ho.frozen _ _ (show w.heap.size + 1 < w1.heap.size by omega) (by omega)).trans f10
  have q11 := (ho.cell _ _ (show w.heap.size + 1 < w1.heap.size by omega) (by omega)).trans p11
  have g11 := (ho.frozen _ _ (show w.heap.size + 1 < w1.heap.size by omega) (by omega)).trans f11
  have hk : Keep w w2 := Only.keep ho hk1 (by omega)
  go_wp2
  refine bodyPost_ret (v := .tuple #[.agg #[.int .i64 a, .int .i64 b], .agg #[.int .i64 c, .int .i64 d]]) (by simp [results, Try.results32, go_sem, *]) rfl ⟨_, _, _, _, rfl, ha', hb', hc', hd', ?_⟩
  exact ((((hk.setCell (by omega) _).setCell (by omega) _).setCell (by omega) _).setCell (by omega) _)
set_option maxHeartbeats 1000000 in
theorem drawRangeOfC (a0 : Option Addr) (len cap : Nat) (w : World) (ha : CodeArg w a0 len cap) :
    Calls Try.prog 21 #[.slice a0 len cap] w fun e w' => ∃ t : Int, e = .returned (.int .i64 t) ∧ (-3000 ≤ t ∧ t ≤ 3000) ∧ Keep w w' := by
  go_enter Try.func21, Try.ntmps21
  go_wp2_with fail
  refine (open_any a0 len cap _ ha).mono ?_
  rintro e w1 ⟨rfl, hr, hb, hs⟩
  go_wp2_with fail
  refine (drawTenths _ 0 _ (by omega) hr).mono ?_
  rintro e w2 ⟨t, rfl, ht, ho⟩
  have hk : Keep w w2 := Only.keep ho hb (Nat.le_refl _)
  go_wp2
  go_ret
  exact ⟨_, rfl, ht, hk⟩
set_option maxHeartbeats 1000000 in
theorem drawRangeOfF (a0 : Option Addr) (len cap : Nat) (w : World) (ha : CodeArg w a0 len cap) :
    Calls Try.prog 25 #[.slice a0 len cap] w fun e w' => ∃ t : Int, e = .returned (.int .i64 t) ∧ (-3000 ≤ t ∧ t ≤ 3000) ∧ Keep w w' := by
  go_enter Try.func25, Try.ntmps25
  go_wp2_with fail
  refine (open_any a0 len cap _ ha).mono ?_
  rintro e w1 ⟨rfl, hr, hb, hs⟩
  go_wp2_with fail
  refine (drawTenths _ 0 _ (by omega) hr).mono ?_
  rintro e w2 ⟨t, rfl, ht, ho⟩
  have hk : Keep w w2 := Only.keep ho hb (Nat.le_refl _)
  go_wp2
  go_ret
  exact ⟨_, rfl, ht, hk⟩
end Go.Proofs.Ytalkfggkpjakiaa
