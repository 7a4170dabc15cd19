/- The laws' own drawing of ranges and tenths out of their code. -/
import Derived.Test.YtalkfggkpjakiabDrRg
namespace Go.Proofs.Ytalkfggkpjakiab
open Go.RowKit
set_option linter.unusedVariables false

set_option maxHeartbeats 1000000 in
theorem drawRangeValid (a0 : Option Addr) (len cap : Nat) (w : World) (ha : CodeArg w a0 len cap) :
    Calls Try.prog 19 #[.slice a0 len cap] w fun e w' => ∃ a b : Int, e = .returned (.agg #[.int .i64 a, .int .i64 b]) ∧ Sm a ∧ Sm b ∧ Keep w w' := by
  have ha1 := fun (o0 : Obj) => ha.below ((Keep.refl w).alloc o0).below
  go_enter Try.func19, Try.ntmps19
  go_wp2_with fail
  refine (open_any a0 len cap _ (ha1 _)).mono ?_
  rintro e w1 ⟨rfl, hr0, hb0, hs0⟩
  have hr : Rd w1 (w.heap.size + 1) 0 := by simpa using hr0
  have hk1 : Keep w w1 := ((Keep.refl w).alloc _).trans hb0
  have hs : w.heap.size + 1 < w1.heap.size := by simp at hs0; omega
  have p00 : w1.cell? ⟨w.heap.size, 0, none⟩ = some (.int .i64 0) := Keep.cell hb0 (by go_simp)
  have f00 : w1.frozen? ⟨w.heap.size, 0, none⟩ = false := Keep.still (v := .int .i64 0) hb0 (by go_simp) (by go_simp)
  have p01 : w1.cell? ⟨w.heap.size, 1, none⟩ = some (.int .i64 0) := Keep.cell hb0 (by go_simp)
  have f01 : w1.frozen? ⟨w.heap.size, 1, none⟩ = false := Keep.still (v := .int .i64 0) hb0 (by go_simp) (by go_simp)
  clear hr0 hs0 hb0
  go_wp2_with fail
  refine (drawRg _ 0 _ (by omega) hr).mono ?_
  rintro e w2 ⟨a, b, q, rfl, ha', hb', hq, hr2, ho⟩
  have hz2 := ho.size
  have q00 := (ho.cell _ _ (show w.heap.size < w1.heap.size by omega) (by omega)).trans p00
  have g00 := (ho.frozen _ _ (show w.heap.size < w1.heap.size by omega) (by omega)).trans f00
  have q01 := (ho.cell _ _ (show w.heap.size < w1.heap.size by omega) (by omega)).trans p01
  have g01 := (ho.frozen _ _ (show w.heap.size < w1.heap.size by omega) (by omega)).trans f01
  have hk : Keep w w2 := Only.keep ho hk1 (by omega)
  go_wp2
  refine bodyPost_ret (v := .agg #[.int .i64 a, .int .i64 b]) (by simp [results, Try.results19, go_sem, *]) rfl ⟨_, _, rfl, ha', hb', ?_⟩
  exact ((hk.setCell (by omega) _).setCell (by omega) _)
set_option maxHeartbeats 1000000 in
theorem drawRangeTenths (a0 : Option Addr) (len cap : Nat) (w : World) (ha : CodeArg w a0 len cap) :
    Calls Try.prog 14 #[.slice a0 len cap] w fun e w' => ∃ a b : Int, e = .returned (.agg #[.int .i64 a, .int .i64 b]) ∧ Sm a ∧ Sm b ∧ Keep w w' := by
  have ha1 := fun (o0 : Obj) => ha.below ((Keep.refl w).alloc o0).below
  go_enter Try.func14, Try.ntmps14
  go_wp2_with fail
  refine (open_any a0 len cap _ (ha1 _)).mono ?_
  rintro e w1 ⟨rfl, hr0, hb0, hs0⟩
  have hr : Rd w1 (w.heap.size + 1) 0 := by simpa using hr0
  have hk1 : Keep w w1 := ((Keep.refl w).alloc _).trans hb0
  have hs : w.heap.size + 1 < w1.heap.size := by simp at hs0; omega
  have p00 : w1.cell? ⟨w.heap.size, 0, none⟩ = some (.int .i64 0) := Keep.cell hb0 (by go_simp)
  have f00 : w1.frozen? ⟨w.heap.size, 0, none⟩ = false := Keep.still (v := .int .i64 0) hb0 (by go_simp) (by go_simp)
  have p01 : w1.cell? ⟨w.heap.size, 1, none⟩ = some (.int .i64 0) := Keep.cell hb0 (by go_simp)
  have f01 : w1.frozen? ⟨w.heap.size, 1, none⟩ = false := Keep.still (v := .int .i64 0) hb0 (by go_simp) (by go_simp)
  clear hr0 hs0 hb0
  go_wp2_with fail
  refine (drawRg _ 0 _ (by omega) hr).mono ?_
  rintro e w2 ⟨a, b, q, rfl, ha', hb', hq, hr2, ho⟩
  have hz2 := ho.size
  have q00 := (ho.cell _ _ (show w.heap.size < w1.heap.size by omega) (by omega)).trans p00
  have g00 := (ho.frozen _ _ (show w.heap.size < w1.heap.size by omega) (by omega)).trans f00
  have q01 := (ho.cell _ _ (show w.heap.size < w1.heap.size by omega) (by omega)).trans p01
  have g01 := (ho.frozen _ _ (show w.heap.size < w1.heap.size by omega) (by omega)).trans f01
  have hk : Keep w w2 := Only.keep ho hk1 (by omega)
  go_wp2
  refine bodyPost_ret (v := .agg #[.int .i64 a, .int .i64 b]) (by simp [results, Try.results14, go_sem, *]) rfl ⟨_, _, rfl, ha', hb', ?_⟩
  exact ((hk.setCell (by omega) _).setCell (by omega) _)
end Go.Proofs.Ytalkfggkpjakiab
