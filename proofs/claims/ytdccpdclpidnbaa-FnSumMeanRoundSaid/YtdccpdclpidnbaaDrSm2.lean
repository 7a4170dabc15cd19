/- A sum whose mean is wanted is drawn. -/
import Derived.Test.YtdccpdclpidnbaaDrRo
namespace Go.Proofs.Ytdccpdclpidnbaa
open Go.RowKit
set_option linter.unusedVariables false

set_option maxHeartbeats 4000000 in
theorem drawSumMean (a0 : Option Addr) (len cap : Nat) (w : World) (ha : CodeArg w a0 len cap) :
    Calls Try.prog 48 #[.slice a0 len cap] w fun e w' => ∃ n d : Int, e = .returned (.agg #[.int .i64 n, .int .i64 d]) ∧ HSm n ∧ HSm d ∧ Keep w w' := by
  have ha1 := fun o => ha.below (Below.alloc (Below.refl w.heap.size w) (Nat.le_refl _) o)
  have c0 : (w.alloc (.cells #[.int .i64 0, .int .i64 0] 46)).cell? ⟨w.heap.size, 0, none⟩ = some (.int .i64 0) := World.cell?_alloc_new w _ _ 0
  have c1 : (w.alloc (.cells #[.int .i64 0, .int .i64 0] 46)).cell? ⟨w.heap.size, 1, none⟩ = some (.int .i64 0) := World.cell?_alloc_new w _ _ 1
  have f0 : (w.alloc (.cells #[.int .i64 0, .int .i64 0] 46)).frozen? ⟨w.heap.size, 0, none⟩ = false := World.frozen?_alloc_at _ _ _ _ rfl
  have f1 : (w.alloc (.cells #[.int .i64 0, .int .i64 0] 46)).frozen? ⟨w.heap.size, 1, none⟩ = false := World.frozen?_alloc_at _ _ _ _ rfl
  have hZ : (w.alloc (.cells #[.int .i64 0, .int .i64 0] 46)).heap.size = w.heap.size + 1 := by simp
  go_enter Try.func48, Try.ntmps48
  go_wp2_with fail
  refine (open_any a0 len cap _ (ha1 _)).mono ?_
  rintro e w1 ⟨rfl, hr1, hb, hs⟩
  have hb : Keep (w.alloc (.cells #[.int .i64 0, .int .i64 0] 46)) w1 := hb
  rw [hZ] at hr1 ⊢
  go_wp2_with fail
  refine (pick_any _ 0 12 _ (by omega) (by omega) hr1).mono ?_
  rintro e w2 ⟨z, rfl, z0, z1, hr2, ho2, hs2⟩
  have k2 : Keep (w.alloc (.cells #[.int .i64 0, .int .i64 0] 46)) w2 := Only.keep ho2 hb (Nat.le_of_eq hZ)
  rcases (show z = 0 ∨ (z == 0) = false by by_cases h : z = 0 <;> simp [h]) with rfl | hz
  · clear z0 z1
    have hB4 := hr2.lt
    have h4B : w2.heap.size ≠ w.heap.size + 1 := by omega
    have h5B : w2.heap.size + 1 ≠ w.heap.size + 1 := by omega
    go_wp2_with fail
    go_region_with (first
      | (go_at_call 54; (with_reducible refine (pick_any _ 1 3 _ (by omega) (by omega) (by repeat' (first | with_reducible assumption | with_reducible refine Rd.drew ?_ | with_reducible refine Rd.alloc ?_ _))).mono ?_); rintro e w9 ⟨i, rfl, i0, i1, hr9, ho9, hs9⟩; have hr9' : Rd w9 (w.heap.size + 1) 2 := hr9; clear hr9; obtain ⟨j, j0, j1, cj, cj2⟩ := listSm [1000000, 5, -999999] i i0 i1 (by simp); simp only [List.map_cons, List.map_nil] at cj cj2; (first | (obtain ⟨⟨q1, q2⟩, l1, l2⟩ := oc2 ho9 hB4) | (obtain ⟨q1, l1⟩ := oc1 ho9 hB4) | skip))
      | (go_at_call 54; (with_reducible refine (pick_any _ 2 4 _ (by omega) (by omega) (by repeat' (first | with_reducible assumption | with_reducible refine Rd.drew ?_ | with_reducible refine Rd.alloc ?_ _))).mono ?_); rintro e w10 ⟨t, rfl, t0, t1, hr10, ho10, hs10⟩; obtain ⟨u, u0, u1, cu, cu2⟩ := listSm [0, 1, -1, 1000] t t0 t1 (by simp); simp only [List.map_cons, List.map_nil] at cu cu2; (first | (have q3 := fun o => ho10.cell w2.heap.size o (Nat.lt_of_lt_of_le l1 (by simp)) h4B) | skip); (first | (have q4 := fun o => ho10.cell (w2.heap.size + 1) o (Nat.lt_of_lt_of_le l2 (by simp)) h5B) | skip); (first | (have l7 := lt_out l1 ho10 (by simp)) | skip); (first | (have l8 := lt_out l2 ho10 (by simp)) | skip); (first | (obtain ⟨⟨q5, q6⟩, l5, l6⟩ := od2 ho10 hr9'.lt) | (obtain ⟨q5, l5⟩ := od1 ho10 hr9'.lt) | skip); have kX : Keep (w.alloc (.cells #[.int .i64 0, .int .i64 0] 46)) w10 := (by repeat' (first | with_reducible assumption | with_reducible refine Keep.drew ?_ | with_reducible refine Keep.alloc ?_ _ | with_reducible refine Only.keep ho10 ?_ (Nat.le_of_eq (by simp)) | with_reducible refine Only.keep ho9 ?_ (Nat.le_of_eq (by simp)))); have n0 := kX.cell c0; have n1 := kX.cell c1; have m0 := kX.still c0 f0; have m1 := kX.still c1 f1; have n0a := (kX.alloc (.cells #[.int .i64 1000000, .int .i64 5, .int .i64 (-999999)] 3)).cell c0; have n1a := (kX.alloc (.cells #[.int .i64 1000000, .int .i64 5, .int .i64 (-999999)] 3)).cell c1; have m0a := (kX.alloc (.cells #[.int .i64 1000000, .int .i64 5, .int .i64 (-999999)] 3)).still c0 f0; have m1a := (kX.alloc (.cells #[.int .i64 1000000, .int .i64 5, .int .i64 (-999999)] 3)).still c1 f1; have n0b := (kX.alloc (.cells #[.int .i64 0, .int .i64 1, .int .i64 (-1), .int .i64 1000] 3)).cell c0; have n1b := (kX.alloc (.cells #[.int .i64 0, .int .i64 1, .int .i64 (-1), .int .i64 1000] 3)).cell c1; have m0b := (kX.alloc (.cells #[.int .i64 0, .int .i64 1, .int .i64 (-1), .int .i64 1000] 3)).still c0 f0; have m1b := (kX.alloc (.cells #[.int .i64 0, .int .i64 1, .int .i64 (-1), .int .i64 1000] 3)).still c1 f1; have n0c := ((kX.alloc (.cells #[.int .i64 1000000, .int .i64 5, .int .i64 (-999999)] 3)).alloc (.cells #[.int .i64 0, .int .i64 1, .int .i64 (-1), .int .i64 1000] 3)).cell c0; have n1c := ((kX.alloc (.cells #[.int .i64 1000000, .int .i64 5, .int .i64 (-999999)] 3)).alloc (.cells #[.int .i64 0, .int .i64 1, .int .i64 (-1), .int .i64 1000] 3)).cell c1; have m0c := ((kX.alloc (.cells #[.int .i64 1000000, .int .i64 5, .int .i64 (-999999)] 3)).alloc (.cells #[.int .i64 0, .int .i64 1, .int .i64 (-1), .int .i64 1000] 3)).still c0 f0; have m1c := ((kX.alloc (.cells #[.int .i64 1000000, .int .i64 5, .int .i64 (-999999)] 3)).alloc (.cells #[.int .i64 0, .int .i64 1, .int .i64 (-1), .int .i64 1000] 3)).still c1 f1; have n0d := ((kX.alloc (.cells #[.int .i64 0, .int .i64 1, .int .i64 (-1), .int .i64 1000] 3)).alloc (.cells #[.int .i64 1000000, .int .i64 5, .int .i64 (-999999)] 3)).cell c0; have n1d := ((kX.alloc (.cells #[.int .i64 0, .int .i64 1, .int .i64 (-1), .int .i64 1000] 3)).alloc (.cells #[.int .i64 1000000, .int .i64 5, .int .i64 (-999999)] 3)).cell c1; have m0d := ((kX.alloc (.cells #[.int .i64 0, .int .i64 1, .int .i64 (-1), .int .i64 1000] 3)).alloc (.cells #[.int .i64 1000000, .int .i64 5, .int .i64 (-999999)] 3)).still c0 f0; have m1d := ((kX.alloc (.cells #[.int .i64 0, .int .i64 1, .int .i64 (-1), .int .i64 1000] 3)).alloc (.cells #[.int .i64 1000000, .int .i64 5, .int .i64 (-999999)] 3)).still c1 f1))
    all_goals
      go_wp2
      refine bodyPost_ret (v := .agg #[.int .i64 j, .int .i64 u]) (by simp [results, Try.results48, go_sem, *]) rfl ⟨_, _, rfl, ⟨by omega, by omega⟩, ⟨by omega, by omega⟩, ?_⟩
      show Keep w _
      have kW : Keep w w10 := ((Keep.refl w).alloc _).trans kX
      repeat' (first | exact kW | refine Keep.setCell ?_ (Nat.le_refl _) _ | refine Keep.alloc ?_ _ | refine Keep.drew ?_)
  · have kZ : Keep w w2 := ((Keep.refl w).alloc _).trans k2
    have n0 := k2.cell c0
    have n1 := k2.cell c1
    have m0 := k2.still c0 f0
    have m1 := k2.still c1 f1
    clear c0 c1 f0 f1
    go_wp2_with fail
    refine (pick_any _ 1 256 _ (by omega) (by omega) hr2).mono ?_
    rintro e w3 ⟨x, rfl, x0, x1, hr3, ho3, hs3⟩
    go_wp2_with fail
    refine (pick_any _ 2 12 _ (by omega) (by omega) hr3).mono ?_
    rintro e w4 ⟨y, rfl, y0, y1, hr4, ho4, hs4⟩
    have k24 := ho3.trans ho4
    have hlt : w.heap.size < w2.heap.size := by have := k2.size; omega
    have N0 := (k24.cell w.heap.size 0 hlt (by omega)).trans n0
    have N1 := (k24.cell w.heap.size 1 hlt (by omega)).trans n1
    have M0 := (k24.frozen w.heap.size 0 hlt (by omega)).trans m0
    have M1 := (k24.frozen w.heap.size 1 hlt (by omega)).trans m1
    have hk : Keep w w4 := Only.keep k24 kZ (by omega)
    go_wp2
    refine bodyPost_ret (v := .agg #[.int .i64 (x * 4 - 500), .int .i64 (1 + y)]) (by simp [results, Try.results48, go_sem, *]) rfl ⟨_, _, rfl, ⟨by omega, by omega⟩, ⟨by omega, by omega⟩, (hk.setCell (Nat.le_refl _) _).setCell (Nat.le_refl _) _⟩
end Go.Proofs.Ytdccpdclpidnbaa
