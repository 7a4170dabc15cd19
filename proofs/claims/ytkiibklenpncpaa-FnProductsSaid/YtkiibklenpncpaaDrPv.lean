/- How products are drawn. -/
import Derived.Test.YtkiibklenpncpaaDrSs
import Derived.Test.YtkiibklenpncpaaDrRep
namespace Go.Proofs.Ytkiibklenpncpaa
open Go.RowKit
set_option linter.unusedVariables false

set_option maxRecDepth 100000 in
set_option maxHeartbeats 2000000 in
theorem drawProduct (B p : Nat) (w : World) (hp : p ≤ 4000) (hr : Rd w B p) :
    Calls Try.prog 97 #[.pointer (some ⟨B, 0, none⟩)] w fun e w' => ∃ (s t f n g : Int) (q : Nat), e = .returned (.agg #[.int .i64 s, .int .i64 t, .int .i64 f, .int .i64 n, .int .i64 g]) ∧ (-20000 ≤ f ∧ f ≤ 20000) ∧ (-20000 ≤ n ∧ n ≤ 20000) ∧ q ≤ p + 10 ∧ Rd w' B q ∧ Only B w w' := by
  have hBR := hr.lt
  go_enter Try.func97, Try.ntmps97
  go_wp2_with fail
  refine (drawDays B p _ (by omega) (hr.alloc _)).mono ?_
  rintro e w1 ⟨s, t, f, n, q1, rfl, hf, hn, hq1, hr1, ho1⟩
  go_wp2_with fail
  refine (pick_any B q1 14 _ (by omega) (by omega) hr1).mono ?_
  rintro e w2 ⟨x, rfl, x0, x1, hr2, ho2, _⟩
  go_wp2_with fail
  refine (pick_any B (q1 + 1) 16 _ (by omega) (by omega) hr2).mono ?_
  rintro e w3 ⟨y, rfl, y0, y1, hr3, ho3, _⟩
  have ho := (ho1.trans ho2).trans ho3
  have c0 := newCellO ho hBR 0 _ rfl
  have c1 := newCellO ho hBR 1 _ rfl
  have c2 := newCellO ho hBR 2 _ rfl
  have c3 := newCellO ho hBR 3 _ rfl
  have c4 := newCellO ho hBR 4 _ rfl
  have f0 := newFrozenO ho hBR 0
  have f1 := newFrozenO ho hBR 1
  have f2 := newFrozenO ho hBR 2
  have f3 := newFrozenO ho hBR 3
  have f4 := newFrozenO ho hBR 4
  have hd : Int.tdiv y 15 = y / 15 := Int.tdiv_eq_ediv_of_nonneg y0
  have hd0 : 0 ≤ y / 15 ∧ y / 15 ≤ 1 := by omega
  have hw : IntKind.i64.wrap (y / 15) = y / 15 := IntWalk.i64_in _ ⟨by omega, by omega⟩
  have hfin := ((Only.refl B w).alloc _).trans ho
  generalize y / 15 = z at *
  go_wp2
  refine bodyPost_ret (v := .agg #[.int .i64 s, .int .i64 t, .int .i64 f, .int .i64 n, .int .i64 (x - z)]) (by simp [results, Try.results97, go_sem, *]) rfl ⟨_, _, _, _, _, q1 + 2, rfl, hf, hn, by omega, ?_, ?_⟩
  · exact (Rd.setCell (Rd.setCell (Rd.setCell (Rd.setCell (Rd.setCell hr3 (by omega) _) (by omega) _) (by omega) _) (by omega) _) (by omega) _)
  · exact (Only.setCell (Only.setCell (Only.setCell (Only.setCell (Only.setCell hfin (by omega) _) (by omega) _) (by omega) _) (by omega) _) (by omega) _)
end Go.Proofs.Ytkiibklenpncpaa
