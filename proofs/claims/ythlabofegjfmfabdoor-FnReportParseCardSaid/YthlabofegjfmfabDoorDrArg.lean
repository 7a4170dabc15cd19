/- The laws' own drawing of a report out of their code. -/
import Derived.Test.YthlabofegjfmfabDoorDrRep
namespace Go.Proofs.YthlabofegjfmfabDoor
open Go.RowKit
set_option linter.unusedVariables false

/-- A drawn report is small: no field is beyond 20000. -/
def Small (x : Int) : Prop := -20000 ≤ x ∧ x ≤ 20000

theorem newFrozen {w w' : World} {cs : Array Value} {T B : Nat} (hb : Below B (w.alloc (.cells cs T)) w') (hB : w.heap.size < B) (i : Nat) : w'.frozen? ⟨w.heap.size, i, none⟩ = false := by
  rw [hb.frozen (p := ⟨w.heap.size, i, none⟩) hB]
  exact World.frozen?_alloc_at _ _ _ _ rfl

set_option maxHeartbeats 1000000 in
theorem drawReportText (a : Option Addr) (len cap : Nat) (w : World) (ha : CodeArg w a len cap) :
    Calls Tryd.prog 7 #[.slice a len cap] w fun e w' => ∃ s d k v : Int, e = .returned (.agg #[.int .i64 s, .int .i64 d, .int .i64 k, .int .i64 v]) ∧
      Small s ∧ Small d ∧ Small k ∧ Small v ∧ Below w.heap.size w w' := by
  have ha1 := fun o => ha.below ((Below.refl w.heap.size w).alloc (Nat.le_refl _) o)
  go_enter Tryd.func7, Tryd.ntmps7
  go_wp2_with fail
  refine (open_any a len cap _ (ha1 _)).mono ?_
  rintro e w1 ⟨rfl, hr0, hb0, hs0⟩
  have hr : Rd w1 (w.heap.size + 1) 0 := by simpa using hr0
  have hs : w.heap.size + 1 < w1.heap.size := by simpa using hs0
  have hb : Below (w.heap.size + 1) _ w1 := hb0.mono (by simp)
  clear hr0 hs0 hb0
  go_wp2_with fail
  refine (drawReport _ 0 _ (by omega) hr).mono ?_
  rintro e w2 ⟨s, d, k, v, q, rfl, hs', hd, hk, hv, _, hr2, ho⟩
  have hb2 := hb.trans (ho.below (Nat.le_refl _) (by omega))
  have c0 := newCell hb2 (by simp) 0 _ rfl
  have c1 := newCell hb2 (by simp) 1 _ rfl
  have c2 := newCell hb2 (by simp) 2 _ rfl
  have c3 := newCell hb2 (by simp) 3 _ rfl
  have f0 := newFrozen hb2 (by simp) 0
  have f1 := newFrozen hb2 (by simp) 1
  have f2 := newFrozen hb2 (by simp) 2
  have f3 := newFrozen hb2 (by simp) 3
  go_wp2
  refine bodyPost_ret (v := .agg #[.int .i64 s, .int .i64 d, .int .i64 k, .int .i64 v]) (by simp [results, Tryd.results7, go_sem, *]) rfl ⟨_, _, _, _, rfl, hs', hd, hk, hv, ?_⟩
  have hfin := ((Below.refl w.heap.size w).alloc (Nat.le_refl _) _).trans (hb2.mono (by simp))
  exact (((hfin.setCell (Nat.le_refl _) _).setCell (Nat.le_refl _) _).setCell (Nat.le_refl _) _).setCell (Nat.le_refl _) _
end Go.Proofs.YthlabofegjfmfabDoor
