/- A report of the law's own type turned into one of the program's. -/
import Derived.Test.YtamdfdbhkmgflaaRows
import Derived.WalkKit
namespace Go.Proofs.Ytamdfdbhkmgflaa
open Go.RowKit
set_option linter.unusedVariables false

theorem bcell {W w1 : World} {B : Nat} (hb : Below B W w1) : (∀ b o, b < B → w1.cell? ⟨b, o, none⟩ = W.cell? ⟨b, o, none⟩) ∧ (∀ b o, b < B → w1.frozen? ⟨b, o, none⟩ = W.frozen? ⟨b, o, none⟩) :=
  ⟨fun b o h => hb.cell (p := ⟨b, o, none⟩) h, fun b o h => hb.frozen (p := ⟨b, o, none⟩) h⟩

/-- A cell of a new block, behind a call that left it alone. -/
theorem newCell {w w' : World} {cs : Array Value} {T B : Nat} (hb : Below B (w.alloc (.cells cs T)) w') (hB : w.heap.size < B) (i : Nat) (v : Value) (h : cs[i]? = some v) : w'.cell? ⟨w.heap.size, i, none⟩ = some v := by
  rw [hb.cell (p := ⟨w.heap.size, i, none⟩) hB]
  exact (World.cell?_alloc_new w cs T i).trans h

set_option maxHeartbeats 400000 in
theorem toRep (s d k v : Int) (w : World) :
    Calls Try.prog 34 #[.agg #[.int .i64 s, .int .i64 d, .int .i64 k, .int .i64 v]] w fun e w' => e = .returned (.agg #[.int .i64 s, .int .i64 d, .int .i64 k, .int .i64 v]) ∧ Below w.heap.size w w' := by
  go_enter Try.func34, Try.ntmps34
  go_wp2
  refine bodyPost_ret (v := .agg #[.int .i64 s, .int .i64 d, .int .i64 k, .int .i64 v]) (by simp [results, Try.results34, go_sem]) rfl ⟨rfl, ?_⟩
  repeat (first | exact Below.refl _ _ | refine Below.setCell ?_ (by simp <;> omega) _ | refine Below.alloc ?_ (by simp <;> omega) _)
end Go.Proofs.Ytamdfdbhkmgflaa
