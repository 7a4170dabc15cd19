/- The laws' own copies of slices of integers, and two slices held against each other. -/
import Derived.Test.YtnemdnidlbekbaaGreatDoorLs
import Derived.Test.YtnemdnidlbekbaaGreatDoorRv
import Derived.LoopTactic
import Derived.Deep.QuietTactic
import Derived.BigQuiet
import Derived.Deep.OwnRows
import Derived.Laws.MakeOwn
namespace Go.Proofs.YtnemdnidlbekbaaGreatDoor
open Go.RowKit
set_option linter.unusedVariables false

/-- Block g holds the integers ys from its beginning on, and may be written. -/
def Wr (w : World) (g : Nat) (ys : List Int) : Prop := ∀ j, j < ys.length → w.cell? ⟨g, j, none⟩ = some (.int .i64 (ys.getD j 0)) ∧ w.frozen? ⟨g, j, none⟩ = false
theorem Wr.keep {w w' : World} {g : Nat} {ys : List Int} (h : Wr w g ys) (k : Keep w w') : Wr w' g ys :=
  fun j hj => ⟨k.cell (h j hj).1, k.still (h j hj).1 (h j hj).2⟩
theorem Wr.ls {w : World} {g : Nat} {ys : List Int} (h : Wr w g ys) : Ls w (some ⟨g, 0, none⟩) ys := by
  by_cases h0 : ys = []
  · exact .inl h0
  · have hp : 0 < ys.length := List.length_pos_iff.2 h0
    exact .inr ⟨g, 0, rfl, World.block_lt_of_cell? w _ (h 0 hp).1, fun i hi => by rw [Nat.zero_add]; exact (h i hi).1⟩
theorem Wr.set {w : World} {g : Nat} {ys : List Int} (h : Wr w g ys) {k : Nat} (hk : k < ys.length) (v : Int) : Wr (w.setCell ⟨g, k, none⟩ (.int .i64 v)) g (ys.set k v) := by
  intro j hj
  rw [List.length_set] at hj
  rw [World.frozen?_setCell]
  refine ⟨?_, (h j hj).2⟩
  by_cases e : j = k
  · subst e
    rw [World.cell?_setCell_same _ _ _ (h j hj).1]
    simp [List.getD_eq_getElem?_getD, hk]
  · rw [World.cell?_setCell_other _ _ _ _ (by intro h'; simp only [Addr.mk.injEq] at h'; omega), (h j hj).1]
    have : k ≠ j := fun h => e h.symm
    simp [List.getD_eq_getElem?_getD, this]
theorem part_set (zs : List Int) (k : Nat) (hk : k < zs.length) : (zs.take k ++ List.replicate (zs.length - k) 0).set k (zs.getD k 0) = zs.take (k + 1) ++ List.replicate (zs.length - (k + 1)) 0 := by
  have e : List.replicate (zs.length - k) (0 : Int) = 0 :: List.replicate (zs.length - (k + 1)) 0 := by
    rw [← List.replicate_succ]; congr 1; omega
  have hg : zs.getD k 0 = zs[k] := by simp [List.getD_eq_getElem?_getD, hk]
  have hl : (zs.take k).length = k := by rw [List.length_take]; omega
  rw [e, List.set_append_right _ _ (by omega), hl, Nat.sub_self, List.set_cons_zero, hg, List.take_succ_eq_append_getElem hk, List.append_assoc]
  rfl
theorem made_at (n j : Nat) (hj : j < n) : (madeCells #[Value.int .i64 0] n)[j]? = some (.int .i64 0) := by
  rw [← Array.getElem?_toList, toList_madeCells_one]; simp [hj]

end Go.Proofs.YtnemdnidlbekbaaGreatDoor
