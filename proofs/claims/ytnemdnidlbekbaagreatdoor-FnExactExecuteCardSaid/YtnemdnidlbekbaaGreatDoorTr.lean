/- The laws' own copies of slices of reports, and two slices held against each other. -/
import Derived.Test.YtnemdnidlbekbaaGreatDoorRs
import Derived.Test.YtnemdnidlbekbaaGreatDoorRep
import Derived.Test.YtnemdnidlbekbaaGreatDoorTi
import Derived.LoopTactic
import Derived.Deep.RegionHeld3
import Derived.Laws.MakeOwn
import Derived.Outline
namespace Go.Proofs.YtnemdnidlbekbaaGreatDoor
open Go.RowKit
set_option linter.unusedVariables false

/-- Four cells that may be written. -/
structure Fr4 (w : World) (b o : Nat) : Prop where
  f0 : w.frozen? ⟨b, o, none⟩ = false
  f1 : w.frozen? ⟨b, o + 1, none⟩ = false
  f2 : w.frozen? ⟨b, o + 2, none⟩ = false
  f3 : w.frozen? ⟨b, o + 3, none⟩ = false
/-- Block g holds the reports ys from its beginning on, and may be written. -/
def WrR (w : World) (g : Nat) (ys : List R4) : Prop := ∀ j, j < ys.length → At4 w g (j * 4) (ys.getD j r0) ∧ Fr4 w g (j * 4)
theorem WrR.keep {w w' : World} {g : Nat} {ys : List R4} (h : WrR w g ys) (k : Keep w w') : WrR w' g ys :=
  fun j hj => ⟨(h j hj).1.keep k, ⟨k.still (h j hj).1.s (h j hj).2.f0, k.still (h j hj).1.d (h j hj).2.f1, k.still (h j hj).1.k (h j hj).2.f2, k.still (h j hj).1.v (h j hj).2.f3⟩⟩
theorem WrR.rs {w : World} {g : Nat} {ys : List R4} (h : WrR w g ys) : Rs w (some ⟨g, 0, none⟩) ys := by
  by_cases h0 : ys = []
  · exact .inl h0
  · have hp : 0 < ys.length := List.length_pos_iff.2 h0
    exact .inr ⟨g, 0, rfl, World.block_lt_of_cell? w _ (h 0 hp).1.s, fun i hi => by rw [Nat.zero_add]; exact (h i hi).1⟩
/-- A report stored in four cells. -/
def put4 (w : World) (b o : Nat) (r : R4) : World := (((w.setCell ⟨b, o, none⟩ (.int .i64 (rS r))).setCell ⟨b, o + 1, none⟩ (.int .i64 (rD r))).setCell ⟨b, o + 2, none⟩ (.int .i64 (rK r))).setCell ⟨b, o + 3, none⟩ (.int .i64 (rV r))
theorem put4_far {w : World} {b o : Nat} {r : R4} {b' i : Nat} (h : b' ≠ b ∨ i < o ∨ o + 3 < i) : (put4 w b o r).cell? ⟨b', i, none⟩ = w.cell? ⟨b', i, none⟩ := by
  unfold put4
  rw [World.cell?_setCell_other _ _ _ _ (by intro e; simp only [Addr.mk.injEq] at e; omega), World.cell?_setCell_other _ _ _ _ (by intro e; simp only [Addr.mk.injEq] at e; omega),
    World.cell?_setCell_other _ _ _ _ (by intro e; simp only [Addr.mk.injEq] at e; omega), World.cell?_setCell_other _ _ _ _ (by intro e; simp only [Addr.mk.injEq] at e; omega)]
theorem put4_at {w : World} {b o : Nat} {r q : R4} (h : At4 w b o q) : At4 (put4 w b o r) b o r := by
  unfold put4
  refine ⟨?_, ?_, ?_, ?_⟩
  · rw [World.cell?_setCell_other _ _ _ _ (by simp), World.cell?_setCell_other _ _ _ _ (by simp), World.cell?_setCell_other _ _ _ _ (by simp)]
    exact World.cell?_setCell_same _ _ _ h.s
  · rw [World.cell?_setCell_other _ _ _ _ (by simp), World.cell?_setCell_other _ _ _ _ (by simp)]
    exact World.cell?_setCell_same _ _ _ ((World.cell?_setCell_other _ _ _ _ (by simp)).trans h.d)
  · rw [World.cell?_setCell_other _ _ _ _ (by simp)]
    exact World.cell?_setCell_same _ _ _ ((World.cell?_setCell_other _ _ _ _ (by simp)).trans ((World.cell?_setCell_other _ _ _ _ (by simp)).trans h.k))
  · exact World.cell?_setCell_same _ _ _ ((World.cell?_setCell_other _ _ _ _ (by simp)).trans ((World.cell?_setCell_other _ _ _ _ (by simp)).trans ((World.cell?_setCell_other _ _ _ _ (by simp)).trans h.v)))
theorem put4_frozen (w : World) (b o : Nat) (r : R4) (a : Addr) : (put4 w b o r).frozen? a = w.frozen? a := by
  unfold put4; rw [World.frozen?_setCell, World.frozen?_setCell, World.frozen?_setCell, World.frozen?_setCell]
theorem put4_keep {a w : World} (h : Keep a w) {b o : Nat} {r : R4} (hb : a.heap.size ≤ b) : Keep a (put4 w b o r) :=
  (((h.setCell hb _).setCell hb _).setCell hb _).setCell hb _
theorem WrR.set {w : World} {g : Nat} {ys : List R4} (h : WrR w g ys) {k : Nat} (hk : k < ys.length) (r : R4) : WrR (put4 w g (k * 4) r) g (ys.set k r) := by
  intro j hj
  rw [List.length_set] at hj
  obtain ⟨h1, h2⟩ := h j hj
  refine ⟨?_, ⟨?_, ?_, ?_, ?_⟩⟩
  · by_cases e : j = k
    · subst e
      have e2 : (ys.set j r).getD j r0 = r := by simp [List.getD_eq_getElem?_getD, hj]
      rw [e2]; exact put4_at h1
    · have e2 : (ys.set k r).getD j r0 = ys.getD j r0 := by
        have : k ≠ j := fun h => e h.symm
        simp [List.getD_eq_getElem?_getD, this]
      rw [e2]
      exact ⟨(put4_far (by omega)).trans h1.s, (put4_far (by omega)).trans h1.d, (put4_far (by omega)).trans h1.k, (put4_far (by omega)).trans h1.v⟩
  all_goals rw [put4_frozen]
  · exact h2.f0
  · exact h2.f1
  · exact h2.f2
  · exact h2.f3
theorem rpart_set (rs : List R4) (k : Nat) (hk : k < rs.length) : (rs.take k ++ List.replicate (rs.length - k) r0).set k (rs.getD k r0) = rs.take (k + 1) ++ List.replicate (rs.length - (k + 1)) r0 := by
  have e : List.replicate (rs.length - k) r0 = r0 :: List.replicate (rs.length - (k + 1)) r0 := by
    rw [← List.replicate_succ]; congr 1; omega
  have hg : rs.getD k r0 = rs[k] := by simp [List.getD_eq_getElem?_getD, hk]
  have hl : (rs.take k).length = k := by rw [List.length_take]; omega
  rw [e, List.set_append_right _ _ (by omega), hl, Nat.sub_self, List.set_cons_zero, hg, List.take_succ_eq_append_getElem hk, List.append_assoc]
  rfl

theorem infoRep : (Tryz.prog.info? 54).map (fun i => (i.zero, i.size, i.bytes)) = some (some (.agg #[.int .i64 0, .int .i64 0, .int .i64 0, .int .i64 0]), 4, 32) := by kernel_rfl
end Go.Proofs.YtnemdnidlbekbaaGreatDoor
