/- How a store is drawn: reports of the call's own; the reader goes on, and nothing else turns. -/
import Derived.Test.YtpdpcnblpcalaaaDoorMg
import Derived.Test.YtpdpcnblpcalaaaDoorDrRep
import Derived.LoopTactic
namespace Go.Proofs.YtpdpcnblpcalaaaDoor
open Go.RowKit
set_option linter.unusedVariables false

theorem Rd.keepS {w w' : World} {B p : Nat} (h : Rd w B p) (k : Keep w w') : Rd w' B p := by
  obtain ⟨a, len, cap, hl, hb, c0, c1, f1, hc⟩ := h
  have hcell : ∀ b o, b ≤ B → w'.cell? ⟨b, o, none⟩ = w.cell? ⟨b, o, none⟩ := fun b o hbo => World.cell?_of_block (Below.block k b (by omega))
  refine ⟨a, len, cap, hl, Nat.lt_of_lt_of_le hb k.size, (hcell B 0 (Nat.le_refl _)).trans c0, (hcell B 1 (Nat.le_refl _)).trans c1, ?_, hc.keep fun b o hbo => hcell b o (by omega)⟩
  rw [World.frozen?_of_block (a := ⟨B, 1, none⟩) (Below.block k B hb)]
  exact f1
/-- A store as it is drawn. -/
def DrewS (w : World) (B p n : Nat) (e : Ending) (w' : World) : Prop :=
  ∃ (g c : Nat) (rs : List R4) (q : Nat), e = .returned (.slice (some ⟨g, 0, none⟩) rs.length c) ∧ rs.length ≤ 40 ∧ rs.length ≤ c ∧ FrR w w' (some ⟨g, 0, none⟩) rs ∧ q ≤ p + n ∧ Rd w' B q ∧ Only B w w'

theorem wrR_station {w : World} {g j : Nat} {rs : List R4} (h : WrR w g rs) (hj : j < rs.length) :
    WrR (w.setCell ⟨g, j * 4, none⟩ (.int .i64 0)) g (rs.set j (0, (rs.getD j r0).2)) := by
  intro i hi
  rw [List.length_set] at hi
  obtain ⟨h1, h2⟩ := h i hi
  refine ⟨?_, ⟨by rw [World.frozen?_setCell]; exact h2.f0, by rw [World.frozen?_setCell]; exact h2.f1, by rw [World.frozen?_setCell]; exact h2.f2, by rw [World.frozen?_setCell]; exact h2.f3⟩⟩
  by_cases e : i = j
  · subst e
    have e2 : (rs.set i (0, (rs.getD i r0).2)).getD i r0 = (0, (rs.getD i r0).2) := by simp [List.getD_eq_getElem?_getD, hj]
    rw [e2]
    exact ⟨World.cell?_setCell_same _ _ _ h1.s, (World.cell?_setCell_other _ _ _ _ (by simp)).trans h1.d, (World.cell?_setCell_other _ _ _ _ (by simp)).trans h1.k, (World.cell?_setCell_other _ _ _ _ (by simp)).trans h1.v⟩
  · have e2 : (rs.set j (0, (rs.getD j r0).2)).getD i r0 = rs.getD i r0 := by
      have e3 : j ≠ i := fun h => e h.symm
      simp [List.getD_eq_getElem?_getD, e3]
    rw [e2]
    exact ⟨(World.cell?_setCell_other _ _ _ _ (by intro h; simp only [Addr.mk.injEq] at h; omega)).trans h1.s, (World.cell?_setCell_other _ _ _ _ (by intro h; simp only [Addr.mk.injEq] at h; omega)).trans h1.d, (World.cell?_setCell_other _ _ _ _ (by intro h; simp only [Addr.mk.injEq] at h; omega)).trans h1.k, (World.cell?_setCell_other _ _ _ _ (by intro h; simp only [Addr.mk.injEq] at h; omega)).trans h1.v⟩

end Go.Proofs.YtpdpcnblpcalaaaDoor
