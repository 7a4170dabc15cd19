/- Gaps: the model's range of a day. -/
import Derived.Test.YtkiibklenpncpaaGa
import Derived.WalkKit
import Derived.StillTailTactics
import Derived.Lib.Hide
import Derived.Test.YtkiibklenpncpaaRow
import Derived.IntWalk
import Derived.Deep.RegionHeld3
namespace Go.Proofs.Ytkiibklenpncpaa
open Go.RowKit
set_option linter.unusedVariables false

theorem wpStill_hideG {P : Program} {ops : Array Oper} {w : World} {Q : Act → Prop} {l : List Oper} {a : Act} (h : ∀ T : Act → Prop, Hid (∀ a, Q a → T a) → wpStill P ops w T l a) : wpStill P ops w Q l a :=
  h Q (Lib.hid (fun _ h => h))

theorem abs_world {P : World → Prop} {w : World} (Q : World → Prop) (hQ : Q w) (h : ∀ w', Q w' → P w') : P w := h w hQ
theorem gLo_ub {zs : List Int} (h : sqB zs = true) {lo st : Int} (hl : lo ≤ 12000) (h0 : 0 ≤ st) (i : Nat) : ∀ k, k ≤ zs.length → gLo zs lo st i k ≤ 12000
  | 0, _ => hl
  | k + 1, hk => by
    have ih := gLo_ub h hl h0 i k (by omega)
    have hz := sq_at h (show k < zs.length by omega)
    have hf := gFar_nn (i := k) (j := i) h0
    simp only [gLo]; split <;> omega
theorem gHi_lb {zs : List Int} (h : sqB zs = true) {hi st : Int} (hl : -12000 ≤ hi) (h0 : 0 ≤ st) (i : Nat) : ∀ k, k ≤ zs.length → -12000 ≤ gHi zs hi st i k
  | 0, _ => hl
  | k + 1, hk => by
    have ih := gHi_lb h hl h0 i k (by omega)
    have hz := sq_at h (show k < zs.length by omega)
    have hf := gFar_nn (i := k) (j := i) h0
    simp only [gHi]; split <;> omega
theorem gFar_max (k i : Nat) (st : Int) : max ((k : Int) - (i : Int)) ((i : Int) - (k : Int)) * st = gFar k i st := by
  unfold gFar; congr 1; split <;> omega
/-- The block at the end of w can be written: two cells. -/
def HTP (w wr : World) : Prop := wr.frozen? ⟨w.heap.size, 0, none⟩ = false ∧ wr.frozen? ⟨w.heap.size, 1, none⟩ = false ∧ (∃ v, wr.cell? ⟨w.heap.size, 0, none⟩ = some v) ∧ ∃ v, wr.cell? ⟨w.heap.size, 1, none⟩ = some v
theorem HTP.put {w wr : World} {b o : Nat} (h : HTP w wr) (hb : b ≠ w.heap.size) (u : Value) : HTP w (wr.setCell ⟨b, o, none⟩ u) := by
  obtain ⟨h0, h1, ⟨v0, h2⟩, ⟨v1, h3⟩⟩ := h
  refine ⟨by rw [World.frozen?_setCell]; exact h0, by rw [World.frozen?_setCell]; exact h1, ⟨v0, ?_⟩, ⟨v1, ?_⟩⟩
  · rw [World.cell?_setCell_other _ _ _ _ (by simp only [ne_eq, Addr.mk.injEq]; omega)]; exact h2
  · rw [World.cell?_setCell_other _ _ _ _ (by simp only [ne_eq, Addr.mk.injEq]; omega)]; exact h3
theorem HTP.drew {w wr : World} (h : HTP w wr) : HTP w wr.drew := h
end Go.Proofs.Ytkiibklenpncpaa
