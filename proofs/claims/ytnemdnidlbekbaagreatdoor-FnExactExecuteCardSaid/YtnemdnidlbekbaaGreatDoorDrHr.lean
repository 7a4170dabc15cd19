/- How hours and quotients are drawn: the drawn numbers are small. -/
import Derived.Test.YtnemdnidlbekbaaGreatDoorRd
import Derived.Test.YtnemdnidlbekbaaGreatDoorKeep
import Derived.IntWalk
import Derived.Lib.Hide
import Derived.Outline
import Derived.Deep.RegionWith
namespace Go.Proofs.YtnemdnidlbekbaaGreatDoor
open Go.RowKit
set_option linter.unusedVariables false

theorem Rd.drew {w : World} {B p : Nat} (h : Rd w B p) : Rd w.drew B p := h
theorem newCellSm {w w' : World} (l : List Int) {T B : Nat} (ho : Only B (w.alloc (.cells (l.map (Value.int .i64)).toArray T)).drew w') (hB : B < w.heap.size) (t : Int) (h0 : 0 ≤ t) (h1 : t < l.length) (hl : ∀ u ∈ l, -1000000 ≤ u ∧ u ≤ 1000000) :
    ∃ u : Int, -1000000 ≤ u ∧ u ≤ 1000000 ∧ w'.cell? ⟨w.heap.size, t.toNat, none⟩ = some (.int .i64 u) := by
  obtain ⟨u, hu, hc⟩ := newCellAny l (((Only.refl B (w.alloc (.cells (l.map (Value.int .i64)).toArray T))).drewN 1).trans ho) hB t h0 h1
  exact ⟨u, (hl u hu).1, (hl u hu).2, hc⟩
theorem freshSm (l : List Int) (w : World) (T : Nat) (t : Int) (h0 : 0 ≤ t) (h1 : t < l.length) (hl : ∀ u ∈ l, -1000000 ≤ u ∧ u ≤ 1000000) :
    ∃ u : Int, -1000000 ≤ u ∧ u ≤ 1000000 ∧ (w.alloc (.cells (l.map (Value.int .i64)).toArray T)).cell? ⟨w.heap.size, t.toNat, none⟩ = some (.int .i64 u) ∧ (l.map (Value.int .i64)).toArray[t.toNat]? = some (.int .i64 u) ∧ (∀ h, (l.map (Value.int .i64))[t.toNat]'h = .int .i64 u) := by
  have hlt : t.toNat < l.length := by omega
  have hg : (l.map (Value.int .i64)).toArray[t.toNat]? = some (.int .i64 (l[t.toNat])) := by simp [hlt]
  exact ⟨l[t.toNat], (hl _ (List.getElem_mem hlt)).1, (hl _ (List.getElem_mem hlt)).2, (World.cell?_alloc_new w _ T t.toNat).trans hg, hg, fun h => by simp⟩
/-- A number out of a short list of small ones. -/
theorem listSm (l : List Int) (t : Int) (h0 : 0 ≤ t) (h1 : t < l.length) (hl : ∀ u ∈ l, -1000000 ≤ u ∧ u ≤ 1000000) :
    ∃ u : Int, -1000000 ≤ u ∧ u ≤ 1000000 ∧ (l.map (Value.int .i64)).toArray[t.toNat]? = some (.int .i64 u) ∧ (∀ h, (l.map (Value.int .i64))[t.toNat]'h = .int .i64 u) := by
  have hlt : t.toNat < l.length := by omega
  exact ⟨l[t.toNat], (hl _ (List.getElem_mem hlt)).1, (hl _ (List.getElem_mem hlt)).2, by simp [hlt], fun h => by simp⟩
theorem oc1 {w w' : World} {o : Obj} {B : Nat} (ho : Only B (w.alloc o).drew w') (hB : B < w.heap.size) :
    (∀ i, w'.cell? ⟨w.heap.size, i, none⟩ = (w.alloc o).cell? ⟨w.heap.size, i, none⟩) ∧ w.heap.size < w'.heap.size := by
  have hs : (w.alloc o).heap.size ≤ w'.heap.size := ho.size
  simp at hs
  exact ⟨fun i => ho.cell w.heap.size i (show _ < (w.alloc o).heap.size by simp) (by omega), by omega⟩
theorem oc2 {w w' : World} {o p : Obj} {B : Nat} (ho : Only B ((w.alloc o).alloc p).drew w') (hB : B < w.heap.size) :
    ((∀ i, w'.cell? ⟨w.heap.size, i, none⟩ = ((w.alloc o).alloc p).cell? ⟨w.heap.size, i, none⟩) ∧ ∀ i, w'.cell? ⟨w.heap.size + 1, i, none⟩ = ((w.alloc o).alloc p).cell? ⟨w.heap.size + 1, i, none⟩) ∧ w.heap.size < w'.heap.size ∧ w.heap.size + 1 < w'.heap.size := by
  have hs : ((w.alloc o).alloc p).heap.size ≤ w'.heap.size := ho.size
  simp at hs
  exact ⟨⟨fun i => ho.cell w.heap.size i (show _ < ((w.alloc o).alloc p).heap.size by simp; omega) (by omega), fun i => ho.cell (w.heap.size + 1) i (show _ < ((w.alloc o).alloc p).heap.size by simp) (by omega)⟩, by omega, by omega⟩
theorem od1 {w w' : World} {o : Obj} {B : Nat} (ho : Only B (w.alloc o) w') (hB : B < w.heap.size) :
    (∀ i, w'.cell? ⟨w.heap.size, i, none⟩ = (w.alloc o).cell? ⟨w.heap.size, i, none⟩) ∧ w.heap.size < w'.heap.size := oc1 (w' := w') ⟨ho.os, ho.tape, ho.output, ho.size, ho.block⟩ hB
theorem od2 {w w' : World} {o p : Obj} {B : Nat} (ho : Only B ((w.alloc o).alloc p) w') (hB : B < w.heap.size) :
    ((∀ i, w'.cell? ⟨w.heap.size, i, none⟩ = ((w.alloc o).alloc p).cell? ⟨w.heap.size, i, none⟩) ∧ ∀ i, w'.cell? ⟨w.heap.size + 1, i, none⟩ = ((w.alloc o).alloc p).cell? ⟨w.heap.size + 1, i, none⟩) ∧ w.heap.size < w'.heap.size ∧ w.heap.size + 1 < w'.heap.size := oc2 (w' := w') ⟨ho.os, ho.tape, ho.output, ho.size, ho.block⟩ hB
/-- A drawn number of hours. -/
def HSm (x : Int) : Prop := -2000000 ≤ x ∧ x ≤ 2000000

end Go.Proofs.YtnemdnidlbekbaaGreatDoor
