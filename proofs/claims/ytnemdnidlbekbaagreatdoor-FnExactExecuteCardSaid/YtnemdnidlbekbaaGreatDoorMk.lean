/- The laws' marks: numbers written into slices that a call has made, and found again. -/
import Derived.Test.YtnemdnidlbekbaaGreatDoorTr
namespace Go.Proofs.YtnemdnidlbekbaaGreatDoor
open Go.RowKit
set_option linter.unusedVariables false

theorem Only.wr {B : Nat} {w w' : World} (h : Only B w w') {g : Nat} {ys : List Int} (hy : Wr w g ys) (hne : g ≠ B) : Wr w' g ys := by
  intro j hj
  obtain ⟨h1, h2⟩ := hy j hj
  have hb := World.block_lt_of_cell? w _ h1
  exact ⟨(h.cell g j hb hne).trans h1, (h.frozen g j hb hne).trans h2⟩
theorem Only.ls {B : Nat} {w w' : World} (h : Only B w w') {a : Option Addr} {ys : List Int} (hy : Ls w a ys) (hne : ∀ b o, a = some ⟨b, o, none⟩ → b ≠ B) : Ls w' a ys := by
  rcases hy with hy | ⟨b, off, ha, hb, hc⟩
  · exact .inl hy
  · exact .inr ⟨b, off, ha, Nat.lt_of_lt_of_le hb h.size, fun i hi => (h.cell b _ hb (hne b off ha)).trans (hc i hi)⟩
theorem Only.wrR {B : Nat} {w w' : World} (h : Only B w w') {g : Nat} {ys : List R4} (hy : WrR w g ys) (hne : g ≠ B) : WrR w' g ys := by
  intro j hj
  obtain ⟨h1, h2⟩ := hy j hj
  have hb := World.block_lt_of_cell? w _ h1.s
  exact ⟨⟨(h.cell g _ hb hne).trans h1.s, (h.cell g _ hb hne).trans h1.d, (h.cell g _ hb hne).trans h1.k, (h.cell g _ hb hne).trans h1.v⟩,
    ⟨(h.frozen g _ hb hne).trans h2.f0, (h.frozen g _ hb hne).trans h2.f1, (h.frozen g _ hb hne).trans h2.f2, (h.frozen g _ hb hne).trans h2.f3⟩⟩
theorem Only.rs {B : Nat} {w w' : World} (h : Only B w w') {a : Option Addr} {ys : List R4} (hy : Rs w a ys) (hne : ∀ b o, a = some ⟨b, o, none⟩ → b ≠ B) : Rs w' a ys := by
  rcases hy with hy | ⟨b, off, ha, hb, hc⟩
  · exact .inl hy
  · refine .inr ⟨b, off, ha, Nat.lt_of_lt_of_le hb h.size, fun i hi => ?_⟩
    have h1 := hc i hi
    have hn := hne b off ha
    exact ⟨(h.cell b _ hb hn).trans h1.s, (h.cell b _ hb hn).trans h1.d, (h.cell b _ hb hn).trans h1.k, (h.cell b _ hb hn).trans h1.v⟩
theorem Only.put1 {B : Nat} {a w : World} (h : Only B a w) (o : Nat) (u : Value) : Only B a (w.setCell ⟨B, o, none⟩ u) :=
  ⟨h.os, h.tape, h.output, by have := h.size; simpa [World.setCell] using this, fun k hk hne => (Below.heap_setCell _ _ _ _ (by intro e; exact hne (by rw [e]))).trans (h.block k hk hne)⟩

/-- Marked numbers. -/
def MkI (ys : List Int) : Prop := ∀ i, i < ys.length → ys.getD i 0 = 1 + (i : Int)
def mk4 (i : Nat) : R4 := (1 + 4 * (i : Int), 1 + 4 * (i : Int) + 1, 1 + 4 * (i : Int) + 1 + 1, 1 + 4 * (i : Int) + 1 + 1 + 1)
def MkR (ys : List R4) : Prop := ∀ i, i < ys.length → ys.getD i r0 = mk4 i

end Go.Proofs.YtnemdnidlbekbaaGreatDoor
