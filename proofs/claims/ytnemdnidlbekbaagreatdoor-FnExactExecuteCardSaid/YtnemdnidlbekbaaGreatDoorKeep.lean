/- 'Keep w w'': behind a call nothing that was there before has turned. Nothing here speaks of the program. -/
import Derived.Test.YtnemdnidlbekbaaGreatDoorRows
import Derived.WalkKit
import Derived.Below
import Derived.BigQuiet
namespace Go.Proofs.YtnemdnidlbekbaaGreatDoor
open Go.RowKit
set_option linter.unusedVariables false

/-- All that was in memory in w is in w' as it was. -/
def Keep (w w' : World) : Prop := Below w.heap.size w w'

theorem Keep.refl (w : World) : Keep w w := Below.refl _ _
theorem Keep.trans {a b c : World} (h : Keep a b) (k : Keep b c) : Keep a c := Below.trans h (Below.mono k h.size)
theorem Keep.alloc {a w : World} (h : Keep a w) (o : Obj) : Keep a (w.alloc o) := Below.alloc h h.size o
theorem Keep.setCell {a w : World} (h : Keep a w) {b o : Nat} (hb : a.heap.size ≤ b) (u : Value) : Keep a (w.setCell ⟨b, o, none⟩ u) := Below.setCell h hb u
theorem Keep.drewN {a w : World} (h : Keep a w) (n : Nat) : Keep a (w.drewN n) := Below.trans h ⟨rfl, rfl, rfl, Nat.le_refl _, fun _ _ => rfl⟩
theorem Keep.drew {a w : World} (h : Keep a w) : Keep a w.drew := Keep.drewN h 1
theorem Keep.size {a w : World} (h : Keep a w) : a.heap.size ≤ w.heap.size := Below.size h
theorem Keep.below {a w : World} (h : Keep a w) : Below a.heap.size a w := h

/-- A cell that was there. -/
theorem Keep.cell {a w : World} (h : Keep a w) {b o : Nat} {v : Value} (c : a.cell? ⟨b, o, none⟩ = some v) : w.cell? ⟨b, o, none⟩ = some v := by
  rw [Below.cell h (p := ⟨b, o, none⟩) (World.block_lt_of_cell? a _ c)]; exact c

/-- A mark of a cell that was there. -/
theorem Keep.still {a w : World} (h : Keep a w) {b o : Nat} {v : Value} {x : Bool} (c : a.cell? ⟨b, o, none⟩ = some v) (f : a.frozen? ⟨b, o, none⟩ = x) : w.frozen? ⟨b, o, none⟩ = x := by
  rw [Below.frozen h (p := ⟨b, o, none⟩) (World.block_lt_of_cell? a _ c)]; exact f

/-- A cell of a new block, behind a call that kept the world with this block. -/
theorem Keep.new {w w' : World} {cs : Array Value} {T : Nat} (h : Keep (w.alloc (.cells cs T)) w') (i : Nat) {v : Value} (e : cs[i]? = some v) : w'.cell? ⟨w.heap.size, i, none⟩ = some v :=
  h.cell ((World.cell?_alloc_new w cs T i).trans e)

/-- .. behind a draw. -/
theorem Keep.newd {w w' : World} {cs : Array Value} {T : Nat} (h : Keep ((w.alloc (.cells cs T)).drew) w') (i : Nat) {v : Value} (e : cs[i]? = some v) : w'.cell? ⟨w.heap.size, i, none⟩ = some v :=
  Keep.new (w := w) (((Keep.refl (w.alloc (.cells cs T))).drew).trans h) i e

/-- .. behind one further block. -/
theorem Keep.new1 {w w' : World} {cs : Array Value} {T : Nat} {o : Obj} (h : Keep ((w.alloc (.cells cs T)).alloc o) w') (i : Nat) {v : Value} (e : cs[i]? = some v) : w'.cell? ⟨w.heap.size, i, none⟩ = some v :=
  Keep.new (w := w) (((Keep.refl _).alloc o).trans h) i e

/-- The marks of a new block. -/
theorem Keep.fresh {w w' : World} {cs : Array Value} {T : Nat} (h : Keep (w.alloc (.cells cs T)) w') (i : Nat) : w'.frozen? ⟨w.heap.size, i, none⟩ = false := by
  rw [Below.frozen h (p := ⟨w.heap.size, i, none⟩) (by simp)]
  exact World.frozen?_alloc_at _ _ _ _ rfl
theorem Keep.freshd {w w' : World} {cs : Array Value} {T : Nat} (h : Keep ((w.alloc (.cells cs T)).drew) w') (i : Nat) : w'.frozen? ⟨w.heap.size, i, none⟩ = false :=
  Keep.fresh (w := w) (((Keep.refl (w.alloc (.cells cs T))).drew).trans h) i

/-- What a call may turn: block 'B' alone, and new blocks. -/
def Only (B : Nat) (w w' : World) : Prop := w.grownBy w' (some B)

theorem Only.refl (B : Nat) (w : World) : Only B w w := ⟨rfl, rfl, rfl, Nat.le_refl _, fun _ _ _ => rfl⟩
theorem Only.trans {B : Nat} {a b c : World} (h : Only B a b) (k : Only B b c) : Only B a c :=
  ⟨k.os.trans h.os, k.tape.trans h.tape, k.output.trans h.output, Nat.le_trans h.size k.size, fun i hi hne => (k.block i (Nat.lt_of_lt_of_le hi h.size) hne).trans (h.block i hi hne)⟩
theorem Only.cell {B : Nat} {w w' : World} (h : Only B w w') (b o : Nat) (hb : b < w.heap.size) (hne : b ≠ B) : w'.cell? ⟨b, o, none⟩ = w.cell? ⟨b, o, none⟩ :=
  World.cell?_of_block (w := w) (h.block b hb (by simpa using hne))
theorem Only.frozen {B : Nat} {w w' : World} (h : Only B w w') (b o : Nat) (hb : b < w.heap.size) (hne : b ≠ B) : w'.frozen? ⟨b, o, none⟩ = w.frozen? ⟨b, o, none⟩ :=
  World.frozen?_of_block (w := w) (h.block b hb (by simpa using hne))
theorem Only.below {B C : Nat} {w w' : World} (h : Only B w w') (hB : C ≤ B) (hC : C ≤ w.heap.size) : Below C w w' :=
  ⟨h.os, h.tape, h.output, h.size, fun k hk => h.block k (by omega) (by simp; omega)⟩

/-- A cell of a new block, behind a call of the reader. -/
theorem newCellO {w w' : World} {cs : Array Value} {T B : Nat} (ho : Only B (w.alloc (.cells cs T)) w') (hB : B < w.heap.size) (i : Nat) (v : Value) (h : cs[i]? = some v) : w'.cell? ⟨w.heap.size, i, none⟩ = some v := by
  rw [ho.cell w.heap.size i (by simp) (by omega)]
  exact (World.cell?_alloc_new w cs T i).trans h

theorem Only.alloc {B : Nat} {a w : World} (h : Only B a w) (o : Obj) : Only B a (w.alloc o) :=
  h.trans ⟨rfl, rfl, rfl, by simp, fun k hk _ => Below.heap_alloc _ _ _ hk⟩

theorem Only.setCell {B : Nat} {a w : World} (h : Only B a w) {b o : Nat} (hb : a.heap.size ≤ b) (u : Value) : Only B a (w.setCell ⟨b, o, none⟩ u) :=
  ⟨h.os, h.tape, h.output, by have := h.size; simpa [World.setCell] using this, fun k hk hne => (Below.heap_setCell _ _ _ _ (by simp; omega)).trans (h.block k hk hne)⟩

theorem newFrozenO {w w' : World} {cs : Array Value} {T B : Nat} (ho : Only B (w.alloc (.cells cs T)) w') (hB : B < w.heap.size) (i : Nat) : w'.frozen? ⟨w.heap.size, i, none⟩ = false := by
  rw [ho.frozen w.heap.size i (by simp) (by omega)]
  exact World.frozen?_alloc_at _ _ _ _ rfl

theorem Only.drewN {B : Nat} {a w : World} (h : Only B a w) (n : Nat) : Only B a (w.drewN n) := h.trans ⟨rfl, rfl, rfl, Nat.le_refl _, fun _ _ _ => rfl⟩

theorem Keep.trans' {B : Nat} {a w w' : World} (k : Keep a w) (h : Only B w w') (hB : a.heap.size ≤ B) : Keep a w' :=
  Below.trans k (h.below hB (Below.size k))
theorem Only.keep {B : Nat} {a w w' : World} (h : Only B w w') (k : Keep a w) (hB : a.heap.size ≤ B) : Keep a w' :=
  Keep.trans' k h hB
theorem Keep.only {B : Nat} {w w' : World} (h : Keep w w') : Only B w w' := ⟨Below.os h, Below.tape h, Below.output h, Below.size h, fun i hi _ => Below.block h i hi⟩

/-- A cell of a new block of numbers, at a drawn index: one of the numbers of the list. -/
theorem newCellAny {w w' : World} (l : List Int) {T B : Nat} (ho : Only B (w.alloc (.cells (l.map (Value.int .i64)).toArray T)) w') (hB : B < w.heap.size) (t : Int) (h0 : 0 ≤ t) (h1 : t < l.length) :
    ∃ u : Int, u ∈ l ∧ w'.cell? ⟨w.heap.size, t.toNat, none⟩ = some (.int .i64 u) := by
  have hlt : t.toNat < l.length := by omega
  exact ⟨l[t.toNat], List.getElem_mem hlt, newCellO ho hB t.toNat _ (by simp [hlt])⟩
end Go.Proofs.YtnemdnidlbekbaaGreatDoor
