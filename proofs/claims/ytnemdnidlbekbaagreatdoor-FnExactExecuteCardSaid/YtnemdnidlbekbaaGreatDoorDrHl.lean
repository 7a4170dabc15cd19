/- How lists of readings and of weights are drawn: so many small numbers, in a row of the call's own. -/
import Derived.Test.YtnemdnidlbekbaaGreatDoorRd
import Derived.Test.YtnemdnidlbekbaaGreatDoorLs
import Derived.Test.YtnemdnidlbekbaaGreatDoorDrHr
import Derived.LoopTactic
import Derived.Laws.OwnMore
namespace Go.Proofs.YtnemdnidlbekbaaGreatDoor
open Go.RowKit
set_option linter.unusedVariables false

theorem infoInt' : (Tryz.prog.info? 3).map (fun i => (i.zero, i.size, i.bytes)) = some (some (.int .i64 0), 1, 8) := by kernel_rfl
/-- A slice value that owns the integers zs. -/
def OwnI (w : World) (base : Nat) (v : Value) (zs : List Int) : Prop := w.ownsRow base 3 1 v zs.length (zs.map (Value.int .i64))
theorem OwnI.only {w w' : World} {base B : Nat} {v : Value} {zs : List Int} (h : OwnI w base v zs) (ho : Only B w w') (hB : B < base) : OwnI w' base v zs := by
  refine World.ownsRow.kept h ho ?_
  cases hv : v.ownBlock with
  | none => left; rfl
  | some k => right; have := h.lt k hv; intro e; injection e with e; omega
theorem OwnI.keep {w w' : World} {base : Nat} {v : Value} {zs : List Int} (h : OwnI w base v zs) (k : Keep w w') : OwnI w' base v zs := by
  refine World.ownsRow.kept h (⟨Below.os k, Below.tape k, Below.output k, Below.size k, fun i hi _ => Below.block k i hi⟩ : w.grownBy w' none) ?_
  cases hv : v.ownBlock with
  | none => left; rfl
  | some k => right; simp
theorem OwnI.ls {w : World} {base : Nat} {v : Value} {zs : List Int} (h : OwnI w base v zs) : ∃ a c, v = .slice a zs.length c ∧ Ls w a zs := by
  rcases id h.2 with ⟨rfl, h0⟩ | ⟨g, cap, cur, rfl, _⟩
  · refine ⟨none, 0, by rw [h0], .inl (List.eq_nil_of_length_eq_zero h0)⟩
  · exact ⟨_, _, rfl, (Ls.own h).2⟩
theorem OwnI.at_ {w : World} {base : Nat} {v : Value} {zs : List Int} (h : OwnI w base v zs) (h0 : 0 < zs.length) :
    ∃ g cap, v = .slice (some ⟨g, 0, none⟩) zs.length cap ∧ base ≤ g ∧ g < w.heap.size ∧ ∀ j, j < zs.length → w.cell? ⟨g, j, none⟩ = some (.int .i64 (zs.getD j 0)) ∧ w.frozen? ⟨g, j, none⟩ = false := by
  obtain ⟨g, cap, hv, hb, hl⟩ := h.form h0
  subst hv
  refine ⟨g, cap, rfl, hb, hl, fun j hj => ⟨?_, World.ownsRow.frozenAt h j⟩⟩
  rw [World.ownsRow.cellAt h j (by omega)]
  simp [hj, List.getD_eq_getElem?_getD]
theorem OwnI.stored {w : World} {base g cap : Nat} {zs : List Int} (h : OwnI w base (.slice (some ⟨g, 0, none⟩) zs.length cap) zs) (j : Nat) (u : Int) :
    OwnI (w.setCell ⟨g, j, none⟩ (.int .i64 u)) base (.slice (some ⟨g, 0, none⟩) (zs.set j u).length cap) (zs.set j u) := by
  have h1 := (World.ownsRow.stored h j (.int .i64 u)).1
  unfold OwnI
  rw [List.length_set, List.map_set]
  exact h1
def Btw (lo hi : Int) (zs : List Int) : Prop := ∀ x ∈ zs, lo ≤ x ∧ x ≤ hi
theorem Btw.snoc {lo hi u : Int} {zs : List Int} (h : Btw lo hi zs) (h0 : lo ≤ u) (h1 : u ≤ hi) : Btw lo hi (zs ++ [u]) := by
  intro x hx
  rw [List.mem_append, List.mem_singleton] at hx
  rcases hx with hx | rfl
  · exact h x hx
  · exact ⟨h0, h1⟩
theorem Btw.set {lo hi u : Int} {zs : List Int} (h : Btw lo hi zs) (j : Nat) (h0 : lo ≤ u) (h1 : u ≤ hi) : Btw lo hi (zs.set j u) := by
  intro x hx
  rcases List.mem_or_eq_of_mem_set hx with hx | rfl
  · exact h x hx
  · exact ⟨h0, h1⟩
/-- A drawn list. -/
def DrewL (lo hi : Int) (n : Nat) (w : World) (B p k : Nat) (e : Ending) (w' : World) : Prop :=
  ∃ (v : Value) (zs : List Int) (q : Nat), e = .returned v ∧ zs.length = n ∧ Btw lo hi zs ∧ OwnI w' w.heap.size v zs ∧ q ≤ p + k ∧ Rd w' B q ∧ Only B w w'

theorem Keep.grown2 {a w w' : World} {row : Option Nat} (h : Keep a w) (hg : w.grownBy w' row) (hr : ∀ k, row = some k → a.heap.size ≤ k) : Keep a w' :=
  Below.grown h hg h.size hr
theorem Only.grown2 {B : Nat} {a w w' : World} {row : Option Nat} (h : Only B a w) (hg : w.grownBy w' row) (hr : ∀ k, row = some k → a.heap.size ≤ k) : Only B a w' :=
  ⟨hg.os.trans h.os, hg.tape.trans h.tape, hg.output.trans h.output, Nat.le_trans h.size hg.size, fun i hi hne => (hg.block i (Nat.lt_of_lt_of_le hi h.size) (fun e => by have := hr i e.symm; omega)).trans (h.block i hi hne)⟩
theorem Rd.grown2 {w w' : World} {B p base : Nat} {row : Option Nat} (h : Rd w B p) (hg : w.grownBy w' row) (hB : B < base) (hr : ∀ k, row = some k → base ≤ k) : Rd w' B p := by
  obtain ⟨a, len, cap, hl, hb, c0, c1, f1, hc⟩ := h
  have hcell : ∀ b o, b ≤ B → w'.cell? ⟨b, o, none⟩ = w.cell? ⟨b, o, none⟩ := fun b o hbo => World.cell?_of_block (hg.block b (by omega) (fun e => by have := hr b e.symm; omega))
  refine ⟨a, len, cap, hl, Nat.lt_of_lt_of_le hb hg.size, (hcell B 0 (Nat.le_refl _)).trans c0, (hcell B 1 (Nat.le_refl _)).trans c1, ?_, hc.keep fun b o hbo => hcell b o (by omega)⟩
  rw [World.frozen?_of_block (a := ⟨B, 1, none⟩) (hg.block B hb (fun e => by have := hr B e.symm; omega))]
  exact f1

end Go.Proofs.YtnemdnidlbekbaaGreatDoor
