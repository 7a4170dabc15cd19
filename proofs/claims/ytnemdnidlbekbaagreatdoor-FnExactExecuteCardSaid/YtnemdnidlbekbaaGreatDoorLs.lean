/- Slices of integers as lists: 'Ls w a zs': the slice at a reads, in its first cells, as the list zs. Nothing here speaks of the program. -/
import Derived.Test.YtnemdnidlbekbaaGreatDoorFr
import Derived.Test.YtnemdnidlbekbaaGreatDoorKeep
import Derived.Lib.Hide
import Derived.Laws.OwnMore
import Derived.Deep.Draws
import Derived.Deep.AppendLies
namespace Go.Proofs.YtnemdnidlbekbaaGreatDoor
open Go.RowKit
set_option linter.unusedVariables false

def Ls (w : World) (a : Option Addr) (zs : List Int) : Prop :=
  zs = [] ∨ ∃ b off, a = some ⟨b, off, none⟩ ∧ b < w.heap.size ∧ ∀ i, i < zs.length → w.cell? ⟨b, off + i, none⟩ = some (.int .i64 (zs.getD i 0))

theorem Ls.nil (w : World) (a : Option Addr) : Ls w a [] := .inl rfl
theorem Ls.kept {w w' : World} {a : Option Addr} {zs : List Int} (h : Ls w a zs) (hs : w.heap.size ≤ w'.heap.size) (hc : ∀ b o, b < w.heap.size → w'.cell? ⟨b, o, none⟩ = w.cell? ⟨b, o, none⟩) : Ls w' a zs := by
  rcases h with h | ⟨b, off, ha, hb, h⟩
  · exact .inl h
  · exact .inr ⟨b, off, ha, by omega, fun i hi => (hc b _ hb).trans (h i hi)⟩
theorem Ls.keep {w w' : World} {a : Option Addr} {zs : List Int} (h : Ls w a zs) (k : Keep w w') : Ls w' a zs :=
  h.kept k.size fun b o hb => Below.cell k (p := ⟨b, o, none⟩) hb
theorem Ls.drewN {w : World} {a : Option Addr} {zs : List Int} (h : Ls w a zs) (n : Nat) : Ls (w.drewN n) a zs := h
theorem Ls.drew {w : World} {a : Option Addr} {zs : List Int} (h : Ls w a zs) : Ls w.drew a zs := h
theorem Ls.alloc {w : World} {a : Option Addr} {zs : List Int} (h : Ls w a zs) (o : Obj) : Ls (w.alloc o) a zs := h.keep ((Keep.refl w).alloc o)
theorem Ls.at_ {w : World} {a : Option Addr} {zs : List Int} (h : Ls w a zs) {i : Nat} (hi : i < zs.length) :
    ∃ b off, a = some ⟨b, off, none⟩ ∧ b < w.heap.size ∧ w.cell? ⟨b, off + i, none⟩ = some (.int .i64 (zs.getD i 0)) := by
  rcases h with rfl | ⟨b, off, ha, hb, h⟩
  · simp at hi
  · exact ⟨b, off, ha, hb, h i hi⟩
theorem Ls.all {w : World} {a : Option Addr} {zs : List Int} (h : Ls w a zs) (h0 : 0 < zs.length) :
    ∃ b off, a = some ⟨b, off, none⟩ ∧ b < w.heap.size ∧ ∀ i, i < zs.length → w.cell? ⟨b, off + i, none⟩ = some (.int .i64 (zs.getD i 0)) := by
  rcases h with rfl | h
  · simp at h0
  · exact h
/-- A new block of integers. -/
theorem Ls.new {w w' : World} (zs : List Int) {T : Nat} (k : Keep (w.alloc (.cells (zs.map (Value.int .i64)).toArray T)) w') : Ls w' (some ⟨w.heap.size, 0, none⟩) zs := by
  refine .inr ⟨_, _, rfl, by have := k.size; simp at this; omega, fun i hi => ?_⟩
  rw [Nat.zero_add]
  exact Keep.new k i (by simp [hi, List.getD_eq_getElem?_getD])
/-- The rows that a call owns. -/
theorem Ls.own {w : World} {base : Nat} {e : TypeId} {a : Option Addr} {n c : Nat} {zs : List Int} (h : w.ownsRow base e 1 (.slice a n c) n (zs.map (Value.int .i64))) : n = zs.length ∧ Ls w a zs := by
  have hl : n = zs.length := by have := h.1; simp at this; omega
  refine ⟨hl, ?_⟩
  by_cases h0 : zs = []
  · exact .inl h0
  · have hn : 0 < n := by rw [hl]; exact List.length_pos_iff.2 h0
    obtain ⟨g, cap, hv, _, hlt⟩ := h.form hn
    have hA : a = some ⟨g, 0, none⟩ := by injection hv
    subst hA
    refine .inr ⟨g, 0, rfl, hlt, fun i hi => ?_⟩
    have := h.cells (g := g) rfl i (.int .i64 (zs.getD i 0)) (by simp [hi, List.getD_eq_getElem?_getD])
    by_cases hi0 : i = 0
    · subst hi0; simpa [Addr.add] using this
    · simpa [Addr.add, hi0] using this
/-- What a law's argument reads as. -/
theorem ls_of_row {w : World} {a : Option Addr} {len cap : Nat} {zs : List Int} (h : IsRow .i64 w a len cap zs) :
    ∃ ys : List Int, ys.length = len ∧ Ls w a ys ∧ (len ≤ cap ∧ cap ≤ maxLen) ∧ ∀ n ∈ ys, (Lit.int .i64 n).wf = true := by
  rcases h with ⟨rfl, rfl, rfl, rfl⟩ | ⟨x, rfl, h1, h2, h3, h4, h5⟩
  · exact ⟨[], rfl, .inl rfl, ⟨Nat.le_refl _, by unfold maxLen; omega⟩, by simp⟩
  · refine ⟨zs.take len, by simp; omega, ?_, ⟨h1, h2⟩, fun n hn => h5 n (List.mem_of_mem_take hn)⟩
    by_cases h0 : len = 0
    · left; simp [h0]
    · right
      have hx := h4 0 (by omega)
      obtain ⟨b, off, rfl, hc⟩ := ints_at h4 (by omega)
      refine ⟨b, off, rfl, World.block_lt_of_cell? w _ hx, fun i hi => ?_⟩
      have hi' : i < len := by simp at hi; omega
      rw [hc i (by omega)]
      congr 2
      simp [List.getD_eq_getElem?_getD, hi']

theorem take_snoc_all (p : Int → Bool) (zs : List Int) (k : Nat) (h : k < zs.length) : (zs.take (k + 1)).all p = ((zs.take k).all p && p (zs.getD k 0)) := by
  rw [List.take_succ_eq_append_getElem h, List.all_append]; simp [List.getD_eq_getElem?_getD, h]
theorem take_snoc_any (p : Int → Bool) (zs : List Int) (k : Nat) (h : k < zs.length) : (zs.take (k + 1)).any p = ((zs.take k).any p || p (zs.getD k 0)) := by
  rw [List.take_succ_eq_append_getElem h, List.any_append]; simp [List.getD_eq_getElem?_getD, h]
theorem all_not (p : Int → Bool) (zs : List Int) (k : Nat) (h : k < zs.length) (hp : p (zs.getD k 0) = false) : zs.all p = false := by
  rw [List.all_eq_false]
  refine ⟨zs.getD k 0, by simp [List.getD_eq_getElem?_getD, h], ?_⟩
  rw [hp]; simp
theorem getD_mem {zs : List Int} {k : Nat} (h : k < zs.length) : zs.getD k 0 ∈ zs := by simp [List.getD_eq_getElem?_getD, h]
theorem all_at {p : Int → Bool} {zs : List Int} (h : zs.all p = true) {k : Nat} (hk : k < zs.length) : p (zs.getD k 0) = true := List.all_eq_true.1 h _ (getD_mem hk)
end Go.Proofs.YtnemdnidlbekbaaGreatDoor
