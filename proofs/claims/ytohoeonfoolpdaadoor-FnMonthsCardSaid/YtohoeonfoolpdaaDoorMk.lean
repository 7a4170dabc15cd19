/- The laws' marks: numbers written into slices that a call has made, and found again. -/
import Derived.Test.YtohoeonfoolpdaaDoorTr
namespace Go.Proofs.YtohoeonfoolpdaaDoor
open Go.RowKit
set_option linter.unusedVariables false

theorem Only.wr {B : Nat} {w w' : World} (h : Only B w w') {g : Nat} {ys : List Int} (hy : Wr w g ys) (hne : g ≠ B) : Wr w' g ys := by
  intro j hj
  obtain ⟨h1, h2⟩ := hy j hj
  have hb := World.block_lt_of_cell? w _ h1
  exact ⟨(h.cell g j hb hne).trans h1, (h.frozen g j hb hne).trans h2⟩
theorem Only.ls {B : Nat} {w w' : World} (h : Only B w w') {a : Option Addr} {ys : List Int} (hy : Ls w a ys) (hne : ∀ b o, a = some ⟨b, o, none⟩ → b ≠ B) : Ls w' a ys := by
  rcases hy with hy | ⟨b, off, ha, hb, hc⟩
  · exact .inl hy
  · exact .inr ⟨b, off, ha, Nat.lt_of_lt_of_le hb h.size, fun i hi => (h.cell b _ hb (hne b off ha)).trans (hc i hi)⟩
theorem Only.wrR {B : Nat} {w w' : World} (h : Only B w w') {g : Nat} {ys : List R4} (hy : WrR w g ys) (hne : g ≠ B) : WrR w' g ys := by
  intro j hj
  obtain ⟨h1, h2⟩ := hy j hj
  have hb := World.block_lt_of_cell? w _ h1.s
  exact ⟨⟨(h.cell g _ hb hne).trans h1.s, (h.cell g _ hb hne).trans h1.d, (h.cell g _ hb hne).trans h1.k, (h.cell g _ hb hne).trans h1.v⟩,
    ⟨(h.frozen g _ hb hne).trans h2.f0, (h.frozen g _ hb hne).trans h2.f1, (h.frozen g _ hb hne).trans h2.f2, (h.frozen g _ hb hne).trans h2.f3⟩⟩
theorem Only.rs {B : Nat} {w w' : World} (h : Only B w w') {a : Option Addr} {ys : List R4} (hy : Rs w a ys) (hne : ∀ b o, a = some ⟨b, o, none⟩ → b ≠ B) : Rs w' a ys := by
  rcases hy with hy | ⟨b, off, ha, hb, hc⟩
  · exact .inl hy
  · refine .inr ⟨b, off, ha, Nat.lt_of_lt_of_le hb h.size, fun i hi => ?_⟩
    have h1 := hc i hi
    have hn := hne b off ha
    exact ⟨(h.cell b _ hb hn).trans h1.s, (h.cell b _ hb hn).trans h1.d, (h.cell b _ hb hn).trans h1.k, (h.cell b _ hb hn).trans h1.v⟩
theorem Only.put1 {B : Nat} {a w : World} (h : Only B a w) (o : Nat) (u : Value) : Only B a (w.setCell ⟨B, o, none⟩ u) :=
  ⟨h.os, h.tape, h.output, by have := h.size; simpa [World.setCell] using this, fun k hk hne => (Below.heap_setCell _ _ _ _ (by intro e; exact hne (by rw [e]))).trans (h.block k hk hne)⟩

/-- Marked numbers. -/
def MkI (ys : List Int) : Prop := ∀ i, i < ys.length → ys.getD i 0 = 1 + (i : Int)
def mk4 (i : Nat) : R4 := (1 + 4 * (i : Int), 1 + 4 * (i : Int) + 1, 1 + 4 * (i : Int) + 1 + 1, 1 + 4 * (i : Int) + 1 + 1 + 1)
def MkR (ys : List R4) : Prop := ∀ i, i < ys.length → ys.getD i r0 = mk4 i

set_option maxHeartbeats 1000000 in
theorem markI (g c : Nat) (zs : List Int) (w : World) (h : Wr w g zs) (hm : zs.length ≤ 1048576) :
    Calls Tryd.prog 19 #[.slice (some ⟨g, 0, none⟩) zs.length c, .int .i64 1] w fun e w' => e = .returned (.int .i64 (1 + (zs.length : Int))) ∧ Only g w w' ∧ ∃ ys, ys.length = zs.length ∧ Wr w' g ys ∧ MkI ys := by
  go_enter Tryd.func19, Tryd.ntmps19
  go_wp2_with fail
  go_loopw [1, 5] (fun q i wr => ∃ (k : Nat) (ys : List Int), k ≤ zs.length ∧ i = .int .i64 k ∧ q = .int .i64 (1 + (k : Int)) ∧ Hid (ys.length = zs.length ∧ Wr wr g ys ∧ ∀ i, i < k → ys.getD i 0 = 1 + (i : Int)) ∧ Only g w wr) (fun _ i _ => zs.length - (intOf i).toNat)
  case atStart => exact ⟨0, zs, by omega, rfl, rfl, Lib.hid ⟨rfl, h, fun i hi => by omega⟩, Only.refl g w⟩
  case round =>
    obtain ⟨k, ys, hk, rfl, rfl, HW, hO⟩ := hrel
    by_cases hlt : k < zs.length
    · obtain ⟨x0, y0⟩ := HW.out.2.1 k (by have := HW.out.1; omega)
      have HW2 : Hid ((ys.set k (1 + (k : Int))).length = zs.length ∧ Wr (wr.setCell ⟨g, k, none⟩ (.int .i64 (1 + (k : Int)))) g (ys.set k (1 + (k : Int))) ∧ ∀ i, i < k + 1 → (ys.set k (1 + (k : Int))).getD i 0 = 1 + (i : Int)) := Lib.hid (by
        obtain ⟨l, W, m⟩ := HW.out
        refine ⟨by rw [List.length_set]; exact l, W.set (by omega) _, fun i hi => ?_⟩
        by_cases e : i = k
        · subst e; simp [List.getD_eq_getElem?_getD, show i < ys.length by omega]
        · have e2 : k ≠ i := fun h => e h.symm
          have := m i (by omega)
          rw [← this]
          simp [List.getD_eq_getElem?_getD, e2])
      have HO := Lib.hid (hO.put1 k (.int .i64 (1 + (k : Int))))
      go_wp2
      go_roundw
      case rel => exact ⟨k + 1, ys.set k (1 + (k : Int)), by omega, by go_num, by congr 1, HW2, HO.out⟩
      case measure => simp [intOf]; omega
    · obtain rfl : k = zs.length := by omega
      go_wp2
      go_ret
      exact ⟨rfl, hO, ys, HW.out.1, HW.out.2.1, fun i hi => HW.out.2.2 i (by have := HW.out.1; omega)⟩
end Go.Proofs.YtohoeonfoolpdaaDoor
