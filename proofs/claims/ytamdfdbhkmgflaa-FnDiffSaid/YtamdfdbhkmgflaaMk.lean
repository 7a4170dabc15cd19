/- The laws' marks: numbers written into slices that a call has made, and found again. -/
import Derived.Test.YtamdfdbhkmgflaaTr
namespace Go.Proofs.Ytamdfdbhkmgflaa
open Go.RowKit
set_option linter.unusedVariables false

theorem Only.wr {B : Nat} {w w' : World} (h : Only B w w') {g : Nat} {ys : List Int} (hy : Wr w g ys) (hne : g ≠ B) : Wr w' g ys := by
  intro j hj
  obtain ⟨h1, h2⟩ := hy j hj
  have hb := World.block_lt_of_cell? w _ h1
  exact ⟨(h.cell g j hb hne).trans h1, (h.frozen g j hb hne).trans h2⟩
theorem Only.ls {B : Nat} {w w' : World} (h : Only B w w') {a : Option Addr} {ys : List Int} (hy : Ls w a ys) (hne : ∀ b o, a = some ⟨b, o, none⟩ → b ≠ B) : Ls w' a ys := by
  rcases hy with hy | ⟨b, off, ha, hb, hc⟩
  · exact .inl hy
  · exact .inr ⟨b, off, ha, Nat.lt_of_lt_of_le hb h.size, fun i hi => (h.cell b _ hb (hne b off ha)).trans (hc i hi)⟩
theorem Only.wrR {B : Nat} {w w' : World} (h : Only B w w') {g : Nat} {ys : List R4} (hy : WrR w g ys) (hne : g ≠ B) : WrR w' g ys := by
  intro j hj
  obtain ⟨h1, h2⟩ := hy j hj
  have hb := World.block_lt_of_cell? w _ h1.s
  exact ⟨⟨(h.cell g _ hb hne).trans h1.s, (h.cell g _ hb hne).trans h1.d, (h.cell g _ hb hne).trans h1.k, (h.cell g _ hb hne).trans h1.v⟩,
    ⟨(h.frozen g _ hb hne).trans h2.f0, (h.frozen g _ hb hne).trans h2.f1, (h.frozen g _ hb hne).trans h2.f2, (h.frozen g _ hb hne).trans h2.f3⟩⟩
theorem Only.rs {B : Nat} {w w' : World} (h : Only B w w') {a : Option Addr} {ys : List R4} (hy : Rs w a ys) (hne : ∀ b o, a = some ⟨b, o, none⟩ → b ≠ B) : Rs w' a ys := by
  rcases hy with hy | ⟨b, off, ha, hb, hc⟩
  · exact .inl hy
  · refine .inr ⟨b, off, ha, Nat.lt_of_lt_of_le hb h.size, fun i hi => ?_⟩
    have h1 := hc i hi
    have hn := hne b off ha
    exact ⟨(h.cell b _ hb hn).trans h1.s, (h.cell b _ hb hn).trans h1.d, (h.cell b _ hb hn).trans h1.k, (h.cell b _ hb hn).trans h1.v⟩
theorem Only.put1 {B : Nat} {a w : World} (h : Only B a w) (o : Nat) (u : Value) : Only B a (w.setCell ⟨B, o, none⟩ u) :=
  ⟨h.os, h.tape, h.output, by have := h.size; simpa [World.setCell] using this, fun k hk hne => (Below.heap_setCell _ _ _ _ (by intro e; exact hne (by rw [e]))).trans (h.block k hk hne)⟩

/-- Marked numbers. -/
def MkI (ys : List Int) : Prop := ∀ i, i < ys.length → ys.getD i 0 = 1 + (i : Int)
def mk4 (i : Nat) : R4 := (1 + 4 * (i : Int), 1 + 4 * (i : Int) + 1, 1 + 4 * (i : Int) + 1 + 1, 1 + 4 * (i : Int) + 1 + 1 + 1)
def MkR (ys : List R4) : Prop := ∀ i, i < ys.length → ys.getD i r0 = mk4 i

set_option maxHeartbeats 1000000 in
theorem markR (g c : Nat) (rs : List R4) (w : World) (h : WrR w g rs) (hm : rs.length ≤ 1048576) :
    Calls Try.prog 16 #[.slice (some ⟨g, 0, none⟩) rs.length c, .int .i64 1] w fun e w' => e = .returned (.int .i64 (1 + 4 * (rs.length : Int))) ∧ Only g w w' ∧ ∃ ys, ys.length = rs.length ∧ WrR w' g ys ∧ MkR ys := by
  go_enter Try.func16, Try.ntmps16
  go_wp2_with fail
  go_loopw [1, 5] (fun q i wr => ∃ (k : Nat) (ys : List R4), k ≤ rs.length ∧ i = .int .i64 k ∧ q = .int .i64 (1 + 4 * (k : Int)) ∧ Hid (ys.length = rs.length ∧ WrR wr g ys ∧ ∀ i, i < k → ys.getD i r0 = mk4 i) ∧ Only g w wr) (fun _ i _ => rs.length - (intOf i).toNat)
  case atStart => exact ⟨0, rs, by omega, rfl, rfl, Lib.hid ⟨rfl, h, fun i hi => by omega⟩, Only.refl g w⟩
  case round =>
    obtain ⟨k, ys, hk, rfl, rfl, HW, hO⟩ := hrel
    by_cases hlt : k < rs.length
    · obtain ⟨⟨x0, x1, x2, x3⟩, ⟨y0, y1, y2, y3⟩⟩ := HW.out.2.1 k (by have := HW.out.1; omega)
      have HW2 : Hid ((ys.set k (mk4 k)).length = rs.length ∧ WrR (put4 wr g (k * 4) (mk4 k)) g (ys.set k (mk4 k)) ∧ ∀ i, i < k + 1 → (ys.set k (mk4 k)).getD i r0 = mk4 i) := Lib.hid (by
        obtain ⟨l, W, m⟩ := HW.out
        refine ⟨by rw [List.length_set]; exact l, W.set (by omega) _, fun i hi => ?_⟩
        by_cases e : i = k
        · subst e; simp [List.getD_eq_getElem?_getD, show i < ys.length by omega]
        · have e2 : k ≠ i := fun h => e h.symm
          have := m i (by omega)
          rw [← this]
          simp [List.getD_eq_getElem?_getD, e2])
      have HO := Lib.hid ((((hO.put1 (k * 4) (.int .i64 (rS (mk4 k)))).put1 (k * 4 + 1) (.int .i64 (rD (mk4 k)))).put1 (k * 4 + 2) (.int .i64 (rK (mk4 k)))).put1 (k * 4 + 3) (.int .i64 (rV (mk4 k))))
      go_wp2
      go_roundw
      case rel => exact ⟨k + 1, ys.set k (mk4 k), by omega, by go_num, by congr 1, HW2, HO.out⟩
      case measure => simp [intOf]; omega
    · obtain rfl : k = rs.length := by omega
      go_wp2
      go_ret
      exact ⟨rfl, hO, ys, HW.out.1, HW.out.2.1, fun i hi => HW.out.2.2 i (by have := HW.out.1; omega)⟩
end Go.Proofs.Ytamdfdbhkmgflaa
