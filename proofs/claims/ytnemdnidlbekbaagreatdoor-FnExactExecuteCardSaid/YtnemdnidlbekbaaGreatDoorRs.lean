/- Slices of reports as lists: 'Rs w a rs': the slice at a reads, in its first elements, as the list rs of reports (four numbers each). -/
import Derived.Test.YtnemdnidlbekbaaGreatDoorFr
import Derived.Test.YtnemdnidlbekbaaGreatDoorKeep
import Derived.Test.YtnemdnidlbekbaaGreatDoorRv
import Derived.Lib.Hide
import Derived.Laws.OwnMore
import Derived.Deep.Draws
import Derived.Deep.AppendLies
namespace Go.Proofs.YtnemdnidlbekbaaGreatDoor
open Go.RowKit
set_option linter.unusedVariables false

/-- A report: station, day, kind, value. -/
abbrev R4 := Int × Int × Int × Int
def r0 : R4 := (0, 0, 0, 0)
def rS (r : R4) : Int := r.1
def rD (r : R4) : Int := r.2.1
def rK (r : R4) : Int := r.2.2.1
def rV (r : R4) : Int := r.2.2.2
def rB (r : R4) : Bool := rOk (rS r) (rD r) (rK r) (rV r)
/-- The cells of a report. -/
def rc (r : R4) : List Value := [.int .i64 (rS r), .int .i64 (rD r), .int .i64 (rK r), .int .i64 (rV r)]
def flatR (rs : List R4) : List Value := rs.flatMap rc
/-- The report r lies in block b from o on. -/
structure At4 (w : World) (b o : Nat) (r : R4) : Prop where
  s : w.cell? ⟨b, o, none⟩ = some (.int .i64 (rS r))
  d : w.cell? ⟨b, o + 1, none⟩ = some (.int .i64 (rD r))
  k : w.cell? ⟨b, o + 2, none⟩ = some (.int .i64 (rK r))
  v : w.cell? ⟨b, o + 3, none⟩ = some (.int .i64 (rV r))
theorem At4.keep {w w' : World} {b o : Nat} {r : R4} (h : At4 w b o r) (k : Keep w w') : At4 w' b o r := ⟨k.cell h.s, k.cell h.d, k.cell h.k, k.cell h.v⟩
theorem At4.drewN {w : World} {b o : Nat} {r : R4} (h : At4 w b o r) (n : Nat) : At4 (w.drewN n) b o r := ⟨h.s, h.d, h.k, h.v⟩
theorem At4.same {w w' : World} {b o : Nat} {r : R4} (h : At4 w b o r) (hc : ∀ i, w'.cell? ⟨b, i, none⟩ = w.cell? ⟨b, i, none⟩) : At4 w' b o r :=
  ⟨(hc _).trans h.s, (hc _).trans h.d, (hc _).trans h.k, (hc _).trans h.v⟩

def Rs (w : World) (a : Option Addr) (rs : List R4) : Prop :=
  rs = [] ∨ ∃ b off, a = some ⟨b, off, none⟩ ∧ b < w.heap.size ∧ ∀ i, i < rs.length → At4 w b (off + i * 4) (rs.getD i r0)

theorem Rs.nil (w : World) (a : Option Addr) : Rs w a [] := .inl rfl
theorem Rs.keep {w w' : World} {a : Option Addr} {rs : List R4} (h : Rs w a rs) (k : Keep w w') : Rs w' a rs := by
  rcases h with h | ⟨b, off, ha, hb, h⟩
  · exact .inl h
  · exact .inr ⟨b, off, ha, Nat.lt_of_lt_of_le hb k.size, fun i hi => (h i hi).keep k⟩
theorem Rs.alloc {w : World} {a : Option Addr} {rs : List R4} (h : Rs w a rs) (o : Obj) : Rs (w.alloc o) a rs := h.keep ((Keep.refl w).alloc o)
theorem Rs.drewN {w : World} {a : Option Addr} {rs : List R4} (h : Rs w a rs) (n : Nat) : Rs (w.drewN n) a rs := h.keep ((Keep.refl w).drewN n)
theorem Rs.at_ {w : World} {a : Option Addr} {rs : List R4} (h : Rs w a rs) {i : Nat} (hi : i < rs.length) :
    ∃ b off, a = some ⟨b, off, none⟩ ∧ b < w.heap.size ∧ At4 w b (off + i * 4) (rs.getD i r0) := by
  rcases h with rfl | ⟨b, off, ha, hb, h⟩
  · simp at hi
  · exact ⟨b, off, ha, hb, h i hi⟩
theorem Rs.all {w : World} {a : Option Addr} {rs : List R4} (h : Rs w a rs) (h0 : 0 < rs.length) :
    ∃ b off, a = some ⟨b, off, none⟩ ∧ b < w.heap.size ∧ ∀ i, i < rs.length → At4 w b (off + i * 4) (rs.getD i r0) := by
  rcases h with rfl | h
  · simp at h0
  · exact h
theorem Rs.take {w : World} {a : Option Addr} {rs : List R4} (h : Rs w a rs) (n : Nat) : Rs w a (rs.take n) := by
  rcases h with rfl | ⟨b, off, ha, hb, h⟩
  · left; simp
  · refine .inr ⟨b, off, ha, hb, fun i hi => ?_⟩
    rw [List.length_take] at hi
    have e : (rs.take n).getD i r0 = rs.getD i r0 := by simp [List.getD_eq_getElem?_getD, show i < n by omega]
    rw [e]; exact h i (by omega)
/-- What a law's argument reads as. -/
theorem rs_of_rows {w : World} {a : Option Addr} {len cap : Nat} {zs : Nat → Nat → Int} (h : IsRows 4 w a len cap zs) :
    ∃ rs : List R4, rs.length = len ∧ Rs w a rs ∧ (len ≤ cap ∧ cap ≤ maxLen) := by
  refine ⟨(List.range len).map fun i => (zs i 0, zs i 1, zs i 2, zs i 3), by simp, ?_, ?_⟩
  · rcases h with ⟨rfl, rfl, rfl⟩ | ⟨x, rfl, h1, h2, h3⟩
    · left; rfl
    · by_cases h0 : len = 0
      · left; simp [h0]
      · right
        obtain ⟨c0, _⟩ := h3 0 (by omega) 0 (by omega)
        obtain ⟨b, off, sh⟩ := x
        cases sh with
        | some s =>
          exfalso
          simp [World.cell?, Addr.add] at c0
          split at c0 <;> cases c0
        | none =>
          refine ⟨b, off, rfl, World.block_lt_of_cell? w _ c0, fun i hi => ?_⟩
          simp only [List.length_map, List.length_range] at hi
          have e : ((List.range len).map fun i => ((zs i 0, zs i 1, zs i 2, zs i 3) : R4)).getD i r0 = (zs i 0, zs i 1, zs i 2, zs i 3) := by
            simp [List.getD_eq_getElem?_getD, hi]
          rw [e]
          have hj : ∀ j, j < 4 → w.cell? ⟨b, off + i * 4 + j, none⟩ = some (.int .i64 (zs i j)) := fun j hj => by
            have := (h3 i (by omega) j hj).1
            unfold Addr.add at this
            by_cases hz : i * 4 + j = 0
            · rw [if_pos hz] at this
              rw [show off + i * 4 + j = off by omega]; exact this
            · rw [if_neg hz] at this
              rw [show off + i * 4 + j = off + (i * 4 + j) by omega]; exact this
          exact ⟨hj 0 (by omega), hj 1 (by omega), hj 2 (by omega), hj 3 (by omega)⟩
  · rcases h with ⟨rfl, rfl, rfl⟩ | ⟨x, rfl, h1, h2, h3⟩
    · exact ⟨Nat.le_refl _, by unfold maxLen; omega⟩
    · exact ⟨h1, h2⟩
theorem rtake_all (p : R4 → Bool) (rs : List R4) (k : Nat) (h : k < rs.length) : (rs.take (k + 1)).all p = ((rs.take k).all p && p (rs.getD k r0)) := by
  rw [List.take_succ_eq_append_getElem h, List.all_append]; simp [List.getD_eq_getElem?_getD, h]
theorem rall_not (p : R4 → Bool) (rs : List R4) (k : Nat) (h : k < rs.length) (hp : p (rs.getD k r0) = false) : rs.all p = false := by
  rw [List.all_eq_false]
  refine ⟨rs.getD k r0, by simp [List.getD_eq_getElem?_getD, h], ?_⟩
  rw [hp]; simp
theorem rgetD_mem {rs : List R4} {k : Nat} (h : k < rs.length) : rs.getD k r0 ∈ rs := by simp [List.getD_eq_getElem?_getD, h]
theorem rall_at {p : R4 → Bool} {rs : List R4} (h : rs.all p = true) {k : Nat} (hk : k < rs.length) : p (rs.getD k r0) = true := List.all_eq_true.1 h _ (rgetD_mem hk)

def stB (rs : List R4) : Bool := rs.all rB && decide (rs.length ≤ 40)
theorem stB_bad {rs : List R4} (h : rs.all rB = false) : stB rs = false := by rw [stB, h]; rfl
theorem stB_long {rs : List R4} (h : 40 < rs.length) : stB rs = false := by simp [stB]; intros; omega
theorem stB_yes {rs : List R4} (h : rs.all rB = true) (h2 : rs.length ≤ 40) : stB rs = true := by rw [stB, h, decide_eq_true h2]; rfl
theorem stB_facts {rs : List R4} (h : stB rs = true) : rs.all rB = true ∧ rs.length ≤ 40 := by
  simp only [stB, Bool.and_eq_true, decide_eq_true_eq] at h; exact h
end Go.Proofs.YtnemdnidlbekbaaGreatDoor
