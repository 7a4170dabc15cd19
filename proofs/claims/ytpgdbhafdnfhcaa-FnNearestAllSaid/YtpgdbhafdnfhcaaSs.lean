/- Slices of sites as lists: 'Ss w a rs': the slice at a reads, in its first elements, as the list rs of sites (three numbers each); the laws' own copies of them, and two held against each other. -/
import Derived.Test.YtpgdbhafdnfhcaaFr
import Derived.Test.YtpgdbhafdnfhcaaKeep
import Derived.Test.YtpgdbhafdnfhcaaRv
import Derived.Test.YtpgdbhafdnfhcaaTi
import Derived.Lib.Hide
import Derived.Laws.OwnMore
import Derived.Deep.Draws
import Derived.Deep.AppendLies
import Derived.LoopTactic
import Derived.Deep.RegionHeld3
import Derived.Laws.MakeOwn
import Derived.Outline
namespace Go.Proofs.Ytpgdbhafdnfhcaa
open Go.RowKit
set_option linter.unusedVariables false

/-- A site: station, x, y. -/
abbrev R3 := Int × Int × Int
def t0 : R3 := (0, 0, 0)
def tS (r : R3) : Int := r.1
def tX (r : R3) : Int := r.2.1
def tY (r : R3) : Int := r.2.2
def tB (r : R3) : Bool := inB (tS r) 1 9 && inB (tX r) 0 999 && inB (tY r) 0 999
/-- The cells of a site. -/
def tc (r : R3) : List Value := [.int .i64 (tS r), .int .i64 (tX r), .int .i64 (tY r)]
def flatS (rs : List R3) : List Value := rs.flatMap tc
/-- The site r lies in block b from o on. -/
structure At3 (w : World) (b o : Nat) (r : R3) : Prop where
  s : w.cell? ⟨b, o, none⟩ = some (.int .i64 (tS r))
  d : w.cell? ⟨b, o + 1, none⟩ = some (.int .i64 (tX r))
  k : w.cell? ⟨b, o + 2, none⟩ = some (.int .i64 (tY r))
theorem At3.keep {w w' : World} {b o : Nat} {r : R3} (h : At3 w b o r) (k : Keep w w') : At3 w' b o r := ⟨k.cell h.s, k.cell h.d, k.cell h.k⟩
theorem At3.drewN {w : World} {b o : Nat} {r : R3} (h : At3 w b o r) (n : Nat) : At3 (w.drewN n) b o r := ⟨h.s, h.d, h.k⟩
theorem At3.same {w w' : World} {b o : Nat} {r : R3} (h : At3 w b o r) (hc : ∀ i, w'.cell? ⟨b, i, none⟩ = w.cell? ⟨b, i, none⟩) : At3 w' b o r :=
  ⟨(hc _).trans h.s, (hc _).trans h.d, (hc _).trans h.k⟩

def Ss (w : World) (a : Option Addr) (rs : List R3) : Prop :=
  rs = [] ∨ ∃ b off, a = some ⟨b, off, none⟩ ∧ b < w.heap.size ∧ ∀ i, i < rs.length → At3 w b (off + i * 3) (rs.getD i t0)

theorem Ss.nil (w : World) (a : Option Addr) : Ss w a [] := .inl rfl
theorem Ss.keep {w w' : World} {a : Option Addr} {rs : List R3} (h : Ss w a rs) (k : Keep w w') : Ss w' a rs := by
  rcases h with h | ⟨b, off, ha, hb, h⟩
  · exact .inl h
  · exact .inr ⟨b, off, ha, Nat.lt_of_lt_of_le hb k.size, fun i hi => (h i hi).keep k⟩
theorem Ss.alloc {w : World} {a : Option Addr} {rs : List R3} (h : Ss w a rs) (o : Obj) : Ss (w.alloc o) a rs := h.keep ((Keep.refl w).alloc o)
theorem Ss.drewN {w : World} {a : Option Addr} {rs : List R3} (h : Ss w a rs) (n : Nat) : Ss (w.drewN n) a rs := h.keep ((Keep.refl w).drewN n)
theorem Ss.at_ {w : World} {a : Option Addr} {rs : List R3} (h : Ss w a rs) {i : Nat} (hi : i < rs.length) :
    ∃ b off, a = some ⟨b, off, none⟩ ∧ b < w.heap.size ∧ At3 w b (off + i * 3) (rs.getD i t0) := by
  rcases h with rfl | ⟨b, off, ha, hb, h⟩
  · simp at hi
  · exact ⟨b, off, ha, hb, h i hi⟩
theorem Ss.all {w : World} {a : Option Addr} {rs : List R3} (h : Ss w a rs) (h0 : 0 < rs.length) :
    ∃ b off, a = some ⟨b, off, none⟩ ∧ b < w.heap.size ∧ ∀ i, i < rs.length → At3 w b (off + i * 3) (rs.getD i t0) := by
  rcases h with rfl | h
  · simp at h0
  · exact h
theorem Ss.take {w : World} {a : Option Addr} {rs : List R3} (h : Ss w a rs) (n : Nat) : Ss w a (rs.take n) := by
  rcases h with rfl | ⟨b, off, ha, hb, h⟩
  · left; simp
  · refine .inr ⟨b, off, ha, hb, fun i hi => ?_⟩
    rw [List.length_take] at hi
    have e : (rs.take n).getD i t0 = rs.getD i t0 := by simp [List.getD_eq_getElem?_getD, show i < n by omega]
    rw [e]; exact h i (by omega)
/-- What a law's argument reads as. -/
theorem ss_of_rows {w : World} {a : Option Addr} {len cap : Nat} {zs : Nat → Nat → Int} (h : IsRows 3 w a len cap zs) :
    ∃ rs : List R3, rs.length = len ∧ Ss w a rs ∧ (len ≤ cap ∧ cap ≤ maxLen) := by
  refine ⟨(List.range len).map fun i => (zs i 0, zs i 1, zs i 2), by simp, ?_, ?_⟩
  · rcases h with ⟨rfl, rfl, rfl⟩ | ⟨x, rfl, h1, h2, h3⟩
    · left; rfl
    · by_cases h0 : len = 0
      · left; simp [h0]
      · right
        obtain ⟨c0, _⟩ := h3 0 (by omega) 0 (by omega)
        obtain ⟨b, off, sh⟩ := x
        cases sh with
        | some s =>
          exfalso
          simp [World.cell?, Addr.add] at c0
          split at c0 <;> cases c0
        | none =>
          refine ⟨b, off, rfl, World.block_lt_of_cell? w _ c0, fun i hi => ?_⟩
          simp only [List.length_map, List.length_range] at hi
          have e : ((List.range len).map fun i => ((zs i 0, zs i 1, zs i 2) : R3)).getD i t0 = (zs i 0, zs i 1, zs i 2) := by
            simp [List.getD_eq_getElem?_getD, hi]
          rw [e]
          have hj : ∀ j, j < 3 → w.cell? ⟨b, off + i * 3 + j, none⟩ = some (.int .i64 (zs i j)) := fun j hj => by
            have := (h3 i (by omega) j hj).1
            unfold Addr.add at this
            by_cases hz : i * 3 + j = 0
            · rw [if_pos hz] at this
              rw [show off + i * 3 + j = off by omega]; exact this
            · rw [if_neg hz] at this
              rw [show off + i * 3 + j = off + (i * 3 + j) by omega]; exact this
          exact ⟨hj 0 (by omega), hj 1 (by omega), hj 2 (by omega)⟩
  · rcases h with ⟨rfl, rfl, rfl⟩ | ⟨x, rfl, h1, h2, h3⟩
    · exact ⟨Nat.le_refl _, by unfold maxLen; omega⟩
    · exact ⟨h1, h2⟩
theorem ttake_all (p : R3 → Bool) (rs : List R3) (k : Nat) (h : k < rs.length) : (rs.take (k + 1)).all p = ((rs.take k).all p && p (rs.getD k t0)) := by
  rw [List.take_succ_eq_append_getElem h, List.all_append]; simp [List.getD_eq_getElem?_getD, h]
theorem tall_not (p : R3 → Bool) (rs : List R3) (k : Nat) (h : k < rs.length) (hp : p (rs.getD k t0) = false) : rs.all p = false := by
  rw [List.all_eq_false]
  refine ⟨rs.getD k t0, by simp [List.getD_eq_getElem?_getD, h], ?_⟩
  rw [hp]; simp
theorem tgetD_mem {rs : List R3} {k : Nat} (h : k < rs.length) : rs.getD k t0 ∈ rs := by simp [List.getD_eq_getElem?_getD, h]
theorem tall_at {p : R3 → Bool} {rs : List R3} (h : rs.all p = true) {k : Nat} (hk : k < rs.length) : p (rs.getD k t0) = true := List.all_eq_true.1 h _ (tgetD_mem hk)


/-- Four cells that may be written. -/
structure Fr3 (w : World) (b o : Nat) : Prop where
  f0 : w.frozen? ⟨b, o, none⟩ = false
  f1 : w.frozen? ⟨b, o + 1, none⟩ = false
  f2 : w.frozen? ⟨b, o + 2, none⟩ = false
/-- Block g holds the reports ys from its beginning on, and may be written. -/
def WrS (w : World) (g : Nat) (ys : List R3) : Prop := ∀ j, j < ys.length → At3 w g (j * 3) (ys.getD j t0) ∧ Fr3 w g (j * 3)
theorem WrS.keep {w w' : World} {g : Nat} {ys : List R3} (h : WrS w g ys) (k : Keep w w') : WrS w' g ys :=
  fun j hj => ⟨(h j hj).1.keep k, ⟨k.still (h j hj).1.s (h j hj).2.f0, k.still (h j hj).1.d (h j hj).2.f1, k.still (h j hj).1.k (h j hj).2.f2⟩⟩
theorem WrS.ss {w : World} {g : Nat} {ys : List R3} (h : WrS w g ys) : Ss w (some ⟨g, 0, none⟩) ys := by
  by_cases h0 : ys = []
  · exact .inl h0
  · have hp : 0 < ys.length := List.length_pos_iff.2 h0
    exact .inr ⟨g, 0, rfl, World.block_lt_of_cell? w _ (h 0 hp).1.s, fun i hi => by rw [Nat.zero_add]; exact (h i hi).1⟩
/-- A report stored in four cells. -/
def put3 (w : World) (b o : Nat) (r : R3) : World := ((w.setCell ⟨b, o, none⟩ (.int .i64 (tS r))).setCell ⟨b, o + 1, none⟩ (.int .i64 (tX r))).setCell ⟨b, o + 2, none⟩ (.int .i64 (tY r))
theorem put3_far {w : World} {b o : Nat} {r : R3} {b' i : Nat} (h : b' ≠ b ∨ i < o ∨ o + 2 < i) : (put3 w b o r).cell? ⟨b', i, none⟩ = w.cell? ⟨b', i, none⟩ := by
  unfold put3
  rw [World.cell?_setCell_other _ _ _ _ (by intro e; simp only [Addr.mk.injEq] at e; omega), World.cell?_setCell_other _ _ _ _ (by intro e; simp only [Addr.mk.injEq] at e; omega),
    World.cell?_setCell_other _ _ _ _ (by intro e; simp only [Addr.mk.injEq] at e; omega)]
theorem put3_at {w : World} {b o : Nat} {r q : R3} (h : At3 w b o q) : At3 (put3 w b o r) b o r := by
  unfold put3
  refine ⟨?_, ?_, ?_⟩
  · rw [World.cell?_setCell_other _ _ _ _ (by simp), World.cell?_setCell_other _ _ _ _ (by simp)]
    exact World.cell?_setCell_same _ _ _ h.s
  · rw [World.cell?_setCell_other _ _ _ _ (by simp)]
    exact World.cell?_setCell_same _ _ _ ((World.cell?_setCell_other _ _ _ _ (by simp)).trans h.d)
  · exact World.cell?_setCell_same _ _ _ ((World.cell?_setCell_other _ _ _ _ (by simp)).trans ((World.cell?_setCell_other _ _ _ _ (by simp)).trans h.k))
theorem put3_frozen (w : World) (b o : Nat) (r : R3) (a : Addr) : (put3 w b o r).frozen? a = w.frozen? a := by
  unfold put3; rw [World.frozen?_setCell, World.frozen?_setCell, World.frozen?_setCell]
theorem put3_keep {a w : World} (h : Keep a w) {b o : Nat} {r : R3} (hb : a.heap.size ≤ b) : Keep a (put3 w b o r) :=
  ((h.setCell hb _).setCell hb _).setCell hb _
theorem WrS.set {w : World} {g : Nat} {ys : List R3} (h : WrS w g ys) {k : Nat} (hk : k < ys.length) (r : R3) : WrS (put3 w g (k * 3) r) g (ys.set k r) := by
  intro j hj
  rw [List.length_set] at hj
  obtain ⟨h1, h2⟩ := h j hj
  refine ⟨?_, ⟨?_, ?_, ?_⟩⟩
  · by_cases e : j = k
    · subst e
      have e2 : (ys.set j r).getD j t0 = r := by simp [List.getD_eq_getElem?_getD, hj]
      rw [e2]; exact put3_at h1
    · have e2 : (ys.set k r).getD j t0 = ys.getD j t0 := by
        have : k ≠ j := fun h => e h.symm
        simp [List.getD_eq_getElem?_getD, this]
      rw [e2]
      exact ⟨(put3_far (by omega)).trans h1.s, (put3_far (by omega)).trans h1.d, (put3_far (by omega)).trans h1.k⟩
  all_goals rw [put3_frozen]
  · exact h2.f0
  · exact h2.f1
  · exact h2.f2
theorem tpart_set (rs : List R3) (k : Nat) (hk : k < rs.length) : (rs.take k ++ List.replicate (rs.length - k) t0).set k (rs.getD k t0) = rs.take (k + 1) ++ List.replicate (rs.length - (k + 1)) t0 := by
  have e : List.replicate (rs.length - k) t0 = t0 :: List.replicate (rs.length - (k + 1)) t0 := by
    rw [← List.replicate_succ]; congr 1; omega
  have hg : rs.getD k t0 = rs[k] := by simp [List.getD_eq_getElem?_getD, hk]
  have hl : (rs.take k).length = k := by rw [List.length_take]; omega
  rw [e, List.set_append_right _ _ (by omega), hl, Nat.sub_self, List.set_cons_zero, hg, List.take_succ_eq_append_getElem hk, List.append_assoc]
  rfl

end Go.Proofs.Ytpgdbhafdnfhcaa
