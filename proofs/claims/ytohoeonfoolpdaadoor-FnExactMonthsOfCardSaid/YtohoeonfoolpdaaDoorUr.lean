/- Slices of sums as lists: 'Rr w a rs': the slice at a reads, in its first elements, as the list rs of sums (two numbers each); the laws' own copies of them, and two held against each other. -/
import Derived.Test.YtohoeonfoolpdaaDoorFr
import Derived.Test.YtohoeonfoolpdaaDoorKeep
import Derived.Test.YtohoeonfoolpdaaDoorRv
import Derived.Test.YtohoeonfoolpdaaDoorTi
import Derived.Lib.Hide
import Derived.Laws.OwnMore
import Derived.Deep.Draws
import Derived.Deep.AppendLies
import Derived.LoopTactic
import Derived.Deep.RegionHeld3
import Derived.Laws.MakeOwn
import Derived.Outline
namespace Go.Proofs.YtohoeonfoolpdaaDoor
open Go.RowKit
set_option linter.unusedVariables false

/-- A sum: total, number. -/
abbrev R2 := Int × Int
def u0 : R2 := (0, 0)
def uL (r : R2) : Int := r.1
def uH (r : R2) : Int := r.2
/-- The cells of a site. -/
def uc (r : R2) : List Value := [.int .i64 (uL r), .int .i64 (uH r)]
def flatU (rs : List R2) : List Value := rs.flatMap uc
/-- The site r lies in block b from o on. -/
structure At2 (w : World) (b o : Nat) (r : R2) : Prop where
  s : w.cell? ⟨b, o, none⟩ = some (.int .i64 (uL r))
  d : w.cell? ⟨b, o + 1, none⟩ = some (.int .i64 (uH r))
theorem At2.keep {w w' : World} {b o : Nat} {r : R2} (h : At2 w b o r) (k : Keep w w') : At2 w' b o r := ⟨k.cell h.s, k.cell h.d⟩
theorem At2.drewN {w : World} {b o : Nat} {r : R2} (h : At2 w b o r) (n : Nat) : At2 (w.drewN n) b o r := ⟨h.s, h.d⟩
theorem At2.same {w w' : World} {b o : Nat} {r : R2} (h : At2 w b o r) (hc : ∀ i, w'.cell? ⟨b, i, none⟩ = w.cell? ⟨b, i, none⟩) : At2 w' b o r :=
  ⟨(hc _).trans h.s, (hc _).trans h.d⟩

def Rr (w : World) (a : Option Addr) (rs : List R2) : Prop :=
  rs = [] ∨ ∃ b off, a = some ⟨b, off, none⟩ ∧ b < w.heap.size ∧ ∀ i, i < rs.length → At2 w b (off + i * 2) (rs.getD i u0)

theorem Rr.nil (w : World) (a : Option Addr) : Rr w a [] := .inl rfl
theorem Rr.keep {w w' : World} {a : Option Addr} {rs : List R2} (h : Rr w a rs) (k : Keep w w') : Rr w' a rs := by
  rcases h with h | ⟨b, off, ha, hb, h⟩
  · exact .inl h
  · exact .inr ⟨b, off, ha, Nat.lt_of_lt_of_le hb k.size, fun i hi => (h i hi).keep k⟩
theorem Rr.alloc {w : World} {a : Option Addr} {rs : List R2} (h : Rr w a rs) (o : Obj) : Rr (w.alloc o) a rs := h.keep ((Keep.refl w).alloc o)
theorem Rr.drewN {w : World} {a : Option Addr} {rs : List R2} (h : Rr w a rs) (n : Nat) : Rr (w.drewN n) a rs := h.keep ((Keep.refl w).drewN n)
theorem Rr.at_ {w : World} {a : Option Addr} {rs : List R2} (h : Rr w a rs) {i : Nat} (hi : i < rs.length) :
    ∃ b off, a = some ⟨b, off, none⟩ ∧ b < w.heap.size ∧ At2 w b (off + i * 2) (rs.getD i u0) := by
  rcases h with rfl | ⟨b, off, ha, hb, h⟩
  · simp at hi
  · exact ⟨b, off, ha, hb, h i hi⟩
theorem Rr.all {w : World} {a : Option Addr} {rs : List R2} (h : Rr w a rs) (h0 : 0 < rs.length) :
    ∃ b off, a = some ⟨b, off, none⟩ ∧ b < w.heap.size ∧ ∀ i, i < rs.length → At2 w b (off + i * 2) (rs.getD i u0) := by
  rcases h with rfl | h
  · simp at h0
  · exact h
theorem Rr.take {w : World} {a : Option Addr} {rs : List R2} (h : Rr w a rs) (n : Nat) : Rr w a (rs.take n) := by
  rcases h with rfl | ⟨b, off, ha, hb, h⟩
  · left; simp
  · refine .inr ⟨b, off, ha, hb, fun i hi => ?_⟩
    rw [List.length_take] at hi
    have e : (rs.take n).getD i u0 = rs.getD i u0 := by simp [List.getD_eq_getElem?_getD, show i < n by omega]
    rw [e]; exact h i (by omega)
/-- What a law's argument reads as. -/
theorem rr_of_rows {w : World} {a : Option Addr} {len cap : Nat} {zs : Nat → Nat → Int} (h : IsRows 2 w a len cap zs) :
    ∃ rs : List R2, rs.length = len ∧ Rr w a rs ∧ (len ≤ cap ∧ cap ≤ maxLen) := by
  refine ⟨(List.range len).map fun i => (zs i 0, zs i 1), by simp, ?_, ?_⟩
  · rcases h with ⟨rfl, rfl, rfl⟩ | ⟨x, rfl, h1, h2, h3⟩
    · left; rfl
    · by_cases h0 : len = 0
      · left; simp [h0]
      · right
        obtain ⟨c0, _⟩ := h3 0 (by omega) 0 (by omega)
        obtain ⟨b, off, sh⟩ := x
        cases sh with
        | some s =>
          exfalso
          simp [World.cell?, Addr.add] at c0
          split at c0 <;> cases c0
        | none =>
          refine ⟨b, off, rfl, World.block_lt_of_cell? w _ c0, fun i hi => ?_⟩
          simp only [List.length_map, List.length_range] at hi
          have e : ((List.range len).map fun i => ((zs i 0, zs i 1) : R2)).getD i u0 = (zs i 0, zs i 1) := by
            simp [List.getD_eq_getElem?_getD, hi]
          rw [e]
          have hj : ∀ j, j < 2 → w.cell? ⟨b, off + i * 2 + j, none⟩ = some (.int .i64 (zs i j)) := fun j hj => by
            have := (h3 i (by omega) j hj).1
            unfold Addr.add at this
            by_cases hz : i * 2 + j = 0
            · rw [if_pos hz] at this
              rw [show off + i * 2 + j = off by omega]; exact this
            · rw [if_neg hz] at this
              rw [show off + i * 2 + j = off + (i * 2 + j) by omega]; exact this
          exact ⟨hj 0 (by omega), hj 1 (by omega)⟩
  · rcases h with ⟨rfl, rfl, rfl⟩ | ⟨x, rfl, h1, h2, h3⟩
    · exact ⟨Nat.le_refl _, by unfold maxLen; omega⟩
    · exact ⟨h1, h2⟩
theorem utake_all (p : R2 → Bool) (rs : List R2) (k : Nat) (h : k < rs.length) : (rs.take (k + 1)).all p = ((rs.take k).all p && p (rs.getD k u0)) := by
  rw [List.take_succ_eq_append_getElem h, List.all_append]; simp [List.getD_eq_getElem?_getD, h]
theorem uall_not (p : R2 → Bool) (rs : List R2) (k : Nat) (h : k < rs.length) (hp : p (rs.getD k u0) = false) : rs.all p = false := by
  rw [List.all_eq_false]
  refine ⟨rs.getD k u0, by simp [List.getD_eq_getElem?_getD, h], ?_⟩
  rw [hp]; simp
theorem ugetD_mem {rs : List R2} {k : Nat} (h : k < rs.length) : rs.getD k u0 ∈ rs := by simp [List.getD_eq_getElem?_getD, h]
theorem uall_at {p : R2 → Bool} {rs : List R2} (h : rs.all p = true) {k : Nat} (hk : k < rs.length) : p (rs.getD k u0) = true := List.all_eq_true.1 h _ (ugetD_mem hk)


/-- Four cells that may be written. -/
structure Fr2 (w : World) (b o : Nat) : Prop where
  f0 : w.frozen? ⟨b, o, none⟩ = false
  f1 : w.frozen? ⟨b, o + 1, none⟩ = false
/-- Block g holds the reports ys from its beginning on, and may be written. -/
def WrU (w : World) (g : Nat) (ys : List R2) : Prop := ∀ j, j < ys.length → At2 w g (j * 2) (ys.getD j u0) ∧ Fr2 w g (j * 2)
theorem WrU.keep {w w' : World} {g : Nat} {ys : List R2} (h : WrU w g ys) (k : Keep w w') : WrU w' g ys :=
  fun j hj => ⟨(h j hj).1.keep k, ⟨k.still (h j hj).1.s (h j hj).2.f0, k.still (h j hj).1.d (h j hj).2.f1⟩⟩
theorem WrU.rr {w : World} {g : Nat} {ys : List R2} (h : WrU w g ys) : Rr w (some ⟨g, 0, none⟩) ys := by
  by_cases h0 : ys = []
  · exact .inl h0
  · have hp : 0 < ys.length := List.length_pos_iff.2 h0
    exact .inr ⟨g, 0, rfl, World.block_lt_of_cell? w _ (h 0 hp).1.s, fun i hi => by rw [Nat.zero_add]; exact (h i hi).1⟩
/-- A report stored in four cells. -/
def put2 (w : World) (b o : Nat) (r : R2) : World := (w.setCell ⟨b, o, none⟩ (.int .i64 (uL r))).setCell ⟨b, o + 1, none⟩ (.int .i64 (uH r))
theorem put2_far {w : World} {b o : Nat} {r : R2} {b' i : Nat} (h : b' ≠ b ∨ i < o ∨ o + 1 < i) : (put2 w b o r).cell? ⟨b', i, none⟩ = w.cell? ⟨b', i, none⟩ := by
  unfold put2
  rw [World.cell?_setCell_other _ _ _ _ (by intro e; simp only [Addr.mk.injEq] at e; omega), World.cell?_setCell_other _ _ _ _ (by intro e; simp only [Addr.mk.injEq] at e; omega)]
theorem put2_at {w : World} {b o : Nat} {r q : R2} (h : At2 w b o q) : At2 (put2 w b o r) b o r := by
  unfold put2
  constructor
  · rw [World.cell?_setCell_other _ _ _ _ (by simp)]
    exact World.cell?_setCell_same _ _ _ h.s
  · exact World.cell?_setCell_same _ _ _ ((World.cell?_setCell_other _ _ _ _ (by simp)).trans h.d)
theorem put2_frozen (w : World) (b o : Nat) (r : R2) (a : Addr) : (put2 w b o r).frozen? a = w.frozen? a := by
  unfold put2; rw [World.frozen?_setCell, World.frozen?_setCell]
theorem put2_keep {a w : World} (h : Keep a w) {b o : Nat} {r : R2} (hb : a.heap.size ≤ b) : Keep a (put2 w b o r) :=
  (h.setCell hb _).setCell hb _
theorem WrU.set {w : World} {g : Nat} {ys : List R2} (h : WrU w g ys) {k : Nat} (hk : k < ys.length) (r : R2) : WrU (put2 w g (k * 2) r) g (ys.set k r) := by
  intro j hj
  rw [List.length_set] at hj
  obtain ⟨h1, h2⟩ := h j hj
  refine ⟨?_, ⟨?_, ?_⟩⟩
  · by_cases e : j = k
    · subst e
      have e2 : (ys.set j r).getD j u0 = r := by simp [List.getD_eq_getElem?_getD, hj]
      rw [e2]; exact put2_at h1
    · have e2 : (ys.set k r).getD j u0 = ys.getD j u0 := by
        have : k ≠ j := fun h => e h.symm
        simp [List.getD_eq_getElem?_getD, this]
      rw [e2]
      exact ⟨(put2_far (by omega)).trans h1.s, (put2_far (by omega)).trans h1.d⟩
  all_goals rw [put2_frozen]
  · exact h2.f0
  · exact h2.f1
theorem upart_set (rs : List R2) (k : Nat) (hk : k < rs.length) : (rs.take k ++ List.replicate (rs.length - k) u0).set k (rs.getD k u0) = rs.take (k + 1) ++ List.replicate (rs.length - (k + 1)) u0 := by
  have e : List.replicate (rs.length - k) u0 = u0 :: List.replicate (rs.length - (k + 1)) u0 := by
    rw [← List.replicate_succ]; congr 1; omega
  have hg : rs.getD k u0 = rs[k] := by simp [List.getD_eq_getElem?_getD, hk]
  have hl : (rs.take k).length = k := by rw [List.length_take]; omega
  rw [e, List.set_append_right _ _ (by omega), hl, Nat.sub_self, List.set_cons_zero, hg, List.take_succ_eq_append_getElem hk, List.append_assoc]
  rfl

theorem infoRng : (Tryd.prog.info? 31).map (fun i => (i.zero, i.size, i.bytes)) = some (some (.agg #[.int .i64 0, .int .i64 0]), 2, 16) := by kernel_rfl
theorem run_make_ranges (n : Nat) (hn : n ≤ 1048576) (w : World) :
    (Instr.makeSlice 41 (.int .i64 (n : Int)) (.int .i64 (n : Int))).run Tryd.prog w = .ok (.slice (some ⟨w.heap.size, 0, none⟩) n n) (w.alloc (.cells (madeCells #[.int .i64 0, .int .i64 0] (n * 2)) 31)) := by
  obtain ⟨i, hi, hz, hs, hb⟩ := info_parts infoRng
  have hr := run_make (P := Tryd.prog) w 41 31 i _ Tryd.underlying41 hi hz .i64 .i64 n n (by omega) (by omega) (by rw [hb]; omega) (by omega)
  simp only [Int.toNat_natCast, hs] at hr
  exact hr
theorem made2_at (n j : Nat) (hj : j < n * 2) : (madeCells #[Value.int .i64 0, .int .i64 0] (n * 2))[j]? = some (.int .i64 0) := by
  unfold madeCells
  have h4 : j % 2 = 0 ∨ j % 2 = 1 := by omega
  rcases h4 with h | h <;> simp [hj, h]
set_option maxHeartbeats 400000 in
theorem eqRange_same (s d : Int) (w : World) :
    Calls Tryd.prog 57 #[.agg #[.int .i64 s, .int .i64 d], .agg #[.int .i64 s, .int .i64 d]] w fun e w' => e = .returned (.bool true) ∧ Keep w w' := by
  go_enter Tryd.func57, Tryd.ntmps57
  go_wp2
  go_ret
  exact ⟨rfl, ((Keep.refl w).alloc _).alloc _⟩
end Go.Proofs.YtohoeonfoolpdaaDoor
