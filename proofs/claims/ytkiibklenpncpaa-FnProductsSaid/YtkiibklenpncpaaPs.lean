/- Slices of products as lists: 'Ps w a rs': the slice at a reads, in its first elements, as the list rs of products (five numbers each); the laws' own copies of them, two held against each other, and marks. -/
import Derived.Test.YtkiibklenpncpaaMk
namespace Go.Proofs.Ytkiibklenpncpaa
open Go.RowKit
set_option linter.unusedVariables false

/-- A product: station, kind, first day, days, gaps. -/
abbrev R5 := Int × Int × Int × Int × Int
def p0 : R5 := (0, 0, 0, 0, 0)
def qS (r : R5) : Int := r.1
def qT (r : R5) : Int := r.2.1
def qF (r : R5) : Int := r.2.2.1
def qN (r : R5) : Int := r.2.2.2.1
def qG (r : R5) : Int := r.2.2.2.2
/-- The cells of a report. -/
def qc (r : R5) : List Value := [.int .i64 (qS r), .int .i64 (qT r), .int .i64 (qF r), .int .i64 (qN r), .int .i64 (qG r)]
def flatP (rs : List R5) : List Value := rs.flatMap qc
/-- The report r lies in block b from o on. -/
structure At5 (w : World) (b o : Nat) (r : R5) : Prop where
  s : w.cell? ⟨b, o, none⟩ = some (.int .i64 (qS r))
  d : w.cell? ⟨b, o + 1, none⟩ = some (.int .i64 (qT r))
  k : w.cell? ⟨b, o + 2, none⟩ = some (.int .i64 (qF r))
  v : w.cell? ⟨b, o + 3, none⟩ = some (.int .i64 (qN r))
  g : w.cell? ⟨b, o + 4, none⟩ = some (.int .i64 (qG r))
theorem At5.keep {w w' : World} {b o : Nat} {r : R5} (h : At5 w b o r) (k : Keep w w') : At5 w' b o r := ⟨k.cell h.s, k.cell h.d, k.cell h.k, k.cell h.v, k.cell h.g⟩
theorem At5.drewN {w : World} {b o : Nat} {r : R5} (h : At5 w b o r) (n : Nat) : At5 (w.drewN n) b o r := ⟨h.s, h.d, h.k, h.v, h.g⟩
theorem At5.same {w w' : World} {b o : Nat} {r : R5} (h : At5 w b o r) (hc : ∀ i, w'.cell? ⟨b, i, none⟩ = w.cell? ⟨b, i, none⟩) : At5 w' b o r :=
  ⟨(hc _).trans h.s, (hc _).trans h.d, (hc _).trans h.k, (hc _).trans h.v, (hc _).trans h.g⟩

def Ps (w : World) (a : Option Addr) (rs : List R5) : Prop :=
  rs = [] ∨ ∃ b off, a = some ⟨b, off, none⟩ ∧ b < w.heap.size ∧ ∀ i, i < rs.length → At5 w b (off + i * 5) (rs.getD i p0)

theorem Ps.nil (w : World) (a : Option Addr) : Ps w a [] := .inl rfl
theorem Ps.keep {w w' : World} {a : Option Addr} {rs : List R5} (h : Ps w a rs) (k : Keep w w') : Ps w' a rs := by
  rcases h with h | ⟨b, off, ha, hb, h⟩
  · exact .inl h
  · exact .inr ⟨b, off, ha, Nat.lt_of_lt_of_le hb k.size, fun i hi => (h i hi).keep k⟩
theorem Ps.alloc {w : World} {a : Option Addr} {rs : List R5} (h : Ps w a rs) (o : Obj) : Ps (w.alloc o) a rs := h.keep ((Keep.refl w).alloc o)
theorem Ps.drewN {w : World} {a : Option Addr} {rs : List R5} (h : Ps w a rs) (n : Nat) : Ps (w.drewN n) a rs := h.keep ((Keep.refl w).drewN n)
theorem Ps.at_ {w : World} {a : Option Addr} {rs : List R5} (h : Ps w a rs) {i : Nat} (hi : i < rs.length) :
    ∃ b off, a = some ⟨b, off, none⟩ ∧ b < w.heap.size ∧ At5 w b (off + i * 5) (rs.getD i p0) := by
  rcases h with rfl | ⟨b, off, ha, hb, h⟩
  · simp at hi
  · exact ⟨b, off, ha, hb, h i hi⟩
theorem Ps.all {w : World} {a : Option Addr} {rs : List R5} (h : Ps w a rs) (h0 : 0 < rs.length) :
    ∃ b off, a = some ⟨b, off, none⟩ ∧ b < w.heap.size ∧ ∀ i, i < rs.length → At5 w b (off + i * 5) (rs.getD i p0) := by
  rcases h with rfl | h
  · simp at h0
  · exact h
theorem Ps.take {w : World} {a : Option Addr} {rs : List R5} (h : Ps w a rs) (n : Nat) : Ps w a (rs.take n) := by
  rcases h with rfl | ⟨b, off, ha, hb, h⟩
  · left; simp
  · refine .inr ⟨b, off, ha, hb, fun i hi => ?_⟩
    rw [List.length_take] at hi
    have e : (rs.take n).getD i p0 = rs.getD i p0 := by simp [List.getD_eq_getElem?_getD, show i < n by omega]
    rw [e]; exact h i (by omega)
/-- What a law's argument reads as. -/
theorem ps_of_rows {w : World} {a : Option Addr} {len cap : Nat} {zs : Nat → Nat → Int} (h : IsRows 5 w a len cap zs) :
    ∃ rs : List R5, rs.length = len ∧ Ps w a rs ∧ (len ≤ cap ∧ cap ≤ maxLen) := by
  refine ⟨(List.range len).map fun i => (zs i 0, zs i 1, zs i 2, zs i 3, zs i 4), by simp, ?_, ?_⟩
  · rcases h with ⟨rfl, rfl, rfl⟩ | ⟨x, rfl, h1, h2, h3⟩
    · left; rfl
    · by_cases h0 : len = 0
      · left; simp [h0]
      · right
        obtain ⟨c0, _⟩ := h3 0 (by omega) 0 (by omega)
        obtain ⟨b, off, sh⟩ := x
        cases sh with
        | some s =>
          exfalso
          simp [World.cell?, Addr.add] at c0
          split at c0 <;> cases c0
        | none =>
          refine ⟨b, off, rfl, World.block_lt_of_cell? w _ c0, fun i hi => ?_⟩
          simp only [List.length_map, List.length_range] at hi
          have e : ((List.range len).map fun i => ((zs i 0, zs i 1, zs i 2, zs i 3, zs i 4) : R5)).getD i p0 = (zs i 0, zs i 1, zs i 2, zs i 3, zs i 4) := by
            simp [List.getD_eq_getElem?_getD, hi]
          rw [e]
          have hj : ∀ j, j < 5 → w.cell? ⟨b, off + i * 5 + j, none⟩ = some (.int .i64 (zs i j)) := fun j hj => by
            have := (h3 i (by omega) j hj).1
            unfold Addr.add at this
            by_cases hz : i * 5 + j = 0
            · rw [if_pos hz] at this
              rw [show off + i * 5 + j = off by omega]; exact this
            · rw [if_neg hz] at this
              rw [show off + i * 5 + j = off + (i * 5 + j) by omega]; exact this
          exact ⟨hj 0 (by omega), hj 1 (by omega), hj 2 (by omega), hj 3 (by omega), hj 4 (by omega)⟩
  · rcases h with ⟨rfl, rfl, rfl⟩ | ⟨x, rfl, h1, h2, h3⟩
    · exact ⟨Nat.le_refl _, by unfold maxLen; omega⟩
    · exact ⟨h1, h2⟩
theorem qtake_all (p : R5 → Bool) (rs : List R5) (k : Nat) (h : k < rs.length) : (rs.take (k + 1)).all p = ((rs.take k).all p && p (rs.getD k p0)) := by
  rw [List.take_succ_eq_append_getElem h, List.all_append]; simp [List.getD_eq_getElem?_getD, h]
theorem qall_not (p : R5 → Bool) (rs : List R5) (k : Nat) (h : k < rs.length) (hp : p (rs.getD k p0) = false) : rs.all p = false := by
  rw [List.all_eq_false]
  refine ⟨rs.getD k p0, by simp [List.getD_eq_getElem?_getD, h], ?_⟩
  rw [hp]; simp
theorem qgetD_mem {rs : List R5} {k : Nat} (h : k < rs.length) : rs.getD k p0 ∈ rs := by simp [List.getD_eq_getElem?_getD, h]
theorem qall_at {p : R5 → Bool} {rs : List R5} (h : rs.all p = true) {k : Nat} (hk : k < rs.length) : p (rs.getD k p0) = true := List.all_eq_true.1 h _ (qgetD_mem hk)

/-- Four cells that may be written. -/
structure Fr5 (w : World) (b o : Nat) : Prop where
  f0 : w.frozen? ⟨b, o, none⟩ = false
  f1 : w.frozen? ⟨b, o + 1, none⟩ = false
  f2 : w.frozen? ⟨b, o + 2, none⟩ = false
  f3 : w.frozen? ⟨b, o + 3, none⟩ = false
  f4 : w.frozen? ⟨b, o + 4, none⟩ = false
/-- Block g holds the reports ys from its beginning on, and may be written. -/
def WrP (w : World) (g : Nat) (ys : List R5) : Prop := ∀ j, j < ys.length → At5 w g (j * 5) (ys.getD j p0) ∧ Fr5 w g (j * 5)
theorem WrP.keep {w w' : World} {g : Nat} {ys : List R5} (h : WrP w g ys) (k : Keep w w') : WrP w' g ys :=
  fun j hj => ⟨(h j hj).1.keep k, ⟨k.still (h j hj).1.s (h j hj).2.f0, k.still (h j hj).1.d (h j hj).2.f1, k.still (h j hj).1.k (h j hj).2.f2, k.still (h j hj).1.v (h j hj).2.f3, k.still (h j hj).1.g (h j hj).2.f4⟩⟩
theorem WrP.ps {w : World} {g : Nat} {ys : List R5} (h : WrP w g ys) : Ps w (some ⟨g, 0, none⟩) ys := by
  by_cases h0 : ys = []
  · exact .inl h0
  · have hp : 0 < ys.length := List.length_pos_iff.2 h0
    exact .inr ⟨g, 0, rfl, World.block_lt_of_cell? w _ (h 0 hp).1.s, fun i hi => by rw [Nat.zero_add]; exact (h i hi).1⟩
/-- A report stored in four cells. -/
def put5 (w : World) (b o : Nat) (r : R5) : World := ((((w.setCell ⟨b, o, none⟩ (.int .i64 (qS r))).setCell ⟨b, o + 1, none⟩ (.int .i64 (qT r))).setCell ⟨b, o + 2, none⟩ (.int .i64 (qF r))).setCell ⟨b, o + 3, none⟩ (.int .i64 (qN r))).setCell ⟨b, o + 4, none⟩ (.int .i64 (qG r))
theorem put5_far {w : World} {b o : Nat} {r : R5} {b' i : Nat} (h : b' ≠ b ∨ i < o ∨ o + 4 < i) : (put5 w b o r).cell? ⟨b', i, none⟩ = w.cell? ⟨b', i, none⟩ := by
  unfold put5
  rw [World.cell?_setCell_other _ _ _ _ (by intro e; simp only [Addr.mk.injEq] at e; omega), World.cell?_setCell_other _ _ _ _ (by intro e; simp only [Addr.mk.injEq] at e; omega),
    World.cell?_setCell_other _ _ _ _ (by intro e; simp only [Addr.mk.injEq] at e; omega), World.cell?_setCell_other _ _ _ _ (by intro e; simp only [Addr.mk.injEq] at e; omega), World.cell?_setCell_other _ _ _ _ (by intro e; simp only [Addr.mk.injEq] at e; omega)]
theorem put5_at {w : World} {b o : Nat} {r q : R5} (h : At5 w b o q) : At5 (put5 w b o r) b o r := by
  unfold put5
  refine ⟨?_, ?_, ?_, ?_, ?_⟩
  · rw [World.cell?_setCell_other _ _ _ _ (by simp), World.cell?_setCell_other _ _ _ _ (by simp), World.cell?_setCell_other _ _ _ _ (by simp), World.cell?_setCell_other _ _ _ _ (by simp)]
    exact World.cell?_setCell_same _ _ _ h.s
  · rw [World.cell?_setCell_other _ _ _ _ (by simp), World.cell?_setCell_other _ _ _ _ (by simp), World.cell?_setCell_other _ _ _ _ (by simp)]
    exact World.cell?_setCell_same _ _ _ ((World.cell?_setCell_other _ _ _ _ (by simp)).trans h.d)
  · rw [World.cell?_setCell_other _ _ _ _ (by simp), World.cell?_setCell_other _ _ _ _ (by simp)]
    exact World.cell?_setCell_same _ _ _ ((World.cell?_setCell_other _ _ _ _ (by simp)).trans ((World.cell?_setCell_other _ _ _ _ (by simp)).trans h.k))
  · rw [World.cell?_setCell_other _ _ _ _ (by simp)]
    exact World.cell?_setCell_same _ _ _ ((World.cell?_setCell_other _ _ _ _ (by simp)).trans ((World.cell?_setCell_other _ _ _ _ (by simp)).trans ((World.cell?_setCell_other _ _ _ _ (by simp)).trans h.v)))
  · exact World.cell?_setCell_same _ _ _ ((World.cell?_setCell_other _ _ _ _ (by simp)).trans ((World.cell?_setCell_other _ _ _ _ (by simp)).trans ((World.cell?_setCell_other _ _ _ _ (by simp)).trans ((World.cell?_setCell_other _ _ _ _ (by simp)).trans h.g))))
theorem put5_frozen (w : World) (b o : Nat) (r : R5) (a : Addr) : (put5 w b o r).frozen? a = w.frozen? a := by
  unfold put5; rw [World.frozen?_setCell, World.frozen?_setCell, World.frozen?_setCell, World.frozen?_setCell, World.frozen?_setCell]
theorem put5_keep {a w : World} (h : Keep a w) {b o : Nat} {r : R5} (hb : a.heap.size ≤ b) : Keep a (put5 w b o r) :=
  ((((h.setCell hb _).setCell hb _).setCell hb _).setCell hb _).setCell hb _
theorem WrP.set {w : World} {g : Nat} {ys : List R5} (h : WrP w g ys) {k : Nat} (hk : k < ys.length) (r : R5) : WrP (put5 w g (k * 5) r) g (ys.set k r) := by
  intro j hj
  rw [List.length_set] at hj
  obtain ⟨h1, h2⟩ := h j hj
  refine ⟨?_, ⟨?_, ?_, ?_, ?_, ?_⟩⟩
  · by_cases e : j = k
    · subst e
      have e2 : (ys.set j r).getD j p0 = r := by simp [List.getD_eq_getElem?_getD, hj]
      rw [e2]; exact put5_at h1
    · have e2 : (ys.set k r).getD j p0 = ys.getD j p0 := by
        have : k ≠ j := fun h => e h.symm
        simp [List.getD_eq_getElem?_getD, this]
      rw [e2]
      exact ⟨(put5_far (by omega)).trans h1.s, (put5_far (by omega)).trans h1.d, (put5_far (by omega)).trans h1.k, (put5_far (by omega)).trans h1.v, (put5_far (by omega)).trans h1.g⟩
  all_goals rw [put5_frozen]
  · exact h2.f0
  · exact h2.f1
  · exact h2.f2
  · exact h2.f3
  · exact h2.f4
theorem qpart_set (rs : List R5) (k : Nat) (hk : k < rs.length) : (rs.take k ++ List.replicate (rs.length - k) p0).set k (rs.getD k p0) = rs.take (k + 1) ++ List.replicate (rs.length - (k + 1)) p0 := by
  have e : List.replicate (rs.length - k) p0 = p0 :: List.replicate (rs.length - (k + 1)) p0 := by
    rw [← List.replicate_succ]; congr 1; omega
  have hg : rs.getD k p0 = rs[k] := by simp [List.getD_eq_getElem?_getD, hk]
  have hl : (rs.take k).length = k := by rw [List.length_take]; omega
  rw [e, List.set_append_right _ _ (by omega), hl, Nat.sub_self, List.set_cons_zero, hg, List.take_succ_eq_append_getElem hk, List.append_assoc]
  rfl

set_option maxHeartbeats 400000 in
theorem szP_any (a : Option Addr) (len cap : Nat) (w : World) (h : len ≤ 1048576) :
    Calls Try.prog 18 #[.slice a len cap, .int .i64 1048576] w fun e w' => e = .returned (.int .i64 (1048576 - (len : Int))) ∧ w = w' := by
  have d : decide (1048576 - (len : Int) < 0) = false := by simp; omega
  go_enter Try.func18, Try.ntmps18
  go_wp2
  go_ret
  exact ⟨rfl, rfl⟩
set_option maxHeartbeats 400000 in
theorem szP_big (a : Option Addr) (len cap : Nat) (w : World) (h : 1048576 < len) (hm : len ≤ 9223372036854775807) :
    Calls Try.prog 18 #[.slice a len cap, .int .i64 1048576] w fun e w' => e = .returned (.int .i64 (-1)) ∧ w = w' := by
  have d : decide (1048576 - (len : Int) < 0) = true := by simp; omega
  go_enter Try.func18, Try.ntmps18
  go_wp2
  go_ret
  exact ⟨rfl, rfl⟩
set_option maxHeartbeats 400000 in
theorem toPro (s d k v g : Int) (w : World) :
    Calls Try.prog 64 #[.agg #[.int .i64 s, .int .i64 d, .int .i64 k, .int .i64 v, .int .i64 g]] w fun e w' => e = .returned (.agg #[.int .i64 s, .int .i64 d, .int .i64 k, .int .i64 v, .int .i64 g]) ∧ Below w.heap.size w w' := by
  go_enter Try.func64, Try.ntmps64
  go_wp2
  refine bodyPost_ret (v := .agg #[.int .i64 s, .int .i64 d, .int .i64 k, .int .i64 v, .int .i64 g]) (by simp [results, Try.results64, go_sem]) rfl ⟨rfl, ?_⟩
  repeat (first | exact Below.refl _ _ | refine Below.setCell ?_ (by simp <;> omega) _ | refine Below.alloc ?_ (by simp <;> omega) _)
theorem infoPro : (Try.prog.info? 33).map (fun i => (i.zero, i.size, i.bytes)) = some (some (.agg #[.int .i64 0, .int .i64 0, .int .i64 0, .int .i64 0, .int .i64 0]), 5, 40) := by kernel_rfl
theorem run_make_products (n : Nat) (hn : n ≤ 1048576) (w : World) :
    (Instr.makeSlice 24 (.int .i64 (n : Int)) (.int .i64 (n : Int))).run Try.prog w = .ok (.slice (some ⟨w.heap.size, 0, none⟩) n n) (w.alloc (.cells (madeCells #[.int .i64 0, .int .i64 0, .int .i64 0, .int .i64 0, .int .i64 0] (n * 5)) 33)) := by
  obtain ⟨i, hi, hz, hs, hb⟩ := info_parts infoPro
  have hr := run_make (P := Try.prog) w 24 33 i _ Try.underlying24 hi hz .i64 .i64 n n (by omega) (by omega) (by rw [hb]; omega) (by omega)
  simp only [Int.toNat_natCast, hs] at hr
  exact hr
theorem made5_at (n j : Nat) (hj : j < n * 5) : (madeCells #[Value.int .i64 0, .int .i64 0, .int .i64 0, .int .i64 0, .int .i64 0] (n * 5))[j]? = some (.int .i64 0) := by
  unfold madeCells
  have h4 : j % 5 = 0 ∨ j % 5 = 1 ∨ j % 5 = 2 ∨ j % 5 = 3 ∨ j % 5 = 4 := by omega
  rcases h4 with h | h | h | h | h <;> simp [hj, h]
def ToP (rs : List R5) (w : World) (e : Ending) (w' : World) : Prop := ∃ g, w.heap.size ≤ g ∧ e = .returned (.slice (some ⟨g, 0, none⟩) rs.length rs.length) ∧ WrP w' g rs ∧ Keep w w' ∧ g < w'.heap.size

set_option maxHeartbeats 1000000 in
theorem toP_any (a : Option Addr) (cap : Nat) (rs : List R5) (w : World) (h : Ps w a rs) (hm : rs.length ≤ 1048576) :
    Calls Try.prog 20 #[.slice a rs.length cap] w (ToP rs w) := by
  have hmk := fun W => run_make_products rs.length hm W
  go_enter Try.func20, Try.ntmps20
  go_wp2_with fail
  go_loopw [4] (fun i wr => ∃ k : Nat, k ≤ rs.length ∧ i = .int .i64 k ∧ Hid (WrP wr w.heap.size (rs.take k ++ List.replicate (rs.length - k) p0)) ∧ Keep w wr ∧ w.heap.size < wr.heap.size) (fun i _ => rs.length - (intOf i).toNat)
  case atStart =>
    refine ⟨0, by omega, rfl, Lib.hid ?_, (Keep.refl w).alloc _, by simp⟩
    intro j hj
    have hj' : j < rs.length := by simpa using hj
    have e : (rs.take 0 ++ List.replicate (rs.length - 0) p0).getD j p0 = p0 := by simp [List.getD_eq_getElem?_getD, hj']
    rw [e]
    exact ⟨⟨(World.cell?_alloc_new w _ _ _).trans (made5_at _ _ (by omega)), (World.cell?_alloc_new w _ _ _).trans (made5_at _ _ (by omega)), (World.cell?_alloc_new w _ _ _).trans (made5_at _ _ (by omega)), (World.cell?_alloc_new w _ _ _).trans (made5_at _ _ (by omega)), (World.cell?_alloc_new w _ _ _).trans (made5_at _ _ (by omega))⟩,
      ⟨World.frozen?_alloc_at _ _ _ _ rfl, World.frozen?_alloc_at _ _ _ _ rfl, World.frozen?_alloc_at _ _ _ _ rfl, World.frozen?_alloc_at _ _ _ _ rfl, World.frozen?_alloc_at _ _ _ _ rfl⟩⟩
  case round =>
    obtain ⟨k, hk, rfl, HW, hK, hlr⟩ := hrel
    clear hmk
    by_cases hlt : k < rs.length
    · obtain ⟨b, off, rfl, hb, ⟨c0, c1, c2, c3, c4⟩⟩ := (h.keep hK).at_ hlt
      have hl : (rs.take k ++ List.replicate (rs.length - k) p0).length = rs.length := by simp; omega
      have HP := Lib.hid (qpart_set rs k hlt)
      obtain ⟨q, hq⟩ : ∃ q, rs.getD k p0 = q := ⟨_, rfl⟩
      rw [hq] at c0 c1 c2 c3 c4 HP
      have hsz := hK.size
      go_wp2_with fail
      refine (toPro (qS q) (qT q) (qF q) (qN q) (qG q) _).mono ?_
      rintro e w1 ⟨rfl, hk1⟩
      have k1 : Keep wr w1 := hk1
      have HW1 := Lib.hid (HW.out.keep k1)
      obtain ⟨⟨x0, x1, x2, x3, x4⟩, ⟨y0, y1, y2, y3, y4⟩⟩ := HW1.out k (by rw [hl]; exact hlt)
      have HW2 := Lib.hid (HW1.out.set (by rw [hl]; exact hlt) q)
      rw [HP.out] at HW2
      have HK2 := Lib.hid (put5_keep (hK.trans k1) (b := w.heap.size) (o := k * 5) (r := q) (Nat.le_refl _))
      have HS2 : Hid (w.heap.size < (put5 w1 w.heap.size (k * 5) q).heap.size) := Lib.hid (by have := k1.size; simp [put5, World.setCell]; omega)
      clear hl hq
      go_wp2
      go_roundw
      case rel => exact ⟨k + 1, by omega, by go_num, HW2, HK2.out, HS2.out⟩
      case measure => simp [intOf]; omega
    · have HW2 : Hid (WrP wr w.heap.size rs) := Lib.hid (by have h1 := HW.out; rw [List.take_of_length_le (by omega), show rs.length - k = 0 by omega] at h1; simpa using h1)
      go_wp2
      go_ret
      exact ⟨w.heap.size, Nat.le_refl _, rfl, HW2.out, hK, hlr⟩
set_option maxHeartbeats 400000 in
theorem eqPro_same (s d t v g : Int) (w : World) :
    Calls Try.prog 66 #[.agg #[.int .i64 s, .int .i64 d, .int .i64 t, .int .i64 v, .int .i64 g], .agg #[.int .i64 s, .int .i64 d, .int .i64 t, .int .i64 v, .int .i64 g]] w fun e w' => e = .returned (.bool true) ∧ Keep w w' := by
  go_enter Try.func66, Try.ntmps66
  go_wp2
  go_ret
  exact ⟨rfl, ((Keep.refl w).alloc _).alloc _⟩
set_option maxHeartbeats 1000000 in
theorem eqP_same (a b : Option Addr) (c d : Nat) (rs : List R5) (w : World) (h1 : Ps w a rs) (h2 : Ps w b rs) (hm : rs.length ≤ 1048576) :
    Calls Try.prog 23 #[.slice a rs.length c, .slice b rs.length d] w fun e w' => e = .returned (.bool true) ∧ Keep w w' := by
  go_enter Try.func23, Try.ntmps23
  go_wp2_with fail
  go_loopw [5] (fun i wr => ∃ k : Nat, k ≤ rs.length ∧ i = .int .i64 k ∧ Keep w wr) (fun i _ => rs.length - (intOf i).toNat)
  case atStart => exact ⟨0, by omega, rfl, Keep.refl w⟩
  case round =>
    obtain ⟨k, hk, rfl, hK⟩ := hrel
    by_cases hlt : k < rs.length
    · obtain ⟨b1, o1, rfl, _, ⟨c0, c1, c2, c3, c4⟩⟩ := (h1.keep hK).at_ hlt
      obtain ⟨b2, o2, rfl, _, ⟨e0, e1, e2, e3, e4⟩⟩ := (h2.keep hK).at_ hlt
      generalize qS (rs.getD k p0) = x0 at c0 e0
      generalize qT (rs.getD k p0) = x1 at c1 e1
      generalize qF (rs.getD k p0) = x2 at c2 e2
      generalize qN (rs.getD k p0) = x3 at c3 e3
      generalize qG (rs.getD k p0) = x4 at c4 e4
      have k0 : (0 : Int) ≤ (k : Int) := by omega
      have k1 : (k : Int) < (rs.length : Int) := by omega
      go_wp2_with fail
      go_region_held3 (fun w' => w'.cell? ⟨b1, o1 + k * 5, none⟩ = some (.int .i64 x0) ∧ w'.cell? ⟨b1, o1 + k * 5 + 1, none⟩ = some (.int .i64 x1) ∧ w'.cell? ⟨b1, o1 + k * 5 + 2, none⟩ = some (.int .i64 x2) ∧ w'.cell? ⟨b1, o1 + k * 5 + 3, none⟩ = some (.int .i64 x3) ∧ w'.cell? ⟨b1, o1 + k * 5 + 4, none⟩ = some (.int .i64 x4) ∧
          w'.cell? ⟨b2, o2 + k * 5, none⟩ = some (.int .i64 x0) ∧ w'.cell? ⟨b2, o2 + k * 5 + 1, none⟩ = some (.int .i64 x1) ∧ w'.cell? ⟨b2, o2 + k * 5 + 2, none⟩ = some (.int .i64 x2) ∧ w'.cell? ⟨b2, o2 + k * 5 + 3, none⟩ = some (.int .i64 x3) ∧ w'.cell? ⟨b2, o2 + k * 5 + 4, none⟩ = some (.int .i64 x4)) (go_keep)
        ((go_at_call 66; refine (eqPro_same x0 x1 x2 x3 x4 _).mono ?_; rintro e w1 ⟨rfl, hk1⟩; have kk := ((Keep.refl wr).drew).trans hk1; have f0 := kk.cell c0; have f1 := kk.cell c1; have f2 := kk.cell c2; have f3 := kk.cell c3; have f4 := kk.cell c4; have g0 := kk.cell e0; have g1 := kk.cell e1; have g2 := kk.cell e2; have g3 := kk.cell e3; have g4 := kk.cell e4))
      have hK2 := hK.trans kk
      go_wp2
      go_roundw
      case rel => exact ⟨k + 1, by omega, by go_num, hK2⟩
      case measure => simp [intOf]; omega
    · go_wp2
      go_ret
      exact ⟨rfl, hK⟩
theorem Only.wrP {B : Nat} {w w' : World} (h : Only B w w') {g : Nat} {ys : List R5} (hy : WrP w g ys) (hne : g ≠ B) : WrP w' g ys := by
  intro j hj
  obtain ⟨h1, h2⟩ := hy j hj
  have hb := World.block_lt_of_cell? w _ h1.s
  exact ⟨⟨(h.cell g _ hb hne).trans h1.s, (h.cell g _ hb hne).trans h1.d, (h.cell g _ hb hne).trans h1.k, (h.cell g _ hb hne).trans h1.v, (h.cell g _ hb hne).trans h1.g⟩,
    ⟨(h.frozen g _ hb hne).trans h2.f0, (h.frozen g _ hb hne).trans h2.f1, (h.frozen g _ hb hne).trans h2.f2, (h.frozen g _ hb hne).trans h2.f3, (h.frozen g _ hb hne).trans h2.f4⟩⟩
theorem Only.ps {B : Nat} {w w' : World} (h : Only B w w') {a : Option Addr} {ys : List R5} (hy : Ps w a ys) (hne : ∀ b o, a = some ⟨b, o, none⟩ → b ≠ B) : Ps w' a ys := by
  rcases hy with hy | ⟨b, off, ha, hb, hc⟩
  · exact .inl hy
  · refine .inr ⟨b, off, ha, Nat.lt_of_lt_of_le hb h.size, fun i hi => ?_⟩
    have h1 := hc i hi
    have hn := hne b off ha
    exact ⟨(h.cell b _ hb hn).trans h1.s, (h.cell b _ hb hn).trans h1.d, (h.cell b _ hb hn).trans h1.k, (h.cell b _ hb hn).trans h1.v, (h.cell b _ hb hn).trans h1.g⟩
def mk5 (i : Nat) : R5 := (1 + 5 * (i : Int), 1 + 5 * (i : Int) + 1, 1 + 5 * (i : Int) + 1 + 1, 1 + 5 * (i : Int) + 1 + 1 + 1, 1 + 5 * (i : Int) + 1 + 1 + 1 + 1)
def MkP (ys : List R5) : Prop := ∀ i, i < ys.length → ys.getD i p0 = mk5 i

set_option maxHeartbeats 1000000 in
theorem markP (g c : Nat) (rs : List R5) (w : World) (h : WrP w g rs) (hm : rs.length ≤ 1048576) :
    Calls Try.prog 25 #[.slice (some ⟨g, 0, none⟩) rs.length c, .int .i64 1] w fun e w' => e = .returned (.int .i64 (1 + 5 * (rs.length : Int))) ∧ Only g w w' ∧ ∃ ys, ys.length = rs.length ∧ WrP w' g ys ∧ MkP ys := by
  go_enter Try.func25, Try.ntmps25
  go_wp2_with fail
  go_loopw [1, 5] (fun q i wr => ∃ (k : Nat) (ys : List R5), k ≤ rs.length ∧ i = .int .i64 k ∧ q = .int .i64 (1 + 5 * (k : Int)) ∧ Hid (ys.length = rs.length ∧ WrP wr g ys ∧ ∀ i, i < k → ys.getD i p0 = mk5 i) ∧ Only g w wr) (fun _ i _ => rs.length - (intOf i).toNat)
  case atStart => exact ⟨0, rs, by omega, rfl, rfl, Lib.hid ⟨rfl, h, fun i hi => by omega⟩, Only.refl g w⟩
  case round =>
    obtain ⟨k, ys, hk, rfl, rfl, HW, hO⟩ := hrel
    by_cases hlt : k < rs.length
    · obtain ⟨⟨x0, x1, x2, x3, x4⟩, ⟨y0, y1, y2, y3, y4⟩⟩ := HW.out.2.1 k (by have := HW.out.1; omega)
      have HW2 : Hid ((ys.set k (mk5 k)).length = rs.length ∧ WrP (put5 wr g (k * 5) (mk5 k)) g (ys.set k (mk5 k)) ∧ ∀ i, i < k + 1 → (ys.set k (mk5 k)).getD i p0 = mk5 i) := Lib.hid (by
        obtain ⟨l, W, m⟩ := HW.out
        refine ⟨by rw [List.length_set]; exact l, W.set (by omega) _, fun i hi => ?_⟩
        by_cases e : i = k
        · subst e; simp [List.getD_eq_getElem?_getD, show i < ys.length by omega]
        · have e2 : k ≠ i := fun h => e h.symm
          have := m i (by omega)
          rw [← this]
          simp [List.getD_eq_getElem?_getD, e2])
      have HO := Lib.hid (((((hO.put1 (k * 5) (.int .i64 (qS (mk5 k)))).put1 (k * 5 + 1) (.int .i64 (qT (mk5 k)))).put1 (k * 5 + 2) (.int .i64 (qF (mk5 k)))).put1 (k * 5 + 3) (.int .i64 (qN (mk5 k)))).put1 (k * 5 + 4) (.int .i64 (qG (mk5 k))))
      go_wp2
      go_roundw
      case rel => exact ⟨k + 1, ys.set k (mk5 k), by omega, by go_num, by congr 1, HW2, HO.out⟩
      case measure => simp [intOf]; omega
    · obtain rfl : k = rs.length := by omega
      go_wp2
      go_ret
      exact ⟨rfl, hO, ys, HW.out.1, HW.out.2.1, fun i hi => HW.out.2.2 i (by have := HW.out.1; omega)⟩
end Go.Proofs.Ytkiibklenpncpaa
