/- The laws' own copies of slices of reports, and two slices held against each other. -/
import Derived.Test.YtamdfdbhkmgflaaRs
import Derived.Test.YtamdfdbhkmgflaaRep
import Derived.Test.YtamdfdbhkmgflaaTi
import Derived.LoopTactic
import Derived.Deep.RegionHeld3
import Derived.Laws.MakeOwn
import Derived.Outline
namespace Go.Proofs.Ytamdfdbhkmgflaa
open Go.RowKit
set_option linter.unusedVariables false

/-- Four cells that may be written. -/
structure Fr4 (w : World) (b o : Nat) : Prop where
  f0 : w.frozen? ⟨b, o, none⟩ = false
  f1 : w.frozen? ⟨b, o + 1, none⟩ = false
  f2 : w.frozen? ⟨b, o + 2, none⟩ = false
  f3 : w.frozen? ⟨b, o + 3, none⟩ = false
/-- Block g holds the reports ys from its beginning on, and may be written. -/
def WrR (w : World) (g : Nat) (ys : List R4) : Prop := ∀ j, j < ys.length → At4 w g (j * 4) (ys.getD j r0) ∧ Fr4 w g (j * 4)
theorem WrR.keep {w w' : World} {g : Nat} {ys : List R4} (h : WrR w g ys) (k : Keep w w') : WrR w' g ys :=
  fun j hj => ⟨(h j hj).1.keep k, ⟨k.still (h j hj).1.s (h j hj).2.f0, k.still (h j hj).1.d (h j hj).2.f1, k.still (h j hj).1.k (h j hj).2.f2, k.still (h j hj).1.v (h j hj).2.f3⟩⟩
theorem WrR.rs {w : World} {g : Nat} {ys : List R4} (h : WrR w g ys) : Rs w (some ⟨g, 0, none⟩) ys := by
  by_cases h0 : ys = []
  · exact .inl h0
  · have hp : 0 < ys.length := List.length_pos_iff.2 h0
    exact .inr ⟨g, 0, rfl, World.block_lt_of_cell? w _ (h 0 hp).1.s, fun i hi => by rw [Nat.zero_add]; exact (h i hi).1⟩
/-- A report stored in four cells. -/
def put4 (w : World) (b o : Nat) (r : R4) : World := (((w.setCell ⟨b, o, none⟩ (.int .i64 (rS r))).setCell ⟨b, o + 1, none⟩ (.int .i64 (rD r))).setCell ⟨b, o + 2, none⟩ (.int .i64 (rK r))).setCell ⟨b, o + 3, none⟩ (.int .i64 (rV r))
theorem put4_far {w : World} {b o : Nat} {r : R4} {b' i : Nat} (h : b' ≠ b ∨ i < o ∨ o + 3 < i) : (put4 w b o r).cell? ⟨b', i, none⟩ = w.cell? ⟨b', i, none⟩ := by
  unfold put4
  rw [World.cell?_setCell_other _ _ _ _ (by intro e; simp only [Addr.mk.injEq] at e; omega), World.cell?_setCell_other _ _ _ _ (by intro e; simp only [Addr.mk.injEq] at e; omega),
    World.cell?_setCell_other _ _ _ _ (by intro e; simp only [Addr.mk.injEq] at e; omega), World.cell?_setCell_other _ _ _ _ (by intro e; simp only [Addr.mk.injEq] at e; omega)]
theorem put4_at {w : World} {b o : Nat} {r q : R4} (h : At4 w b o q) : At4 (put4 w b o r) b o r := by
  unfold put4
  refine ⟨?_, ?_, ?_, ?_⟩
  · rw [World.cell?_setCell_other _ _ _ _ (by simp), World.cell?_setCell_other _ _ _ _ (by simp), World.cell?_setCell_other _ _ _ _ (by simp)]
    exact World.cell?_setCell_same _ _ _ h.s
  · rw [World.cell?_setCell_other _ _ _ _ (by simp), World.cell?_setCell_other _ _ _ _ (by simp)]
    exact World.cell?_setCell_same _ _ _ ((World.cell?_setCell_other _ _ _ _ (by simp)).trans h.d)
  · rw [World.cell?_setCell_other _ _ _ _ (by simp)]
    exact World.cell?_setCell_same _ _ _ ((World.cell?_setCell_other _ _ _ _ (by simp)).trans ((World.cell?_setCell_other _ _ _ _ (by simp)).trans h.k))
  · exact World.cell?_setCell_same _ _ _ ((World.cell?_setCell_other _ _ _ _ (by simp)).trans ((World.cell?_setCell_other _ _ _ _ (by simp)).trans ((World.cell?_setCell_other _ _ _ _ (by simp)).trans h.v)))
theorem put4_frozen (w : World) (b o : Nat) (r : R4) (a : Addr) : (put4 w b o r).frozen? a = w.frozen? a := by
  unfold put4; rw [World.frozen?_setCell, World.frozen?_setCell, World.frozen?_setCell, World.frozen?_setCell]
theorem put4_keep {a w : World} (h : Keep a w) {b o : Nat} {r : R4} (hb : a.heap.size ≤ b) : Keep a (put4 w b o r) :=
  (((h.setCell hb _).setCell hb _).setCell hb _).setCell hb _
theorem WrR.set {w : World} {g : Nat} {ys : List R4} (h : WrR w g ys) {k : Nat} (hk : k < ys.length) (r : R4) : WrR (put4 w g (k * 4) r) g (ys.set k r) := by
  intro j hj
  rw [List.length_set] at hj
  obtain ⟨h1, h2⟩ := h j hj
  refine ⟨?_, ⟨?_, ?_, ?_, ?_⟩⟩
  · by_cases e : j = k
    · subst e
      have e2 : (ys.set j r).getD j r0 = r := by simp [List.getD_eq_getElem?_getD, hj]
      rw [e2]; exact put4_at h1
    · have e2 : (ys.set k r).getD j r0 = ys.getD j r0 := by
        have : k ≠ j := fun h => e h.symm
        simp [List.getD_eq_getElem?_getD, this]
      rw [e2]
      exact ⟨(put4_far (by omega)).trans h1.s, (put4_far (by omega)).trans h1.d, (put4_far (by omega)).trans h1.k, (put4_far (by omega)).trans h1.v⟩
  all_goals rw [put4_frozen]
  · exact h2.f0
  · exact h2.f1
  · exact h2.f2
  · exact h2.f3
theorem rpart_set (rs : List R4) (k : Nat) (hk : k < rs.length) : (rs.take k ++ List.replicate (rs.length - k) r0).set k (rs.getD k r0) = rs.take (k + 1) ++ List.replicate (rs.length - (k + 1)) r0 := by
  have e : List.replicate (rs.length - k) r0 = r0 :: List.replicate (rs.length - (k + 1)) r0 := by
    rw [← List.replicate_succ]; congr 1; omega
  have hg : rs.getD k r0 = rs[k] := by simp [List.getD_eq_getElem?_getD, hk]
  have hl : (rs.take k).length = k := by rw [List.length_take]; omega
  rw [e, List.set_append_right _ _ (by omega), hl, Nat.sub_self, List.set_cons_zero, hg, List.take_succ_eq_append_getElem hk, List.append_assoc]
  rfl

set_option maxHeartbeats 400000 in
theorem sz_any (a : Option Addr) (len cap : Nat) (w : World) (h : len ≤ 1048576) :
    Calls Try.prog 12 #[.slice a len cap, .int .i64 1048576] w fun e w' => e = .returned (.int .i64 (1048576 - (len : Int))) ∧ w = w' := by
  have d : decide (1048576 - (len : Int) < 0) = false := by simp; omega
  go_enter Try.func12, Try.ntmps12
  go_wp2
  go_ret
  exact ⟨rfl, rfl⟩
set_option maxHeartbeats 400000 in
theorem sz_big (a : Option Addr) (len cap : Nat) (w : World) (h : 1048576 < len) (hm : len ≤ 9223372036854775807) :
    Calls Try.prog 12 #[.slice a len cap, .int .i64 1048576] w fun e w' => e = .returned (.int .i64 (-1)) ∧ w = w' := by
  have d : decide (1048576 - (len : Int) < 0) = true := by simp; omega
  go_enter Try.func12, Try.ntmps12
  go_wp2
  go_ret
  exact ⟨rfl, rfl⟩
theorem infoRep : (Try.prog.info? 31).map (fun i => (i.zero, i.size, i.bytes)) = some (some (.agg #[.int .i64 0, .int .i64 0, .int .i64 0, .int .i64 0]), 4, 32) := by kernel_rfl
theorem run_make_reports (n : Nat) (hn : n ≤ 1048576) (w : World) :
    (Instr.makeSlice 23 (.int .i64 (n : Int)) (.int .i64 (n : Int))).run Try.prog w = .ok (.slice (some ⟨w.heap.size, 0, none⟩) n n) (w.alloc (.cells (madeCells #[.int .i64 0, .int .i64 0, .int .i64 0, .int .i64 0] (n * 4)) 31)) := by
  obtain ⟨i, hi, hz, hs, hb⟩ := info_parts infoRep
  have hr := run_make (P := Try.prog) w 23 31 i _ Try.underlying23 hi hz .i64 .i64 n n (by omega) (by omega) (by rw [hb]; omega) (by omega)
  simp only [Int.toNat_natCast, hs] at hr
  exact hr
theorem made4_at (n j : Nat) (hj : j < n * 4) : (madeCells #[Value.int .i64 0, .int .i64 0, .int .i64 0, .int .i64 0] (n * 4))[j]? = some (.int .i64 0) := by
  unfold madeCells
  have h4 : j % 4 = 0 ∨ j % 4 = 1 ∨ j % 4 = 2 ∨ j % 4 = 3 := by omega
  rcases h4 with h | h | h | h <;> simp [hj, h]
def ToR (rs : List R4) (w : World) (e : Ending) (w' : World) : Prop := ∃ g, w.heap.size ≤ g ∧ e = .returned (.slice (some ⟨g, 0, none⟩) rs.length rs.length) ∧ WrR w' g rs ∧ Keep w w' ∧ g < w'.heap.size

set_option maxHeartbeats 1000000 in
theorem toR_any (a : Option Addr) (cap : Nat) (rs : List R4) (w : World) (h : Rs w a rs) (hm : rs.length ≤ 1048576) :
    Calls Try.prog 13 #[.slice a rs.length cap] w (ToR rs w) := by
  have hmk := fun W => run_make_reports rs.length hm W
  go_enter Try.func13, Try.ntmps13
  go_wp2_with fail
  go_loopw [4] (fun i wr => ∃ k : Nat, k ≤ rs.length ∧ i = .int .i64 k ∧ Hid (WrR wr w.heap.size (rs.take k ++ List.replicate (rs.length - k) r0)) ∧ Keep w wr ∧ w.heap.size < wr.heap.size) (fun i _ => rs.length - (intOf i).toNat)
  case atStart =>
    refine ⟨0, by omega, rfl, Lib.hid ?_, (Keep.refl w).alloc _, by simp⟩
    intro j hj
    have hj' : j < rs.length := by simpa using hj
    have e : (rs.take 0 ++ List.replicate (rs.length - 0) r0).getD j r0 = r0 := by simp [List.getD_eq_getElem?_getD, hj']
    rw [e]
    exact ⟨⟨(World.cell?_alloc_new w _ _ _).trans (made4_at _ _ (by omega)), (World.cell?_alloc_new w _ _ _).trans (made4_at _ _ (by omega)), (World.cell?_alloc_new w _ _ _).trans (made4_at _ _ (by omega)), (World.cell?_alloc_new w _ _ _).trans (made4_at _ _ (by omega))⟩,
      ⟨World.frozen?_alloc_at _ _ _ _ rfl, World.frozen?_alloc_at _ _ _ _ rfl, World.frozen?_alloc_at _ _ _ _ rfl, World.frozen?_alloc_at _ _ _ _ rfl⟩⟩
  case round =>
    obtain ⟨k, hk, rfl, HW, hK, hlr⟩ := hrel
    clear hmk
    by_cases hlt : k < rs.length
    · obtain ⟨b, off, rfl, hb, ⟨c0, c1, c2, c3⟩⟩ := (h.keep hK).at_ hlt
      have hl : (rs.take k ++ List.replicate (rs.length - k) r0).length = rs.length := by simp; omega
      have HP := Lib.hid (rpart_set rs k hlt)
      obtain ⟨q, hq⟩ : ∃ q, rs.getD k r0 = q := ⟨_, rfl⟩
      rw [hq] at c0 c1 c2 c3 HP
      have hsz := hK.size
      go_wp2_with fail
      refine (toRep (rS q) (rD q) (rK q) (rV q) _).mono ?_
      rintro e w1 ⟨rfl, hk1⟩
      have k1 : Keep wr w1 := hk1
      have HW1 := Lib.hid (HW.out.keep k1)
      obtain ⟨⟨x0, x1, x2, x3⟩, ⟨y0, y1, y2, y3⟩⟩ := HW1.out k (by rw [hl]; exact hlt)
      have HW2 := Lib.hid (HW1.out.set (by rw [hl]; exact hlt) q)
      rw [HP.out] at HW2
      have HK2 := Lib.hid (put4_keep (hK.trans k1) (b := w.heap.size) (o := k * 4) (r := q) (Nat.le_refl _))
      have HS2 : Hid (w.heap.size < (put4 w1 w.heap.size (k * 4) q).heap.size) := Lib.hid (by have := k1.size; simp [put4, World.setCell]; omega)
      clear hl hq
      go_wp2
      go_roundw
      case rel => exact ⟨k + 1, by omega, by go_num, HW2, HK2.out, HS2.out⟩
      case measure => simp [intOf]; omega
    · have HW2 : Hid (WrR wr w.heap.size rs) := Lib.hid (by have h1 := HW.out; rw [List.take_of_length_le (by omega), show rs.length - k = 0 by omega] at h1; simpa using h1)
      go_wp2
      go_ret
      exact ⟨w.heap.size, Nat.le_refl _, rfl, HW2.out, hK, hlr⟩
set_option maxHeartbeats 400000 in
theorem eqRep_same (s d t v : Int) (w : World) :
    Calls Try.prog 36 #[.agg #[.int .i64 s, .int .i64 d, .int .i64 t, .int .i64 v], .agg #[.int .i64 s, .int .i64 d, .int .i64 t, .int .i64 v]] w fun e w' => e = .returned (.bool true) ∧ Keep w w' := by
  go_enter Try.func36, Try.ntmps36
  go_wp2
  go_ret
  exact ⟨rfl, ((Keep.refl w).alloc _).alloc _⟩
set_option maxHeartbeats 1000000 in
theorem eqR_same (a b : Option Addr) (c d : Nat) (rs : List R4) (w : World) (h1 : Rs w a rs) (h2 : Rs w b rs) (hm : rs.length ≤ 1048576) :
    Calls Try.prog 15 #[.slice a rs.length c, .slice b rs.length d] w fun e w' => e = .returned (.bool true) ∧ Keep w w' := by
  go_enter Try.func15, Try.ntmps15
  go_wp2_with fail
  go_loopw [5] (fun i wr => ∃ k : Nat, k ≤ rs.length ∧ i = .int .i64 k ∧ Keep w wr) (fun i _ => rs.length - (intOf i).toNat)
  case atStart => exact ⟨0, by omega, rfl, Keep.refl w⟩
  case round =>
    obtain ⟨k, hk, rfl, hK⟩ := hrel
    by_cases hlt : k < rs.length
    · obtain ⟨b1, o1, rfl, _, ⟨c0, c1, c2, c3⟩⟩ := (h1.keep hK).at_ hlt
      obtain ⟨b2, o2, rfl, _, ⟨e0, e1, e2, e3⟩⟩ := (h2.keep hK).at_ hlt
      generalize rS (rs.getD k r0) = x0 at c0 e0
      generalize rD (rs.getD k r0) = x1 at c1 e1
      generalize rK (rs.getD k r0) = x2 at c2 e2
      generalize rV (rs.getD k r0) = x3 at c3 e3
      have k0 : (0 : Int) ≤ (k : Int) := by omega
      have k1 : (k : Int) < (rs.length : Int) := by omega
      go_wp2_with fail
      go_region_held3 (fun w' => w'.cell? ⟨b1, o1 + k * 4, none⟩ = some (.int .i64 x0) ∧ w'.cell? ⟨b1, o1 + k * 4 + 1, none⟩ = some (.int .i64 x1) ∧ w'.cell? ⟨b1, o1 + k * 4 + 2, none⟩ = some (.int .i64 x2) ∧ w'.cell? ⟨b1, o1 + k * 4 + 3, none⟩ = some (.int .i64 x3) ∧
          w'.cell? ⟨b2, o2 + k * 4, none⟩ = some (.int .i64 x0) ∧ w'.cell? ⟨b2, o2 + k * 4 + 1, none⟩ = some (.int .i64 x1) ∧ w'.cell? ⟨b2, o2 + k * 4 + 2, none⟩ = some (.int .i64 x2) ∧ w'.cell? ⟨b2, o2 + k * 4 + 3, none⟩ = some (.int .i64 x3)) (go_keep)
        ((go_at_call 36; refine (eqRep_same x0 x1 x2 x3 _).mono ?_; rintro e w1 ⟨rfl, hk1⟩; have kk := ((Keep.refl wr).drew).trans hk1; have f0 := kk.cell c0; have f1 := kk.cell c1; have f2 := kk.cell c2; have f3 := kk.cell c3; have g0 := kk.cell e0; have g1 := kk.cell e1; have g2 := kk.cell e2; have g3 := kk.cell e3))
      have hK2 := hK.trans kk
      go_wp2
      go_roundw
      case rel => exact ⟨k + 1, by omega, by go_num, hK2⟩
      case measure => simp [intOf]; omega
    · go_wp2
      go_ret
      exact ⟨rfl, hK⟩
end Go.Proofs.Ytamdfdbhkmgflaa
