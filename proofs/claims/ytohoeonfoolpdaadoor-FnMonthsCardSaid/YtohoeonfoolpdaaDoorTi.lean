/- The laws' own copies of slices of integers, and two slices held against each other. -/
import Derived.Test.YtohoeonfoolpdaaDoorLs
import Derived.Test.YtohoeonfoolpdaaDoorRv
import Derived.LoopTactic
import Derived.Deep.QuietTactic
import Derived.BigQuiet
import Derived.Deep.OwnRows
import Derived.Laws.MakeOwn
namespace Go.Proofs.YtohoeonfoolpdaaDoor
open Go.RowKit
set_option linter.unusedVariables false

/-- Block g holds the integers ys from its beginning on, and may be written. -/
def Wr (w : World) (g : Nat) (ys : List Int) : Prop := ∀ j, j < ys.length → w.cell? ⟨g, j, none⟩ = some (.int .i64 (ys.getD j 0)) ∧ w.frozen? ⟨g, j, none⟩ = false
theorem Wr.keep {w w' : World} {g : Nat} {ys : List Int} (h : Wr w g ys) (k : Keep w w') : Wr w' g ys :=
  fun j hj => ⟨k.cell (h j hj).1, k.still (h j hj).1 (h j hj).2⟩
theorem Wr.ls {w : World} {g : Nat} {ys : List Int} (h : Wr w g ys) : Ls w (some ⟨g, 0, none⟩) ys := by
  by_cases h0 : ys = []
  · exact .inl h0
  · have hp : 0 < ys.length := List.length_pos_iff.2 h0
    exact .inr ⟨g, 0, rfl, World.block_lt_of_cell? w _ (h 0 hp).1, fun i hi => by rw [Nat.zero_add]; exact (h i hi).1⟩
theorem Wr.set {w : World} {g : Nat} {ys : List Int} (h : Wr w g ys) {k : Nat} (hk : k < ys.length) (v : Int) : Wr (w.setCell ⟨g, k, none⟩ (.int .i64 v)) g (ys.set k v) := by
  intro j hj
  rw [List.length_set] at hj
  rw [World.frozen?_setCell]
  refine ⟨?_, (h j hj).2⟩
  by_cases e : j = k
  · subst e
    rw [World.cell?_setCell_same _ _ _ (h j hj).1]
    simp [List.getD_eq_getElem?_getD, hk]
  · rw [World.cell?_setCell_other _ _ _ _ (by intro h'; simp only [Addr.mk.injEq] at h'; omega), (h j hj).1]
    have : k ≠ j := fun h => e h.symm
    simp [List.getD_eq_getElem?_getD, this]
theorem part_set (zs : List Int) (k : Nat) (hk : k < zs.length) : (zs.take k ++ List.replicate (zs.length - k) 0).set k (zs.getD k 0) = zs.take (k + 1) ++ List.replicate (zs.length - (k + 1)) 0 := by
  have e : List.replicate (zs.length - k) (0 : Int) = 0 :: List.replicate (zs.length - (k + 1)) 0 := by
    rw [← List.replicate_succ]; congr 1; omega
  have hg : zs.getD k 0 = zs[k] := by simp [List.getD_eq_getElem?_getD, hk]
  have hl : (zs.take k).length = k := by rw [List.length_take]; omega
  rw [e, List.set_append_right _ _ (by omega), hl, Nat.sub_self, List.set_cons_zero, hg, List.take_succ_eq_append_getElem hk, List.append_assoc]
  rfl
theorem made_at (n j : Nat) (hj : j < n) : (madeCells #[Value.int .i64 0] n)[j]? = some (.int .i64 0) := by
  rw [← Array.getElem?_toList, toList_madeCells_one]; simp [hj]

theorem infoInt : (Tryd.prog.info? 3).map (fun i => (i.zero, i.size, i.bytes)) = some (some (.int .i64 0), 1, 8) := by kernel_rfl
def ToI (zs : List Int) (w : World) (e : Ending) (w' : World) : Prop := ∃ g, w.heap.size ≤ g ∧ e = .returned (.slice (some ⟨g, 0, none⟩) zs.length zs.length) ∧ Wr w' g zs ∧ Keep w w'

set_option maxHeartbeats 1000000 in
theorem toI_any (a : Option Addr) (cap : Nat) (zs : List Int) (w : World) (h : Ls w a zs) (hm : zs.length ≤ 1048576) :
    Calls Tryd.prog 16 #[.slice a zs.length cap] w (ToI zs w) := by
  have hmk := fun W => run_make_row' (P := Tryd.prog) 23 3 (.int .i64 0) 8 Tryd.underlying23 infoInt rfl .i64 .i64 zs.length (by omega) (by omega) W
  go_enter Tryd.func16, Tryd.ntmps16
  go_wp2_with fail
  go_loopw [4] (fun i wr => ∃ k : Nat, k ≤ zs.length ∧ i = .int .i64 k ∧ Hid (Wr wr w.heap.size (zs.take k ++ List.replicate (zs.length - k) 0)) ∧ Keep w wr) (fun i _ => zs.length - (intOf i).toNat)
  case atStart =>
    refine ⟨0, by omega, rfl, Lib.hid ?_, (Keep.refl w).alloc _⟩
    intro j hj
    have hj' : j < zs.length := by simpa using hj
    refine ⟨(World.cell?_alloc_new w _ _ j).trans ?_, World.frozen?_alloc_at _ _ _ _ rfl⟩
    rw [made_at _ _ hj']
    simp [List.getD_eq_getElem?_getD, hj']
  case round =>
    obtain ⟨k, hk, rfl, HW, hK⟩ := hrel
    clear hmk
    by_cases hlt : k < zs.length
    · obtain ⟨b, off, rfl, hb, hc⟩ := (h.keep hK).at_ hlt
      have hl : (zs.take k ++ List.replicate (zs.length - k) 0).length = zs.length := by simp; omega
      obtain ⟨w1, w2⟩ := HW.out k (by rw [hl]; exact hlt)
      have HW2 := Lib.hid (HW.out.set (by rw [hl]; exact hlt) (zs.getD k 0))
      rw [part_set _ _ hlt] at HW2
      generalize (zs.take k ++ List.replicate (zs.length - k) 0).getD k 0 = y at w1
      generalize zs.getD k 0 = x at hc HW2
      clear hl
      go_wp2
      go_roundw
      case rel => exact ⟨k + 1, by omega, by go_num, HW2, hK.setCell (Nat.le_refl _) _⟩
      case measure => simp [intOf]; omega
    · have HW2 : Hid (Wr wr w.heap.size zs) := Lib.hid (by have h1 := HW.out; rw [List.take_of_length_le (by omega), show zs.length - k = 0 by omega] at h1; simpa using h1)
      go_wp2
      go_ret
      exact ⟨w.heap.size, Nat.le_refl _, rfl, HW2.out, hK⟩
set_option maxHeartbeats 1000000 in
theorem eqI_same (a b : Option Addr) (c d : Nat) (zs : List Int) (w : World) (h1 : Ls w a zs) (h2 : Ls w b zs) (hm : zs.length ≤ 1048576) :
    Calls Tryd.prog 18 #[.slice a zs.length c, .slice b zs.length d] w fun e w' => e = .returned (.bool true) ∧ ∃ n, w' = w.drewN n := by
  go_enter Tryd.func18, Tryd.ntmps18
  go_wp2_with fail
  go_loopw [5] (fun i wr => ∃ (k n : Nat), k ≤ zs.length ∧ i = .int .i64 k ∧ wr = w.drewN n) (fun i _ => zs.length - (intOf i).toNat)
  case atStart => exact ⟨0, 0, by omega, rfl, rfl⟩
  case round =>
    obtain ⟨k, n, hk, rfl, rfl⟩ := hrel
    by_cases hlt : k < zs.length
    · obtain ⟨b1, o1, rfl, _, c1⟩ := h1.at_ hlt
      obtain ⟨b2, o2, rfl, _, c2⟩ := h2.at_ hlt
      generalize zs.getD k 0 = x at c1 c2
      have k0 : (0 : Int) ≤ (k : Int) := by omega
      have k1 : (k : Int) < (zs.length : Int) := by omega
      go_wp2_with fail
      go_quiet (fail)
      go_wp2
      go_roundw
      case rel => exact ⟨k + 1, _, by omega, by go_num, rfl⟩
      case measure => simp [intOf]; omega
    · go_wp2
      go_ret
      exact ⟨rfl, _, rfl⟩
end Go.Proofs.YtohoeonfoolpdaaDoor
