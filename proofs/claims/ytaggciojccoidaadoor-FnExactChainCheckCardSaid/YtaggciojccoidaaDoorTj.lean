/- The laws' copies of slices of integers, with the bound of the new block; marks from any number on. -/
import Derived.Test.YtaggciojccoidaaDoorTi
import Derived.Test.YtaggciojccoidaaDoorMf
namespace Go.Proofs.YtaggciojccoidaaDoor
open Go.RowKit
set_option linter.unusedVariables false

def ToIL (zs : List Int) (w : World) (e : Ending) (w' : World) : Prop := ∃ g, w.heap.size ≤ g ∧ g < w'.heap.size ∧ e = .returned (.slice (some ⟨g, 0, none⟩) zs.length zs.length) ∧ Wr w' g zs ∧ Keep w w'
set_option maxHeartbeats 1000000 in
theorem toI_lt (a : Option Addr) (cap : Nat) (zs : List Int) (w : World) (h : Ls w a zs) (hm : zs.length ≤ 1048576) :
    Calls Tryd.prog 26 #[.slice a zs.length cap] w (ToIL zs w) := by
  have hmk := fun W => run_make_row' (P := Tryd.prog) 25 3 (.int .i64 0) 8 Tryd.underlying25 infoInt rfl .i64 .i64 zs.length (by omega) (by omega) W
  go_enter Tryd.func26, Tryd.ntmps26
  go_wp2_with fail
  go_loopw [4] (fun i wr => ∃ k : Nat, k ≤ zs.length ∧ i = .int .i64 k ∧ Hid (Wr wr w.heap.size (zs.take k ++ List.replicate (zs.length - k) 0)) ∧ w.heap.size < wr.heap.size ∧ Keep w wr) (fun i _ => zs.length - (intOf i).toNat)
  case atStart =>
    refine ⟨0, by omega, rfl, Lib.hid ?_, by simp, (Keep.refl w).alloc _⟩
    intro j hj
    have hj' : j < zs.length := by simpa using hj
    refine ⟨(World.cell?_alloc_new w _ _ j).trans ?_, World.frozen?_alloc_at _ _ _ _ rfl⟩
    rw [made_at _ _ hj']
    simp [List.getD_eq_getElem?_getD, hj']
  case round =>
    obtain ⟨k, hk, rfl, HW, hlw, hK⟩ := hrel
    clear hmk
    by_cases hlt : k < zs.length
    · obtain ⟨b, off, rfl, hb, hc⟩ := (h.keep hK).at_ hlt
      have hl : (zs.take k ++ List.replicate (zs.length - k) 0).length = zs.length := by simp; omega
      obtain ⟨w1, w2⟩ := HW.out k (by rw [hl]; exact hlt)
      have HW2 := Lib.hid (HW.out.set (by rw [hl]; exact hlt) (zs.getD k 0))
      rw [part_set _ _ hlt] at HW2
      generalize (zs.take k ++ List.replicate (zs.length - k) 0).getD k 0 = y at w1
      generalize zs.getD k 0 = x at hc HW2
      clear hl
      go_wp2
      go_roundw
      case rel => exact ⟨k + 1, by omega, by go_num, HW2, by simpa [World.setCell] using hlw, hK.setCell (Nat.le_refl _) _⟩
      case measure => simp [intOf]; omega
    · have HW2 : Hid (Wr wr w.heap.size zs) := Lib.hid (by have h1 := HW.out; rw [List.take_of_length_le (by omega), show zs.length - k = 0 by omega] at h1; simpa using h1)
      go_wp2
      go_ret
      exact ⟨w.heap.size, Nat.le_refl _, hlw, rfl, HW2.out, hK⟩
set_option maxHeartbeats 1000000 in
theorem markW (g c : Nat) (zs : List Int) (q0 : Int) (w : World) (h : Wr w g zs) (hm : zs.length ≤ 1048576) (h0 : 0 ≤ q0) (h1 : q0 ≤ 4000000000) :
    Calls Tryd.prog 24 #[.slice (some ⟨g, 0, none⟩) zs.length c, .int .i64 q0] w fun e w' => e = .returned (.int .i64 (q0 + (zs.length : Int))) ∧ Only g w w' := by
  go_enter Tryd.func24, Tryd.ntmps24
  go_wp2_with fail
  go_loopw [1, 5] (fun q i wr => ∃ (k : Nat) (ys : List Int), k ≤ zs.length ∧ i = .int .i64 k ∧ q = .int .i64 (q0 + (k : Int)) ∧ Hid (ys.length = zs.length ∧ Wr wr g ys) ∧ Only g w wr) (fun _ i _ => zs.length - (intOf i).toNat)
  case atStart => exact ⟨0, zs, by omega, rfl, by simp, Lib.hid ⟨rfl, h⟩, Only.refl g w⟩
  case round =>
    obtain ⟨k, ys, hk, rfl, rfl, HW, hO⟩ := hrel
    by_cases hlt : k < zs.length
    · obtain ⟨x0, y0⟩ := HW.out.2 k (by have := HW.out.1; omega)
      have HW2 : Hid ((ys.set k (q0 + (k : Int))).length = zs.length ∧ Wr (wr.setCell ⟨g, k, none⟩ (.int .i64 (q0 + (k : Int)))) g (ys.set k (q0 + (k : Int)))) := Lib.hid (by
        obtain ⟨l, W⟩ := HW.out
        exact ⟨by rw [List.length_set]; exact l, W.set (by omega) _⟩)
      have HO := Lib.hid (hO.put1 k (.int .i64 (q0 + (k : Int))))
      go_wp2
      go_roundw
      case rel => exact ⟨k + 1, ys.set k (q0 + (k : Int)), by omega, by go_num, by congr 1; omega, HW2, HO.out⟩
      case measure => simp [intOf]; omega
    · obtain rfl : k = zs.length := by omega
      go_wp2
      go_ret
      exact ⟨rfl, hO⟩
end Go.Proofs.YtaggciojccoidaaDoor
