/- How a text of a report is drawn: it is short, the reader alone turns. -/
import Derived.Test.YtnemdnidlbekbaaGreatDoorDrArg
import Derived.Test.YtnemdnidlbekbaaGreatDoorTxS
import Derived.Deep.RegionWith
namespace Go.Proofs.YtnemdnidlbekbaaGreatDoor
open Go.RowKit Go.Lib
set_option linter.unusedVariables false

theorem Rd.keep {w w' : World} {B p : Nat} (h : Rd w B p) (k : Keep w w') : Rd w' B p := by
  obtain ⟨a, len, cap, h1, h2, c0, c1, f1, hc⟩ := h
  have hz := k.size
  refine ⟨a, len, cap, h1, by omega, k.cell c0, k.cell c1, k.still c1 f1, hc.keep fun b o hb => ?_⟩
  exact Below.cell k (p := ⟨b, o, none⟩) (show b < w.heap.size by omega)
theorem tx_empty (s d k v : Int) : (tx s d k v).toList.isEmpty = !rOk s d k v := by
  rcases Bool.eq_false_or_eq_true (rOk s d k v) with h | h
  · rw [tx_yes h, h, toList_data]
    simp [txt]
  · rw [tx_no h, h, toList_data]; rfl
theorem tx_size {s d k v : Int} (h : rOk s d k v = true) : 1 ≤ (tx s d k v).size ∧ (tx s d k v).size ≤ 24 := by
  have h1 := txt_len h
  have h2 : (tx s d k v).size = (txt s d k v).length := by rw [tx_yes h]; simp [ByteArray.size]
  have h3 : 1 ≤ (txt s d k v).length := by simp [txt]
  omega
set_option maxHeartbeats 1000000 in
theorem of_any (B p b n : Nat) (l : List ByteArray) (w : World) (hp : p ≤ 900000) (hn : l.length = n) (h1 : 1 ≤ n) (h2 : n ≤ 100) (h : Rd w B p) (hb : b ≠ B)
    (hc : ∀ i, i < n → w.cell? ⟨b, i, none⟩ = some (.string (l.getD i ⟨#[]⟩))) :
    Calls Tryz.prog 29 #[.pointer (some ⟨B, 0, none⟩), .slice (some ⟨b, 0, none⟩) n n] w fun e w' => ∃ u, u ∈ l ∧ e = .returned (.string u) ∧ Rd w' B (p + 1) ∧ Only B w w' := by
  have hn1 : (1 : Int) ≤ (n : Int) := by omega
  go_enter Tryz.func29, Tryz.ntmps29
  go_wp2_with fail
  refine (pick_any B p n _ hn1 (by omega) h).mono ?_
  rintro e w1 ⟨z, rfl, z0, z1, hr1, ho, hs⟩
  obtain ⟨j, rfl⟩ := Int.eq_ofNat_of_zero_le z0
  have hj : j < n := by omega
  have c0 := hc j hj
  have hbw : b < w.heap.size := World.block_lt_of_cell? w _ c0
  have c1 : w1.cell? ⟨b, j, none⟩ = some (.string (l.getD j ⟨#[]⟩)) := by rw [ho.cell b j hbw hb]; exact c0
  have hm : l.getD j ⟨#[]⟩ ∈ l := by
    have hjl : j < l.length := by omega
    simp [List.getD, hjl]
  generalize l.getD j ⟨#[]⟩ = u at c1 hm
  clear c0 hc
  go_wp2
  go_ret
  exact ⟨u, hm, rfl, hr1, ho⟩
end Go.Proofs.YtnemdnidlbekbaaGreatDoor
