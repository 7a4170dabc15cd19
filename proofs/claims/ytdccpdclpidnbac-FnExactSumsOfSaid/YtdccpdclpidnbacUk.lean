/- Marks on ranges. -/
import Derived.Test.YtdccpdclpidnbacUw
import Derived.LoopTactic
namespace Go.Proofs.Ytdccpdclpidnbac
open Go.RowKit
set_option linter.unusedVariables false

def mkU (i : Nat) : R2 := (1 + 2 * (i : Int), 1 + 2 * (i : Int) + 1)
def MkU (ys : List R2) : Prop := ∀ i, i < ys.length → ys.getD i u0 = mkU i
set_option maxHeartbeats 1000000 in
theorem markRU (g c : Nat) (rs : List R2) (w : World) (h : WrU w g rs) (hm : rs.length ≤ 1048576) :
    Calls Try.prog 42 #[.slice (some ⟨g, 0, none⟩) rs.length c, .int .i64 1] w fun e w' => e = .returned (.int .i64 (1 + 2 * (rs.length : Int))) ∧ Only g w w' ∧ ∃ ys, ys.length = rs.length ∧ WrU w' g ys ∧ MkU ys := by
  go_enter Try.func42, Try.ntmps42
  go_wp2_with fail
  go_loopw [1, 5] (fun q i wr => ∃ (k : Nat) (ys : List R2), k ≤ rs.length ∧ i = .int .i64 k ∧ q = .int .i64 (1 + 2 * (k : Int)) ∧ Hid (ys.length = rs.length ∧ WrU wr g ys ∧ ∀ i, i < k → ys.getD i u0 = mkU i) ∧ Only g w wr) (fun _ i _ => rs.length - (intOf i).toNat)
  case atStart => exact ⟨0, rs, by omega, rfl, rfl, Lib.hid ⟨rfl, h, fun i hi => by omega⟩, Only.refl g w⟩
  case round =>
    obtain ⟨k, ys, hk, rfl, rfl, HW, hO⟩ := hrel
    by_cases hlt : k < rs.length
    · obtain ⟨⟨x0, x1⟩, ⟨y0, y1⟩⟩ := HW.out.2.1 k (by have := HW.out.1; omega)
      have HW2 : Hid ((ys.set k (mkU k)).length = rs.length ∧ WrU (put2 wr g (k * 2) (mkU k)) g (ys.set k (mkU k)) ∧ ∀ i, i < k + 1 → (ys.set k (mkU k)).getD i u0 = mkU i) := Lib.hid (by
        obtain ⟨l, W, m⟩ := HW.out
        refine ⟨by rw [List.length_set]; exact l, W.set (by omega) _, fun i hi => ?_⟩
        by_cases e : i = k
        · subst e; simp [List.getD_eq_getElem?_getD, show i < ys.length by omega]
        · have e2 : k ≠ i := fun h => e h.symm
          have := m i (by omega)
          rw [← this]
          simp [List.getD_eq_getElem?_getD, e2])
      have HO := Lib.hid ((hO.put1 (k * 2) (.int .i64 (uL (mkU k)))).put1 (k * 2 + 1) (.int .i64 (uH (mkU k))))
      go_wp2
      go_roundw
      case rel => exact ⟨k + 1, ys.set k (mkU k), by omega, by go_num, by congr 1, HW2, HO.out⟩
      case measure => simp [intOf]; omega
    · obtain rfl : k = rs.length := by omega
      go_wp2
      go_ret
      exact ⟨rfl, hO, ys, HW.out.1, HW.out.2.1, fun i hi => HW.out.2.2 i (by have := HW.out.1; omega)⟩
set_option maxHeartbeats 1000000 in
theorem heldRU (a : Option Addr) (c : Nat) (ys : List R2) (w : World) (h : Rr w a ys) (hk' : MkU ys) (hm : ys.length ≤ 1048576) :
    Calls Try.prog 43 #[.slice a ys.length c, .int .i64 1] w fun e w' => e = .returned (.int .i64 (1 + 2 * (ys.length : Int))) ∧ w = w' := by
  have HM := Lib.hid hk'
  clear hk'
  go_enter Try.func43, Try.ntmps43
  go_wp2_with fail
  go_loop [1, 5] (fun q i => ∃ k : Nat, k ≤ ys.length ∧ i = .int .i64 k ∧ q = .int .i64 (1 + 2 * (k : Int))) (fun _ i => ys.length - (intOf i).toNat)
  case atStart => exact ⟨0, by omega, rfl, rfl⟩
  case round =>
    obtain ⟨k, hk, rfl, rfl⟩ := hrel
    by_cases hlt : k < ys.length
    · obtain ⟨b, off, rfl, _, hc⟩ := h.at_ hlt
      rw [HM.out k hlt] at hc
      obtain ⟨c0, c1⟩ := hc
      simp only [uL, uH, mkU] at c0 c1
      go_wp2
      go_round
      case rel => exact ⟨k + 1, by omega, by go_num, by congr 1⟩
      case measure => simp [intOf]; omega
    · obtain rfl : k = ys.length := by omega
      go_wp2
      go_ret
      exact ⟨rfl, rfl⟩
set_option maxHeartbeats 400000 in
theorem markRU0 (a : Option Addr) (c : Nat) (w : World) :
    Calls Try.prog 42 #[.slice a 0 c, .int .i64 1] w fun e w' => e = .returned (.int .i64 1) ∧ w = w' := by
  go_enter Try.func42, Try.ntmps42
  go_wp2_with fail
  go_loop [1, 5] (fun q i => i = .int .i64 0 ∧ q = .int .i64 1) (fun _ i => 0)
  case atStart => exact ⟨rfl, rfl⟩
  case round =>
    obtain ⟨rfl, rfl⟩ := hrel
    go_wp2
    go_ret
    exact ⟨rfl, rfl⟩
/-- Marks on fresh reports. -/
theorem markFU (a : Option Addr) (c : Nat) (rs : List R2) (w0 w : World) (h : FrU w0 w a rs) (hm : rs.length ≤ 1048576) :
    Calls Try.prog 42 #[.slice a rs.length c, .int .i64 1] w fun e w' => e = .returned (.int .i64 (1 + 2 * (rs.length : Int))) ∧ (w0.heap.size ≤ w.heap.size → Below w0.heap.size w w') ∧ ∃ ys, ys.length = rs.length ∧ Rr w' a ys ∧ MkU ys := by
  rcases h with rfl | ⟨g, rfl, hg, hl, h⟩
  · refine (markRU0 a c w).mono fun e w' ⟨he, hw⟩ => ?_
    subst hw
    exact ⟨he, fun _ => Below.refl _ _, [], rfl, .inl rfl, fun i hi => by simp at hi⟩
  · refine (markRU g c rs w h hm).mono fun e w' ⟨he, ho, ys, hy, hw, hk⟩ => ⟨he, fun hs => ho.below hg hs, ys, hy, hw.rr, hk⟩
end Go.Proofs.Ytdccpdclpidnbac
