/- The laws' own functions over slices of ints: sameInts, added, back, known. -/
import Derived.Test.YtpgdbhafdnfhcaaFgm
import Derived.Test.YtpgdbhafdnfhcaaSe
import Derived.LoopTactic
import Derived.Deep.QuietTactic
import Derived.BigQuiet
namespace Go.Proofs.Ytpgdbhafdnfhcaa
open Go.RowKit
set_option linter.unusedVariables false

theorem infoIntL : (Try.prog.info? 3).map (fun i => (i.zero, i.size, i.bytes)) = some (some (.int .i64 0), 1, 8) := by kernel_rfl
theorem wr_ownL {w : World} {base g n c : Nat} {e : TypeId} {zs : List Int} (h : w.ownsRow base e 1 (.slice (some ⟨g, 0, none⟩) n c) n (zs.map (Value.int .i64))) : (n = zs.length ∧ n ≤ c) ∧ Wr w g zs ∧ base ≤ g ∧ g < w.heap.size := by
  have hl : n = zs.length := by have := h.1; simp at this; omega
  refine ⟨⟨hl, ?_⟩, fun j hj => ⟨?_, World.ownsRow.frozenAt h j⟩, (World.ownsRow.lt h g rfl).1, (World.ownsRow.lt h g rfl).2⟩
  · rcases id h.2 with ⟨hn, _⟩ | ⟨g', cap', cur, hn, _, hc, _⟩
    · cases hn
    · injection hn with _ _ hn; subst hn; omega
  · rw [World.ownsRow.cellAt h j (by omega)]
    simp [hj, List.getD_eq_getElem?_getD]
/-- A slice that a law's function has made. -/
def MadeL (L : List Int) (w : World) (e : Ending) (w' : World) : Prop := ∃ (g c : Nat), e = .returned (.slice (some ⟨g, 0, none⟩) L.length c) ∧ L.length ≤ c ∧ Wr w' g L ∧ w.heap.size ≤ g ∧ g < w'.heap.size ∧ Keep w w'
theorem made_own {w w' : World} {g n c : Nat} {e : TypeId} {L : List Int} (h : w'.ownsRow w.heap.size e 1 (.slice (some ⟨g, 0, none⟩) n c) n (L.map (Value.int .i64))) (k : Keep w w') : MadeL L w (.returned (.slice (some ⟨g, 0, none⟩) n c)) w' := by
  obtain ⟨⟨rfl, hc⟩, h1, h2, h3⟩ := wr_ownL h
  exact ⟨g, c, rfl, hc, h1, h2, h3, k⟩
set_option maxRecDepth 100000 in
set_option maxHeartbeats 1000000 in
theorem sI_eq (a b : Option Addr) (c d : Nat) (zs : List Int) (w : World) (h1 : Ls w a zs) (h2 : Ls w b zs) (hm : zs.length ≤ 1048576) :
    Calls Try.prog 33 #[.slice a zs.length c, .slice b zs.length d] w fun e w' => e = .returned (.bool true) ∧ Keep w w' := by
  go_enter Try.func33, Try.ntmps33
  go_wp2_with fail
  go_loopw [5] (fun i wr => ∃ k : Nat, k ≤ zs.length ∧ i = .int .i64 k ∧ Keep w wr) (fun i _ => zs.length - (intOf i).toNat)
  case atStart => exact ⟨0, by omega, rfl, Keep.refl w⟩
  case round =>
    obtain ⟨k, hk, rfl, hK⟩ := hrel
    by_cases hlt : k < zs.length
    · obtain ⟨b1, o1, rfl, hb1, c0⟩ := (h1.keep hK).at_ hlt
      obtain ⟨b2, o2, rfl, hb2, d0⟩ := (h2.keep hK).at_ hlt
      generalize zs.getD k 0 = x0 at c0 d0
      go_wp2_with fail
      go_quiet (fail)
      go_wp2
      go_roundw
      case rel => exact ⟨k + 1, by omega, by go_num, hK.drewN _⟩
      case measure => simp [intOf]; omega
    · obtain rfl : k = zs.length := by omega
      go_wp2
      go_ret
      exact ⟨rfl, hK⟩
end Go.Proofs.Ytpgdbhafdnfhcaa
