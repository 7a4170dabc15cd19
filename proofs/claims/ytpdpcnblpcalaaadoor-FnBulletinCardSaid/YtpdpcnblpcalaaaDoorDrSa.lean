/- How the laws' stores are drawn; two stores held against each other. -/
import Derived.Test.YtpdpcnblpcalaaaDoorDrSt
import Derived.Deep.QuietTactic
import Derived.BigQuiet
namespace Go.Proofs.YtpdpcnblpcalaaaDoor
open Go.RowKit
set_option linter.unusedVariables false

set_option maxRecDepth 100000 in
set_option maxHeartbeats 1000000 in
theorem sR_same (a b : Option Addr) (c d : Nat) (rs : List R4) (w : World) (h1 : Rs w a rs) (h2 : Rs w b rs) (hm : rs.length ≤ 1048576) :
    Calls Tryd.prog 13 #[.slice a rs.length c, .slice b rs.length d] w fun e w' => e = .returned (.bool true) ∧ Keep w w' := by
  go_enter Tryd.func13, Tryd.ntmps13
  go_wp2_with fail
  go_loopw [5] (fun i wr => ∃ k : Nat, k ≤ rs.length ∧ i = .int .i64 k ∧ Keep w wr) (fun i _ => rs.length - (intOf i).toNat)
  case atStart => exact ⟨0, by omega, rfl, Keep.refl w⟩
  case round =>
    obtain ⟨k, hk, rfl, hK⟩ := hrel
    by_cases hlt : k < rs.length
    · obtain ⟨b1, o1, rfl, hb1, ⟨c0, c1, c2, c3⟩⟩ := (h1.keep hK).at_ hlt
      obtain ⟨b2, o2, rfl, hb2, ⟨d0, d1, d2, d3⟩⟩ := (h2.keep hK).at_ hlt
      generalize rS (rs.getD k r0) = x0 at c0 d0
      generalize rD (rs.getD k r0) = x1 at c1 d1
      generalize rK (rs.getD k r0) = x2 at c2 d2
      generalize rV (rs.getD k r0) = x3 at c3 d3
      go_wp2_with fail
      go_quiet (fail)
      go_wp2
      go_roundw
      case rel => exact ⟨k + 1, by omega, by go_num, hK.drewN _⟩
      case measure => simp [intOf]; omega
    · obtain rfl : k = rs.length := by omega
      go_wp2
      go_ret
      exact ⟨rfl, hK⟩
end Go.Proofs.YtpdpcnblpcalaaaDoor
