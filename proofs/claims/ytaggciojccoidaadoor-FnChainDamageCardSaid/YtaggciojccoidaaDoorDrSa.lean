/- How the laws' stores are drawn; two stores held against each other. -/
import Derived.Test.YtaggciojccoidaaDoorDrSt
import Derived.Deep.QuietTactic
import Derived.BigQuiet
namespace Go.Proofs.YtaggciojccoidaaDoor
open Go.RowKit
set_option linter.unusedVariables false

set_option maxRecDepth 100000 in
set_option maxHeartbeats 1000000 in
theorem sI_same (a b : Option Addr) (c d : Nat) (zs : List Int) (w : World) (h1 : Ls w a zs) (h2 : Ls w b zs) (hm : zs.length ≤ 1048576) :
    Calls Tryd.prog 12 #[.slice a zs.length c, .slice b zs.length d] w fun e w' => e = .returned (.bool true) ∧ Keep w w' := by
  go_enter Tryd.func12, Tryd.ntmps12
  go_wp2_with fail
  go_loopw [5] (fun i wr => ∃ k : Nat, k ≤ zs.length ∧ i = .int .i64 k ∧ Keep w wr) (fun i _ => zs.length - (intOf i).toNat)
  case atStart => exact ⟨0, by omega, rfl, Keep.refl w⟩
  case round =>
    obtain ⟨k, hk, rfl, hK⟩ := hrel
    by_cases hlt : k < zs.length
    · obtain ⟨b1, o1, rfl, hb1, c0⟩ := (h1.keep hK).at_ hlt
      obtain ⟨b2, o2, rfl, hb2, d0⟩ := (h2.keep hK).at_ hlt
      generalize zs.getD k 0 = x0 at c0 d0
      go_wp2_with fail
      go_quiet (fail)
      go_wp2
      go_roundw
      case rel => exact ⟨k + 1, by omega, by go_num, hK.drewN _⟩
      case measure => simp [intOf]; omega
    · obtain rfl : k = zs.length := by omega
      go_wp2
      go_ret
      exact ⟨rfl, hK⟩
end Go.Proofs.YtaggciojccoidaaDoor
