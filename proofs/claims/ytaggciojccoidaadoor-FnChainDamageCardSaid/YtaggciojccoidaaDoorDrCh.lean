/- How the arguments of ChainOf are drawn. -/
import Derived.Test.YtaggciojccoidaaDoorDrSt
import Derived.Test.YtaggciojccoidaaDoorDrSa
namespace Go.Proofs.YtaggciojccoidaaDoor
open Go.RowKit
set_option linter.unusedVariables false

theorem drawChainOf (a : Option Addr) (len cap : Nat) (w : World) (ha : CodeArg w a len cap) :
    Calls Tryd.prog 9 #[.slice a len cap] w fun e w' => ∃ (gg c : Nat) (rs : List R4), e = .returned (.slice (some ⟨gg, 0, none⟩) rs.length c) ∧ rs.length ≤ 40 ∧ rs.length ≤ c ∧ FrR w w' (some ⟨gg, 0, none⟩) rs ∧ Keep w w' := by
  go_enter Tryd.func9, Tryd.ntmps9
  go_wp2_with fail
  refine (open_any a len cap _ ha).mono ?_
  rintro e w1 ⟨rfl, hr1, hb1, hs1⟩
  have k1 : Keep w w1 := hb1
  go_wp2_with fail
  refine (drawStore _ 0 _ (by omega) hr1).mono ?_
  rintro e w2 ⟨gg, c, rs, q, rfl, hl, hcl, hF, hq, hr2, ho2⟩
  go_wp2
  go_ret
  exact ⟨gg, c, rs, rfl, hl, hcl, hF.mono k1.size, Keep.trans' k1 ho2 (Nat.le_refl _)⟩
end Go.Proofs.YtaggciojccoidaaDoor
