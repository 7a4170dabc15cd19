/- How a store and two versions are drawn. -/
import Derived.Test.YtamdfdbhkmgflaaDrVe
import Derived.OwnWalk
namespace Go.Proofs.Ytamdfdbhkmgflaa
open Go.RowKit
set_option linter.unusedVariables false

theorem drawDiffOf (a : Option Addr) (len cap : Nat) (w : World) (ha : CodeArg w a len cap) :
    Calls Try.prog 6 #[.slice a len cap] w fun e w' => ∃ (gg c : Nat) (rs : List R4) (v u : Int), e = .returned (.tuple #[.slice (some ⟨gg, 0, none⟩) rs.length c, .int .i64 v, .int .i64 u]) ∧
      rs.length ≤ 40 ∧ rs.length ≤ c ∧ FrR w w' (some ⟨gg, 0, none⟩) rs ∧ (-50 ≤ v ∧ v ≤ 50) ∧ (-50 ≤ u ∧ u ≤ 50) ∧ Keep w w' := by
  go_enter Try.func6, Try.ntmps6
  go_wp2_with fail
  refine (open_any a len cap _ ha).mono ?_
  rintro e w1 ⟨rfl, hr, hb1, hs⟩
  have k1 : Keep w w1 := hb1
  go_wp2_with fail
  refine (drawStore _ 0 _ (by omega) hr).mono ?_
  rintro e w2 ⟨gg, c, rs, q, rfl, hl, hcl, hF, hq, hr2, ho2⟩
  go_wp2_with fail
  refine (drawVersion _ q rs.length _ (by omega) hl hr2).mono ?_
  rintro e w3 ⟨v, q3, rfl, hn0, hn1, hq3, hr3, ho3⟩
  have hF3 := hF.only ho3 hs
  go_wp2_with fail
  refine (drawVersion _ q3 rs.length _ (by omega) hl hr3).mono ?_
  rintro e w4 ⟨u, q4, rfl, hm0, hm1, hq4, hr4, ho4⟩
  have hF4 := Lib.hid (hF3.only ho4 hs)
  have hO := Lib.hid ((ho2.trans ho3).trans ho4)
  go_wp2
  refine bodyPost_ret (results_tmp3 rfl _ _ _) rfl ?_
  exact ⟨gg, c, rs, v, u, rfl, hl, hcl, hF4.out.mono k1.size, ⟨hn0, hn1⟩, ⟨hm0, hm1⟩, Keep.trans' k1 hO.out (Nat.le_refl _)⟩
end Go.Proofs.Ytamdfdbhkmgflaa
