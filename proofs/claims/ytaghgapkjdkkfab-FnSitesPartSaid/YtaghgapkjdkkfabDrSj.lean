/- What the draws of networks hand out. -/
import Derived.Test.YtaghgapkjdkkfabDrSi
namespace Go.Proofs.Ytaghgapkjdkkfab
open Go.RowKit
set_option linter.unusedVariables false

set_option maxHeartbeats 1000000 in
theorem drawSitesValid (a0 : Option Addr) (len cap : Nat) (w : World) (ha : CodeArg w a0 len cap) :
    Calls Try.prog 33 #[.slice a0 len cap] w fun e w' => ∃ (g c : Nat) (ts : List R3), e = .returned (.slice (some ⟨g, 0, none⟩) ts.length c) ∧ ts.length ≤ 7 ∧ ts.length ≤ c ∧ Ss w' (some ⟨g, 0, none⟩) ts ∧ Keep w w' := by
  go_enter Try.func33, Try.ntmps33
  go_wp2_with fail
  refine (open_any a0 len cap _ ha).mono ?_
  rintro e w1 ⟨rfl, hr1, hb, hs⟩
  have hb : Keep w w1 := hb
  go_wp2_with fail
  refine (drawSites _ 0 _ (by omega) hr1).mono ?_
  rintro e w2 ⟨g, c, ts, q, rfl, hl, hc, hF, hq, hr2, ho2⟩
  have HL := Lib.hid (show ts.length ≤ 7 ∧ ts.length ≤ c from ⟨hl, hc⟩)
  have hk : Keep w w2 := Only.keep ho2 hb (Nat.le_refl _)
  go_wp2
  go_ret
  exact ⟨g, c, ts, rfl, HL.out.1, HL.out.2, hF.ss, hk⟩
end Go.Proofs.Ytaghgapkjdkkfab
