/- Marks on sites; what NearestOf leaves, as the exact laws want it. -/
import Derived.Test.YtpgdbhafdnfhcaaNj
import Derived.Test.YtpgdbhafdnfhcaaNl
import Derived.Test.YtpgdbhafdnfhcaaMf
import Derived.LoopTactic
namespace Go.Proofs.Ytpgdbhafdnfhcaa
open Go.RowKit
set_option linter.unusedVariables false

def mk3 (k : Nat) : R3 := (1 + 3 * (k : Int), 1 + 3 * (k : Int) + 1, 1 + 3 * (k : Int) + 1 + 1)
def FrPost (L : List Int) (w : World) (e : Ending) (w' : World) : Prop := ∃ (a : Option Addr) (c : Nat), e = .returned (.slice a L.length c) ∧ Fresh w w' a L ∧ Keep w w'
theorem NPost.fr {L : List Int} {w w' : World} {e : Ending} (h : NPost L w e w') : FrPost L w e w' := by
  obtain ⟨a, c, he, _, hF, k⟩ := h
  exact ⟨a, c, he, hF, k⟩
theorem MadeL.fr {L : List Int} {w w' : World} {e : Ending} (h : MadeL L w e w') : FrPost L w e w' := by
  obtain ⟨g, c, he, hc, hW, hg, hl, k⟩ := h
  exact ⟨some ⟨g, 0, none⟩, c, he, .inr ⟨g, rfl, hg, hl, hW⟩, k⟩
theorem nr_implF (a : Option Addr) (cap : Nat) (ts : List R3) (st many : Int) (w : World) (h : Ss w a ts) (hm : ts.length ≤ 1048576) :
    Calls Try.prog 42 #[.slice a ts.length cap, .int .i64 st, .int .i64 many] w (FrPost (nrL ts st many) w) := (nr_impl a cap ts st many w h hm).mono fun _ _ h => h.fr
theorem nr_specF (a : Option Addr) (cap : Nat) (ts : List R3) (st many : Int) (w : World) (h : Ss w a ts) (hm : ts.length ≤ 1048576) :
    Calls Try.prog 46 #[.slice a ts.length cap, .int .i64 st, .int .i64 many] w (FrPost (nrL ts st many) w) := (nr_spec a cap ts st many w h hm).mono fun _ _ h => h.fr
end Go.Proofs.Ytpgdbhafdnfhcaa
