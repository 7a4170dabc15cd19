/- How the arguments of means, degree days, ranks and running means are drawn: a series and a number. -/
import Derived.Test.YtkiibklenpncpaaDrSq
namespace Go.Proofs.Ytkiibklenpncpaa
open Go.RowKit
set_option linter.unusedVariables false

/-- A drawn series and a number between lo and hi. -/
def DrewSN (lo hi : Int) (w : World) (e : Ending) (w' : World) : Prop :=
  ∃ (a : Option Addr) (c : Nat) (zs : List Int) (x : Int), e = .returned (.tuple #[.slice a zs.length c, .int .i64 x]) ∧ zs.length ≤ 13 ∧ zs.length ≤ c ∧ Btw (-10000) 12000 zs ∧ Ls w' a zs ∧ (lo ≤ x ∧ x ≤ hi) ∧ Keep w w'
theorem drawSumsOf (a0 : Option Addr) (len cap : Nat) (w : World) (ha : CodeArg w a0 len cap) :
    Calls Try.prog 28 #[.slice a0 len cap] w (DrewSq w) := by
  go_enter Try.func28, Try.ntmps28
  go_wp2_with fail
  refine (drawSeriesValid a0 len cap _ ha).mono ?_
  rintro e w1 ⟨a, c, zs, rfl, hl, hc, hB, hL, hk⟩
  go_wp2
  go_ret
  exact ⟨a, c, zs, rfl, hl, hc, hB, hL, hk⟩
end Go.Proofs.Ytkiibklenpncpaa
