/- How the arguments of CutsBest are drawn. -/
import Derived.Test.YtpgdbhafdnfhcaaDrCu
namespace Go.Proofs.Ytpgdbhafdnfhcaa
open Go.RowKit
set_option linter.unusedVariables false

theorem res2bb {fn : Func} {t u : Tmp} (h : fn.results = #[.tmp t, .tmp u]) (tmps : Array Value) (P : Program) (w : World) :
    (results fn tmps).run P w = .ok (.tuple #[tmps.getD t undef, tmps.getD u undef]) w := by
  simp [results, h]
set_option maxRecDepth 100000 in
set_option maxHeartbeats 1000000 in
theorem drawCutsBest (a0 : Option Addr) (len cap : Nat) (w : World) (ha : CodeArg w a0 len cap) :
    Calls Try.prog 31 #[.slice a0 len cap] w fun e w' => ∃ (a : Option Addr) (c : Nat) (zs : List Int) (x : Int), e = .returned (.tuple #[.slice a zs.length c, .int .i64 x]) ∧ (zs.length ≤ 11 ∧ zs.length ≤ c) ∧ Ls w' a zs ∧ (-1 ≤ x ∧ x ≤ 10000) ∧ Keep w w' := by
  go_enter Try.func31, Try.ntmps31
  go_wp2_with fail
  refine (open_any a0 len cap _ ha).mono ?_
  rintro e w1 ⟨rfl, hr1, hb, hs⟩
  have hb : Keep w w1 := hb
  go_wp2_with fail
  refine (drawFull _ 0 _ (by omega) hr1).mono ?_
  rintro e w2 ⟨a, c, zs, q, rfl, hl, hc, hB, hL, hq, hr2, ho2⟩
  go_wp2_with fail
  refine (drawPrice _ q _ (by omega) hr2).mono ?_
  rintro e w4 ⟨x, q4, rfl, hx, hq4, hr4, ho4⟩
  have hk : Keep w w4 := Only.keep (ho2.trans ho4) hb (Nat.le_refl _)
  have hA := (hL.onlyo ho4).1
  go_wp2
  try simp only [Exit.inBlock, Exit.then]
  refine bodyPost_ret (res2bb rfl _ _ _) rfl ?_
  exact ⟨a, c, zs, x, rfl, ⟨hl, hc⟩, hA, hx, hk⟩
end Go.Proofs.Ytpgdbhafdnfhcaa
