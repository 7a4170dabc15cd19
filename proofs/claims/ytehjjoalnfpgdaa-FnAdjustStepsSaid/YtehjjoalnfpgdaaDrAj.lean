/- How the arguments of AdjustSteps and AdjustOf are drawn. -/
import Derived.Test.YtehjjoalnfpgdaaDrCu
namespace Go.Proofs.Ytehjjoalnfpgdaa
open Go.RowKit
set_option linter.unusedVariables false

/-- Values and cuts as they are drawn. -/
def DrewAj (w : World) (e : Ending) (w' : World) : Prop := ∃ (a b : Option Addr) (c d : Nat) (zs cs : List Int), e = .returned (.tuple #[.slice a zs.length c, .slice b cs.length d]) ∧ (zs.length ≤ 11 ∧ zs.length ≤ c) ∧ (cs.length ≤ 13 ∧ cs.length ≤ d) ∧ Ls w' a zs ∧ Ls w' b cs ∧ Keep w w'
theorem res2j {fn : Func} {t u : Tmp} (h : fn.results = #[.tmp t, .tmp u]) (tmps : Array Value) (P : Program) (w : World) :
    (results fn tmps).run P w = .ok (.tuple #[tmps.getD t undef, tmps.getD u undef]) w := by
  simp [results, h]
set_option maxRecDepth 100000 in
set_option maxHeartbeats 1000000 in
theorem drawAdjustSteps (a0 : Option Addr) (len cap : Nat) (w : World) (ha : CodeArg w a0 len cap) :
    Calls Try.prog 20 #[.slice a0 len cap] w (DrewAj w) := by
  go_enter Try.func20, Try.ntmps20
  go_wp2_with fail
  refine (open_any a0 len cap _ ha).mono ?_
  rintro e w1 ⟨rfl, hr1, hb, hs⟩
  have hb : Keep w w1 := hb
  go_wp2_with fail
  refine (drawFull _ 0 _ (by omega) hr1).mono ?_
  rintro e w2 ⟨a, c, zs, q, rfl, hl, hc, hB, hL, hq, hr2, ho2⟩
  go_wp2_with fail
  refine (drawCutsN _ q zs.length _ (by omega) (by omega) (by omega) hr2).mono ?_
  rintro e w3 ⟨b, d, cs, q3, rfl, hl3, hc3, hB3, hL3, hq3, hr3, ho3⟩
  have hk : Keep w w3 := Only.keep (ho2.trans ho3) hb (Nat.le_refl _)
  have hA := (hL.onlyo ho3).1
  have hC := hL3.1
  go_wp2
  try simp only [Exit.inBlock, Exit.then]
  refine bodyPost_ret (res2j rfl _ _ _) rfl ?_
  exact ⟨a, b, c, d, zs, cs, rfl, ⟨hl, hc⟩, ⟨hl3, hc3⟩, hA, hC, hk⟩
set_option maxRecDepth 100000 in
set_option maxHeartbeats 1000000 in
theorem drawAdjustOf (a0 : Option Addr) (len cap : Nat) (w : World) (ha : CodeArg w a0 len cap) :
    Calls Try.prog 13 #[.slice a0 len cap] w (DrewAj w) := by
  go_enter Try.func13, Try.ntmps13
  go_wp2_with fail
  refine (drawAdjustSteps a0 len cap _ ha).mono ?_
  rintro e w1 ⟨a, b, c, d, zs, cs, rfl, h1, h2, h3, h4, h5⟩
  go_wp2
  try simp only [Exit.inBlock, Exit.then]
  refine bodyPost_ret (res2j rfl _ _ _) rfl ?_
  exact ⟨a, b, c, d, zs, cs, rfl, h1, h2, h3, h4, h5⟩
end Go.Proofs.Ytehjjoalnfpgdaa
