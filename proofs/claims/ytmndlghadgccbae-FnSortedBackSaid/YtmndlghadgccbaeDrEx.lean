/- How the series of extremes are drawn. -/
import Derived.Test.YtmndlghadgccbaeDrSq
namespace Go.Proofs.Ytmndlghadgccbae
open Go.RowKit
set_option linter.unusedVariables false

def DrewAb (w : World) (e : Ending) (w' : World) : Prop :=
  ∃ (a : Option Addr) (c : Nat) (zs : List Int) (lv : Int), e = .returned (.tuple #[.slice a zs.length c, .int .i64 lv]) ∧ zs.length ≤ 13 ∧ zs.length ≤ c ∧ Btw (-10000) 12000 zs ∧ Ls w' a zs ∧ (0 ≤ lv ∧ lv < 120) ∧ Keep w w'
set_option maxHeartbeats 1000000 in
theorem drawAboveOf (a0 : Option Addr) (len cap : Nat) (w : World) (ha : CodeArg w a0 len cap) :
    Calls Try.prog 26 #[.slice a0 len cap] w (DrewAb w) := by
  go_enter Try.func26, Try.ntmps26
  go_wp2_with fail
  refine (open_any a0 len cap _ ha).mono ?_
  rintro e w1 ⟨rfl, hr1, hb, hs⟩
  have hb : Keep w w1 := hb
  go_wp2_with fail
  refine (drawSome _ 0 _ (by omega) hr1).mono ?_
  rintro e w2 ⟨n, q, rfl, hn, hq, hr2, ho2⟩
  go_wp2_with fail
  refine (drawSeries _ q n _ (by omega) hn hr2).mono ?_
  rintro e w3 ⟨v, zs, q3, rfl, hl, hB, hO, hq3, hr3, ho3⟩
  obtain ⟨a, c, rfl, hc, hL⟩ := hO.lsn hr2.lt
  have HL := Lib.hid (show zs.length ≤ 13 by omega)
  clear hl hO
  go_wp2_with fail
  refine (pick_any _ q3 120 _ (by omega) (by omega) hr3).mono ?_
  rintro e w4 ⟨x, rfl, x0, x1, hr4, ho4, hs4⟩
  have hk : Keep w w4 := Only.keep ((ho2.trans ho3).trans ho4) hb (Nat.le_refl _)
  have hL4 := hL.onlyo ho4
  go_wp2
  go_ret2
  exact ⟨a, c, zs, x, rfl, HL.out, hc, hB, hL4.1, ⟨x0, x1⟩, hk⟩
set_option maxHeartbeats 1000000 in
theorem drawSpellOf (a0 : Option Addr) (len cap : Nat) (w : World) (ha : CodeArg w a0 len cap) :
    Calls Try.prog 29 #[.slice a0 len cap] w (DrewAb w) := by
  go_enter Try.func29, Try.ntmps29
  go_wp2_with fail
  refine (drawAboveOf a0 len cap _ ha).mono ?_
  rintro e w1 ⟨a, c, zs, lv, rfl, hl, hc, hB, hL, hlv, hk⟩
  go_wp2
  go_ret2
  exact ⟨a, c, zs, lv, rfl, hl, hc, hB, hL, hlv, hk⟩
theorem drawSortedOf (a0 : Option Addr) (len cap : Nat) (w : World) (ha : CodeArg w a0 len cap) :
    Calls Try.prog 12 #[.slice a0 len cap] w (DrewSq w) := by
  go_enter Try.func12, Try.ntmps12
  go_wp2_with fail
  refine (drawSeriesValid a0 len cap _ ha).mono ?_
  rintro e w1 ⟨a, c, zs, rfl, hl, hc, hB, hL, hk⟩
  go_wp2
  go_ret
  exact ⟨a, c, zs, rfl, hl, hc, hB, hL, hk⟩
end Go.Proofs.Ytmndlghadgccbae
