/- How the arguments of means, degree days, ranks and running means are drawn: a series and a number. -/
import Derived.Test.YtdccpdclpidnbabDrSq
namespace Go.Proofs.Ytdccpdclpidnbab
open Go.RowKit
set_option linter.unusedVariables false

/-- A drawn series and a number between lo and hi. -/
def DrewSN (lo hi : Int) (w : World) (e : Ending) (w' : World) : Prop :=
  ∃ (a : Option Addr) (c : Nat) (zs : List Int) (x : Int), e = .returned (.tuple #[.slice a zs.length c, .int .i64 x]) ∧ zs.length ≤ 13 ∧ zs.length ≤ c ∧ Btw (-10000) 12000 zs ∧ Ls w' a zs ∧ (lo ≤ x ∧ x ≤ hi) ∧ Keep w w'
set_option maxRecDepth 100000 in
set_option maxHeartbeats 1000000 in
theorem drawRunningOf (a0 : Option Addr) (len cap : Nat) (w : World) (ha : CodeArg w a0 len cap) :
    Calls Try.prog 26 #[.slice a0 len cap] w (DrewSN 0 13 w) := by
  go_enter Try.func26, Try.ntmps26
  go_wp2_with fail
  refine (open_any a0 len cap _ ha).mono ?_
  rintro e w1 ⟨rfl, hr1, hb, hs⟩
  have hb : Keep w w1 := hb
  go_wp2_with fail
  refine (drawSome _ 0 _ (by omega) hr1).mono ?_
  rintro e w2 ⟨n, q, rfl, hn, hq, hr2, ho2⟩
  go_wp2_with fail
  refine (drawSeries _ q n _ (by omega) hn hr2).mono ?_
  rintro e w3 ⟨v, zs, q3, rfl, hl, hB, hO, hq3, hr3, ho3⟩
  obtain ⟨a, c, rfl, hc, hL⟩ := hO.lsn hr2.lt
  have HL := Lib.hid (show zs.length ≤ 13 by omega)
  clear hl hO
  go_wp2_with fail
  refine (pick_any _ q3 3 _ (by omega) (by omega) hr3).mono ?_
  rintro e w4 ⟨z, rfl, z0, z1, hr4, ho4, hs4⟩
  have hL4 := hL.onlyo ho4
  have ho14 := (ho2.trans ho3).trans ho4
  have hl13 := HL.out
  by_cases hz : 0 < z ∧ 0 < zs.length
  · obtain ⟨hz1, hz2⟩ := hz
    have d1 : decide (0 < z) = true := decide_eq_true hz1
    have d2 : decide ((0 : Int) < (zs.length : Int)) = true := decide_eq_true (by omega)
    obtain ⟨m, hm⟩ : ∃ m : Int, min (zs.length : Int) 4 = m := ⟨_, rfl⟩
    by_cases h4 : (zs.length : Int) ≤ 4
    · go_wp2_with fail
      refine (pick_any _ (q3 + 1) (zs.length : Int) _ (by omega) (by omega) hr4).mono ?_
      rintro e w9 ⟨i, rfl, i0, i1, hr9, ho9, hs9⟩
      have hk : Keep w w9 := Only.keep (ho14.trans ho9) hb (Nat.le_refl _)
      have hL9 := hL4.onlyo ho9
      go_wp2
      go_ret2
      exact ⟨a, c, zs, _, rfl, HL.out, hc, hB, hL9.1, ⟨by omega, by omega⟩, hk⟩
    · go_wp2_with fail
      refine (pick_any _ (q3 + 1) 4 _ (by omega) (by omega) hr4).mono ?_
      rintro e w9 ⟨i, rfl, i0, i1, hr9, ho9, hs9⟩
      have hk : Keep w w9 := Only.keep (ho14.trans ho9) hb (Nat.le_refl _)
      have hL9 := hL4.onlyo ho9
      go_wp2
      go_ret2
      exact ⟨a, c, zs, _, rfl, HL.out, hc, hB, hL9.1, ⟨by omega, by omega⟩, hk⟩
  · have hc2 : decide (0 < z) = false ∨ (decide (0 < z) = true ∧ ¬ (0 < zs.length)) := by
      by_cases h1 : 0 < z
      · exact .inr ⟨decide_eq_true h1, by omega⟩
      · exact .inl (decide_eq_false h1)
    clear hz
    rcases hc2 with d1 | ⟨d1, d2⟩
    all_goals
      go_wp2_with fail
      all_goals first | (exfalso; omega) | skip
      refine (pick_any _ (q3 + 1) 14 _ (by omega) (by omega) hr4).mono ?_
      rintro e w9 ⟨i, rfl, i0, i1, hr9, ho9, hs9⟩
      have hk : Keep w w9 := Only.keep (ho14.trans ho9) hb (Nat.le_refl _)
      have hL9 := hL4.onlyo ho9
      go_wp2
      go_ret2
      exact ⟨a, c, zs, _, rfl, HL.out, hc, hB, hL9.1, ⟨by omega, by omega⟩, hk⟩
theorem drawDiffsOf (a0 : Option Addr) (len cap : Nat) (w : World) (ha : CodeArg w a0 len cap) :
    Calls Try.prog 18 #[.slice a0 len cap] w (DrewSq w) := by
  go_enter Try.func18, Try.ntmps18
  go_wp2_with fail
  refine (drawSeriesValid a0 len cap _ ha).mono ?_
  rintro e w1 ⟨a, c, zs, rfl, hl, hc, hB, hL, hk⟩
  go_wp2
  go_ret
  exact ⟨a, c, zs, rfl, hl, hc, hB, hL, hk⟩
theorem drawSlopeOf (a0 : Option Addr) (len cap : Nat) (w : World) (ha : CodeArg w a0 len cap) :
    Calls Try.prog 30 #[.slice a0 len cap] w (DrewSq w) := by
  go_enter Try.func30, Try.ntmps30
  go_wp2_with fail
  refine (drawSeriesValid a0 len cap _ ha).mono ?_
  rintro e w1 ⟨a, c, zs, rfl, hl, hc, hB, hL, hk⟩
  go_wp2
  go_ret
  exact ⟨a, c, zs, rfl, hl, hc, hB, hL, hk⟩
end Go.Proofs.Ytdccpdclpidnbab
