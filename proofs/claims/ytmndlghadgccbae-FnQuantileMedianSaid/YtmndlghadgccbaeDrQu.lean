/- How the arguments of QuantileOf are drawn. -/
import Derived.Test.YtmndlghadgccbaeDrSq
namespace Go.Proofs.Ytmndlghadgccbae
open Go.RowKit
set_option linter.unusedVariables false

theorem res3q {fn : Func} {t u v : Tmp} (h : fn.results = #[.tmp t, .tmp u, .tmp v]) (tmps : Array Value) (P : Program) (w : World) :
    (results fn tmps).run P w = .ok (.tuple #[tmps.getD t undef, tmps.getD u undef, tmps.getD v undef]) w := by
  simp [results, h]
set_option maxRecDepth 100000 in
set_option maxHeartbeats 1000000 in
theorem drawQuantileOf (a0 : Option Addr) (len cap : Nat) (w : World) (ha : CodeArg w a0 len cap) :
    Calls Try.prog 21 #[.slice a0 len cap] w fun e w' => ∃ (a : Option Addr) (c : Nat) (zs : List Int) (num den : Int), e = .returned (.tuple #[.slice a zs.length c, .int .i64 num, .int .i64 den]) ∧ (zs.length ≤ 13 ∧ zs.length ≤ c) ∧ Btw (-10000) 12000 zs ∧ Ls w' a zs ∧ (-1 ≤ num ∧ num ≤ 20) ∧ (0 ≤ den ∧ den ≤ 100) ∧ Keep w w' := by
  go_enter Try.func21, Try.ntmps21
  go_wp2_with fail
  refine (open_any a0 len cap _ ha).mono ?_
  rintro e w1 ⟨rfl, hr1, hb, hs⟩
  have hb : Keep w w1 := hb
  go_wp2_with fail
  refine (drawSome _ 0 _ (by omega) hr1).mono ?_
  rintro e w2 ⟨n, q, rfl, hn, hq, hr2, ho2⟩
  go_wp2_with fail
  refine (drawSeries _ q n _ (by omega) hn hr2).mono ?_
  rintro e w3 ⟨v, zs, q3, rfl, hl, hB, hO, hq3, hr3, ho3⟩
  obtain ⟨a, c, rfl, hc, hL⟩ := hO.lsn hr2.lt
  have HL := Lib.hid (show zs.length ≤ 13 by omega)
  clear hl hO
  go_wp2_with fail
  refine (pick_any _ q3 20 _ (by omega) (by omega) hr3).mono ?_
  rintro e w4 ⟨x, rfl, x0, x1, hr4, ho4, hs4⟩
  obtain ⟨d, hd⟩ : ∃ d : Int, d = 1 + x := ⟨_, rfl⟩
  obtain rfl : x = d - 1 := by omega
  clear hd
  have hdd : (1 : Int) + (d - 1) = d := by omega
  go_wp2_with fail
  refine (pick_any _ (q3 + 1) 12 _ (by omega) (by omega) hr4).mono ?_
  rintro e w5 ⟨y, rfl, y0, y1, hr5, ho5, hs5⟩
  have ho15 := ((ho2.trans ho3).trans ho4).trans ho5
  have hL5 := (hL.onlyo ho4).onlyo ho5
  clear ho2 ho3 ho4 ho5 hL
  rcases (show y = 0 ∨ (y == 0) = false by by_cases h : y = 0 <;> simp [h]) with rfl | hy
  · go_wp2_with fail
    refine (pick_any _ (q3 + 2) 4 _ (by omega) (by omega) hr5).mono ?_
    rintro e w6 ⟨z, rfl, z0, z1, hr6, ho6, hs6⟩
    go_wp2_with fail
    refine (pick_any _ (q3 + 3) 3 _ (by omega) (by omega) hr6).mono ?_
    rintro e w7 ⟨u, rfl, u0, u1, hr7, ho7, hs7⟩
    have hk : Keep w w7 := Only.keep ((ho15.trans ho6).trans ho7) hb (Nat.le_refl _)
    have hL7 := (hL5.onlyo ho6).onlyo ho7
    go_wp2
    try simp only [Exit.inBlock, Exit.then]
    refine bodyPost_ret (res3q rfl _ _ _) rfl ?_
    exact ⟨a, c, zs, z - 1, u * 50, rfl, ⟨HL.out, hc⟩, hB, hL7.1, ⟨by omega, by omega⟩, ⟨by omega, by omega⟩, hk⟩
  · go_wp2_with fail
    refine (pick_any _ (q3 + 2) d _ (by omega) (by omega) hr5).mono ?_
    rintro e w6 ⟨z, rfl, z0, z1, hr6, ho6, hs6⟩
    have hk : Keep w w6 := Only.keep (ho15.trans ho6) hb (Nat.le_refl _)
    have hL6 := hL5.onlyo ho6
    go_wp2
    try simp only [Exit.inBlock, Exit.then]
    refine bodyPost_ret (res3q rfl _ _ _) rfl ?_
    exact ⟨a, c, zs, 1 + z, d, rfl, ⟨HL.out, hc⟩, hB, hL6.1, ⟨by omega, by omega⟩, ⟨by omega, by omega⟩, hk⟩
end Go.Proofs.Ytmndlghadgccbae
