/- How the arguments of means, degree days, ranks and running means are drawn: a series and a number. -/
import Derived.Test.YtdccpdclpidnbaaDrSq
namespace Go.Proofs.Ytdccpdclpidnbaa
open Go.RowKit
set_option linter.unusedVariables false

/-- A drawn series and a number between lo and hi. -/
def DrewSN (lo hi : Int) (w : World) (e : Ending) (w' : World) : Prop :=
  ∃ (a : Option Addr) (c : Nat) (zs : List Int) (x : Int), e = .returned (.tuple #[.slice a zs.length c, .int .i64 x]) ∧ zs.length ≤ 13 ∧ zs.length ≤ c ∧ Btw (-10000) 12000 zs ∧ Ls w' a zs ∧ (lo ≤ x ∧ x ≤ hi) ∧ Keep w w'
set_option maxHeartbeats 1000000 in
theorem drawMeanOf (a0 : Option Addr) (len cap : Nat) (w : World) (ha : CodeArg w a0 len cap) :
    Calls Try.prog 18 #[.slice a0 len cap] w (DrewSN (-1) 6 w) := by
  go_enter Try.func18, Try.ntmps18
  go_wp2_with fail
  refine (open_any a0 len cap _ ha).mono ?_
  rintro e w1 ⟨rfl, hr1, hb, hs⟩
  have hb : Keep w w1 := hb
  go_wp2_with fail
  refine (drawSome _ 0 _ (by omega) hr1).mono ?_
  rintro e w2 ⟨n, q, rfl, hn, hq, hr2, ho2⟩
  go_wp2_with fail
  refine (drawSeries _ q n _ (by omega) hn hr2).mono ?_
  rintro e w3 ⟨v, zs, q3, rfl, hl, hB, hO, hq3, hr3, ho3⟩
  obtain ⟨a, c, rfl, hc, hL⟩ := hO.lsn hr2.lt
  have HL := Lib.hid (show zs.length ≤ 13 by omega)
  clear hl hO
  have hl13 := HL.out
  go_wp2_with fail
  refine (pick_any _ q3 8 _ (by omega) (by omega) hr3).mono ?_
  rintro e w4 ⟨x, rfl, x0, x1, hr4, ho4, hs4⟩
  have hk : Keep w w4 := Only.keep ((ho2.trans ho3).trans ho4) hb (Nat.le_refl _)
  have hL4 := hL.onlyo ho4
  go_wp2
  go_ret2
  exact ⟨a, c, zs, x - 1, rfl, HL.out, hc, hB, hL4.1, ⟨by have := HL.out; omega, by have := HL.out; omega⟩, hk⟩
set_option maxHeartbeats 1000000 in
theorem drawRankOf (a0 : Option Addr) (len cap : Nat) (w : World) (ha : CodeArg w a0 len cap) :
    Calls Try.prog 38 #[.slice a0 len cap] w (DrewSN (-1) 13 w) := by
  go_enter Try.func38, Try.ntmps38
  go_wp2_with fail
  refine (open_any a0 len cap _ ha).mono ?_
  rintro e w1 ⟨rfl, hr1, hb, hs⟩
  have hb : Keep w w1 := hb
  go_wp2_with fail
  refine (drawSome _ 0 _ (by omega) hr1).mono ?_
  rintro e w2 ⟨n, q, rfl, hn, hq, hr2, ho2⟩
  go_wp2_with fail
  refine (drawSeries _ q n _ (by omega) hn hr2).mono ?_
  rintro e w3 ⟨v, zs, q3, rfl, hl, hB, hO, hq3, hr3, ho3⟩
  obtain ⟨a, c, rfl, hc, hL⟩ := hO.lsn hr2.lt
  have HL := Lib.hid (show zs.length ≤ 13 by omega)
  clear hl hO
  have hl13 := HL.out
  go_wp2_with fail
  refine (pick_any _ q3 ((zs.length : Int) + 2) _ (by omega) (by omega) hr3).mono ?_
  rintro e w4 ⟨x, rfl, x0, x1, hr4, ho4, hs4⟩
  have hk : Keep w w4 := Only.keep ((ho2.trans ho3).trans ho4) hb (Nat.le_refl _)
  have hL4 := hL.onlyo ho4
  go_wp2
  go_ret2
  exact ⟨a, c, zs, x - 1, rfl, HL.out, hc, hB, hL4.1, ⟨by have := HL.out; omega, by have := HL.out; omega⟩, hk⟩
theorem memD {j : Int} (h : j ∈ ([-1000, -999, 10999, 11000] : List Int)) : -1000 ≤ j ∧ j ≤ 11000 := by simp at h; omega
theorem pickD {i j : Int} (h0 : 0 ≤ i) (h1 : i < 4) (h : #[Value.int .i64 (-1000), .int .i64 (-999), .int .i64 10999, .int .i64 11000][i.toNat]? = some (.int .i64 j)) : -1000 ≤ j ∧ j ≤ 11000 := by
  have : i = 0 ∨ i = 1 ∨ i = 2 ∨ i = 3 := by omega
  rcases this with rfl | rfl | rfl | rfl
  all_goals
    simp at h
    omega
set_option maxRecDepth 100000 in
set_option maxHeartbeats 1000000 in
theorem drawDegreeDays (a0 : Option Addr) (len cap : Nat) (w : World) (ha : CodeArg w a0 len cap) :
    Calls Try.prog 35 #[.slice a0 len cap] w (DrewSN (-1000) 11000 w) := by
  go_enter Try.func35, Try.ntmps35
  go_wp2_with fail
  refine (open_any a0 len cap _ ha).mono ?_
  rintro e w1 ⟨rfl, hr1, hb, hs⟩
  have hb : Keep w w1 := hb
  go_wp2_with fail
  refine (drawSome _ 0 _ (by omega) hr1).mono ?_
  rintro e w2 ⟨n, q, rfl, hn, hq, hr2, ho2⟩
  go_wp2_with fail
  refine (drawSeries _ q n _ (by omega) hn hr2).mono ?_
  rintro e w3 ⟨v, zs, q3, rfl, hl, hB, hO, hq3, hr3, ho3⟩
  obtain ⟨a, c, rfl, hc, hL⟩ := hO.lsn hr2.lt
  have HL := Lib.hid (show zs.length ≤ 13 by omega)
  clear hl hO
  go_wp2_with fail
  refine (pick_any _ q3 12 _ (by omega) (by omega) hr3).mono ?_
  rintro e w4 ⟨z, rfl, z0, z1, hr4, ho4, hs4⟩
  have hL4 := hL.onlyo ho4
  have ho14 := (ho2.trans ho3).trans ho4
  rcases (show z = 0 ∨ (z == 0) = false by by_cases h : z = 0 <;> simp [h]) with rfl | hz
  · clear z0 z1
    go_wp2_with fail
    go_region_with (first
      | (go_at_call 54; (with_reducible refine (pick_any _ (q3 + 1) 4 _ (by omega) (by omega) (Rd.drew hr4)).mono ?_); rintro e w9 ⟨i, rfl, i0, i1, hr9, ho9, hs9⟩; obtain ⟨j, j0, j1, cj, cj2, cj3⟩ := freshSm [-1000, -999, 10999, 11000] w9 3 i i0 i1 (by simp); simp only [List.map_cons, List.map_nil] at cj cj2 cj3; have hjj := pickD i0 i1 cj2; have hk : Keep w w9 := Only.keep ((ho14.drewN 1).trans ho9) hb (Nat.le_refl _); have hL9 := hL4.drew.onlyo ho9)
      | (go_at_call 54; (with_reducible refine (pick_any _ (q3 + 1) 4 _ (by omega) (by omega) (Rd.drew (hr4.alloc _))).mono ?_); rintro e w9 ⟨i, rfl, i0, i1, hr9, ho9, hs9⟩; obtain ⟨j, hj, cj⟩ := newCellAnyD [-1000, -999, 10999, 11000] ho9 hr4.lt i i0 i1; have hjj := memD hj; clear hj; have hk : Keep w w9 := Only.keep (((ho14.alloc _).drewN 1).trans ho9) hb (Nat.le_refl _); have hL9 := (hL4.alloc _).drew.onlyo ho9))
    all_goals
      go_wp2
      go_ret2
      refine ⟨a, c, zs, _, rfl, HL.out, hc, hB, ?_, ⟨by omega, by omega⟩, ?_⟩
      all_goals first | exact hk | exact hk.alloc _ | exact hL9.1 | exact (hL9.alloc _).1
  · go_wp2_with fail
    refine (pick_any _ (q3 + 1) 120 _ (by omega) (by omega) hr4).mono ?_
    rintro e w9 ⟨i, rfl, i0, i1, hr9, ho9, hs9⟩
    have hk : Keep w w9 := Only.keep (ho14.trans ho9) hb (Nat.le_refl _)
    have hL9 := hL4.onlyo ho9
    go_wp2
    go_ret2
    exact ⟨a, c, zs, _, rfl, HL.out, hc, hB, hL9.1, ⟨by omega, by omega⟩, hk⟩
theorem drawExtremesOf (a0 : Option Addr) (len cap : Nat) (w : World) (ha : CodeArg w a0 len cap) :
    Calls Try.prog 30 #[.slice a0 len cap] w (DrewSq w) := by
  go_enter Try.func30, Try.ntmps30
  go_wp2_with fail
  refine (drawSeriesValid a0 len cap _ ha).mono ?_
  rintro e w1 ⟨a, c, zs, rfl, hl, hc, hB, hL, hk⟩
  go_wp2
  go_ret
  exact ⟨a, c, zs, rfl, hl, hc, hB, hL, hk⟩
theorem drawSumsOf (a0 : Option Addr) (len cap : Nat) (w : World) (ha : CodeArg w a0 len cap) :
    Calls Try.prog 43 #[.slice a0 len cap] w (DrewSq w) := by
  go_enter Try.func43, Try.ntmps43
  go_wp2_with fail
  refine (drawSeriesValid a0 len cap _ ha).mono ?_
  rintro e w1 ⟨a, c, zs, rfl, hl, hc, hB, hL, hk⟩
  go_wp2
  go_ret
  exact ⟨a, c, zs, rfl, hl, hc, hB, hL, hk⟩
end Go.Proofs.Ytdccpdclpidnbaa
