/- How series with gaps, limits and steps are drawn. -/
import Derived.Test.YtmndlghadgccbabDrSq
namespace Go.Proofs.Ytmndlghadgccbab
open Go.RowKit
set_option linter.unusedVariables false

set_option maxRecDepth 100000 in
set_option maxHeartbeats 2000000 in
theorem drawFill (B p : Nat) (w : World) (hp : p ≤ 600000) (hr : Rd w B p) :
    Calls Try.prog 40 #[.pointer (some ⟨B, 0, none⟩)] w fun e w' => ∃ (a : Option Addr) (c : Nat) (zs : List Int) (lo hi st : Int) (q : Nat), e = .returned (.tuple #[.slice a zs.length c, .int .i64 lo, .int .i64 hi, .int .i64 st]) ∧
      zs.length ≤ 13 ∧ zs.length ≤ c ∧ Btw (-10000) 12000 zs ∧ LsN B w' a zs ∧ (-1000 ≤ lo ∧ lo ≤ 0) ∧ (-1001 ≤ hi ∧ hi ≤ 10999) ∧ (-1 ≤ st ∧ st ≤ 20000) ∧ q ≤ p + 60 ∧ Rd w' B q ∧ Only B w w' := by
  have hBR := hr.lt
  go_enter Try.func40, Try.ntmps40
  go_wp2_with fail
  refine (drawSome _ p _ (by omega) hr).mono ?_
  rintro e w2 ⟨n, q, rfl, hn, hq, hr2, ho2⟩
  go_wp2_with fail
  refine (drawSeries _ q n _ (by omega) hn hr2).mono ?_
  rintro e w3 ⟨v, zs, q3, rfl, hl, hB, hO, hq3, hr3, ho3⟩
  obtain ⟨a, c, rfl, hc, hL⟩ := hO.lsn hr2.lt
  have HL := Lib.hid (show zs.length ≤ 13 by omega)
  have hq3' : q3 ≤ p + 40 := by omega
  clear hl hO
  go_wp2_with fail
  refine (pick_any _ q3 3 _ (by omega) (by omega) (hr3.alloc _)).mono ?_
  rintro e w4 ⟨x, rfl, x0, x1, hr4, ho4, hs4⟩
  obtain ⟨lo, hlo, clo⟩ := newCellAny [-50, -999, 0] ho4 hr3.lt x x0 x1
  have lo0 : -999 ≤ lo ∧ lo ≤ 0 := by simp at hlo; omega
  clear hlo
  go_wp2_with fail
  refine (pick_any _ (q3 + 1) 3 _ (by omega) (by omega) (hr4.alloc _)).mono ?_
  rintro e w5 ⟨y, rfl, y0, y1, hr5, ho5, hs5⟩
  obtain ⟨hi, hhi, chi⟩ := newCellAny [150, 10999, 100] ho5 hr4.lt y y0 y1
  have hi0 : 100 ≤ hi ∧ hi ≤ 10999 := by simp at hhi; omega
  clear hhi
  go_wp2_with fail
  refine (pick_any _ (q3 + 2) 60 _ (by omega) (by omega) hr5).mono ?_
  rintro e w6 ⟨s, rfl, s0, s1, hr6, ho6, hs6⟩
  go_wp2_with fail
  refine (pick_any _ (q3 + 3) 20 _ (by omega) (by omega) hr6).mono ?_
  rintro e w7 ⟨t, rfl, t0, t1, hr7, ho7, hs7⟩
  have ho37 : Only B w w7 := (((((ho2.trans ho3).alloc _).trans ho4).alloc _ |>.trans ho5).trans ho6).trans ho7
  have hL7 := ((((hL.alloc _).onlyo ho4).alloc _ |>.onlyo ho5).onlyo ho6).onlyo ho7
  clear hs4 hs5 hs6 hs7 ho2 ho3 ho4 ho5 ho6 ho7 hr2 hr3 hr4 hr5 hr6 clo chi hL
  rcases (show t = 0 ∨ t = 1 ∨ t = 2 ∨ ((t == 0) = false ∧ (t == 1) = false ∧ (t == 2) = false) by
    by_cases h0 : t = 0 <;> by_cases h1 : t = 1 <;> by_cases h2 : t = 2 <;> simp_all) with rfl | rfl | rfl | ⟨n0, n1, n2⟩
  · go_wp2_with fail
    refine (pick_any _ (q3 + 4) 4 _ (by omega) (by omega) (hr7.alloc _)).mono ?_
    rintro e w8 ⟨i, rfl, i0, i1, hr8, ho8, hs8⟩
    obtain ⟨j, hj, cj⟩ := newCellAny [-1, 0, 19999, 20000] ho8 hr7.lt i i0 i1
    have hjj := mem4 hj
    clear hj
    have hL8 := (hL7.alloc _).onlyo ho8
    go_wp2
    try simp only [Exit.inBlock, Exit.then]
    refine bodyPost_ret (res4 rfl _ _ _) rfl ?_
    exact ⟨a, c, zs, _, _, _, q3 + 5, rfl, HL.out, hc, hB, hL8, ⟨by omega, by omega⟩, ⟨by omega, by omega⟩, ⟨by omega, by omega⟩, by omega, hr8, (ho37.alloc _).trans ho8⟩
  · go_wp2
    try simp only [Exit.inBlock, Exit.then]
    refine bodyPost_ret (res4 rfl _ _ _) rfl ?_
    exact ⟨a, c, zs, _, _, _, q3 + 4, rfl, HL.out, hc, hB, hL7, ⟨by omega, by omega⟩, ⟨by omega, by omega⟩, ⟨by omega, by omega⟩, by omega, hr7, ho37⟩
  · go_wp2
    try simp only [Exit.inBlock, Exit.then]
    refine bodyPost_ret (res4 rfl _ _ _) rfl ?_
    exact ⟨a, c, zs, _, _, _, q3 + 4, rfl, HL.out, hc, hB, hL7, ⟨by omega, by omega⟩, ⟨by omega, by omega⟩, ⟨by omega, by omega⟩, by omega, hr7, ho37⟩
  · go_wp2
    try simp only [Exit.inBlock, Exit.then]
    refine bodyPost_ret (res4 rfl _ _ _) rfl ?_
    exact ⟨a, c, zs, _, _, _, q3 + 4, rfl, HL.out, hc, hB, hL7, ⟨by omega, by omega⟩, ⟨by omega, by omega⟩, ⟨by omega, by omega⟩, by omega, hr7, ho37⟩
def DrewGp (w : World) (e : Ending) (w' : World) : Prop := ∃ (a : Option Addr) (c : Nat) (zs : List Int) (lo hi st : Int), e = .returned (.tuple #[.slice a zs.length c, .int .i64 lo, .int .i64 hi, .int .i64 st]) ∧
      zs.length ≤ 13 ∧ zs.length ≤ c ∧ Btw (-10000) 12000 zs ∧ Ls w' a zs ∧ (-1000 ≤ lo ∧ lo ≤ 0) ∧ (-1001 ≤ hi ∧ hi ≤ 10999) ∧ (-1 ≤ st ∧ st ≤ 20000) ∧ Keep w w'
set_option maxRecDepth 100000 in
set_option maxHeartbeats 1000000 in
theorem drawFillOf (a0 : Option Addr) (len cap : Nat) (w : World) (ha : CodeArg w a0 len cap) :
    Calls Try.prog 20 #[.slice a0 len cap] w (DrewGp w) := by
  go_enter Try.func20, Try.ntmps20
  go_wp2_with fail
  refine (open_any a0 len cap _ ha).mono ?_
  rintro e w1 ⟨rfl, hr1, hb, hs⟩
  have hb : Keep w w1 := hb
  go_wp2_with fail
  refine (drawFill _ 0 _ (by omega) hr1).mono ?_
  rintro e w2 ⟨a, c, zs, lo, hi, st, q, rfl, hl, hc, hB, hL, hlo, hhi, hst, hq, hr2, ho2⟩
  have hk : Keep w w2 := Only.keep ho2 hb (Nat.le_refl _)
  go_wp2
  try simp only [Exit.inBlock, Exit.then]
  refine bodyPost_ret (res4 rfl _ _ _) rfl ?_
  exact ⟨a, c, zs, lo, hi, st, rfl, hl, hc, hB, hL.1, hlo, hhi, hst, hk⟩
end Go.Proofs.Ytmndlghadgccbab
