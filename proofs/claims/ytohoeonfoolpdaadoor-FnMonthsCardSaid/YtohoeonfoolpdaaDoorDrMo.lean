/- How months are drawn: a series, a first day and a calendar. -/
import Derived.Test.YtohoeonfoolpdaaDoorDrSq
import Derived.Test.YtohoeonfoolpdaaDoorDrCc
namespace Go.Proofs.YtohoeonfoolpdaaDoor
open Go.RowKit
set_option linter.unusedVariables false

theorem res3m {fn : Func} {t u v : Tmp} (h : fn.results = #[.tmp t, .tmp u, .tmp v]) (tmps : Array Value) (P : Program) (w : World) :
    (results fn tmps).run P w = .ok (.tuple #[tmps.getD t undef, tmps.getD u undef, tmps.getD v undef]) w := by
  simp [results, h, go_sem]
theorem memM {j : Int} (h : j ∈ ([-3, -2, 803545, 803530, 0] : List Int)) : -10 ≤ j ∧ j ≤ 1000000 := by simp at h; omega
theorem pickM {i j : Int} (h0 : 0 ≤ i) (h1 : i < 5) (h : #[Value.int .i64 (-3), .int .i64 (-2), .int .i64 803545, .int .i64 803530, .int .i64 0][i.toNat]? = some (.int .i64 j)) : -10 ≤ j ∧ j ≤ 1000000 := by
  have : i = 0 ∨ i = 1 ∨ i = 2 ∨ i = 3 ∨ i = 4 := by omega
  rcases this with rfl | rfl | rfl | rfl | rfl
  all_goals
    simp at h
    omega
def DrewMo (w : World) (e : Ending) (w' : World) : Prop :=
  ∃ (a : Option Addr) (c : Nat) (zs : List Int) (f k : Int), e = .returned (.tuple #[.slice a zs.length c, .int .i64 f, .int .i64 k]) ∧ zs.length ≤ 13 ∧ zs.length ≤ c ∧ Btw (-10000) 12000 zs ∧ Ls w' a zs ∧ (-10 ≤ f ∧ f ≤ 1000000) ∧ (0 ≤ k ∧ k ≤ 3) ∧ Keep w w'
set_option maxRecDepth 100000 in
set_option maxHeartbeats 2000000 in
theorem drawMonthsOf (a0 : Option Addr) (len cap : Nat) (w : World) (ha : CodeArg w a0 len cap) :
    Calls Tryd.prog 7 #[.slice a0 len cap] w (DrewMo w) := by
  go_enter Tryd.func7, Tryd.ntmps7
  go_wp2_with fail
  refine (open_any a0 len cap _ ha).mono ?_
  rintro e w1 ⟨rfl, hr1, hb, hs⟩
  have hb : Keep w w1 := hb
  go_wp2_with fail
  refine (drawSome _ 0 _ (by omega) hr1).mono ?_
  rintro e w2 ⟨n, q, rfl, hn, hq, hr2, ho2⟩
  go_wp2_with fail
  refine (drawSeries _ q n _ (by omega) hn hr2).mono ?_
  rintro e w3 ⟨v, zs, q3, rfl, hl, hB, hO, hq3, hr3, ho3⟩
  obtain ⟨a, c, rfl, hc, hL⟩ := hO.lsn hr2.lt
  have HL := Lib.hid (show zs.length ≤ 13 by omega)
  have HC := Lib.hid hc
  have HBt := Lib.hid hB
  clear hl hO hc hB
  go_wp2_with fail
  refine (drawCal _ q3 _ (by omega) hr3).mono ?_
  rintro e w4 ⟨k, q4, rfl, hk1, hk2, hq4, hr4, ho4⟩
  go_wp2_with fail
  refine (drawYear _ q4 _ (by omega) hr4).mono ?_
  rintro e w5 ⟨y, q5, rfl, hy1, hy2, hq5, hr5, ho5⟩
  go_wp2_with fail
  refine (pick_any _ q5 12 _ (by omega) (by omega) hr5).mono ?_
  rintro e w6 ⟨m, rfl, hm1, hm2, hr6, ho6, _⟩
  go_wp2_with fail
  refine (pick_any _ (q5 + 1) 9 _ (by omega) (by omega) hr6).mono ?_
  rintro e w7 ⟨d, rfl, hd1, hd2, hr7, ho7, _⟩
  have hO7 := ((((((ho2.trans ho3).trans ho4).trans ho5).trans ho6).trans ho7))
  have hL7 := (((hL.onlyo ho4).onlyo ho5).onlyo ho6).onlyo ho7
  have hK7 : Keep w w7 := Only.keep hO7 hb (Nat.le_refl _)
  clear hO7 ho2 ho3 ho4 ho5 ho6 ho7 hr1 hr2 hr3 hr4 hr5 hr6 hL hs hb
  go_wp2_with fail
  refine (dayof_spec _ _ _ 1 _).mono ?_
  rintro e w8 ⟨rfl, k8⟩
  obtain ⟨n1, n2⟩ := dOut_bd (y := y) (m := 1 + m) (d := 20 + d) (c := 1)
  have hr8 := hr7.keep k8
  have hL8 := hL7.onlyo (B := w.heap.size) k8.only
  have hK8 := hK7.trans k8
  generalize dOut y (1 + m) (20 + d) 1 = f at *
  generalize dv y (1 + m) (20 + d) 1 = ok at *
  clear k8 hr7 hL7 hK7
  cases ok
  case false =>
    go_wp2_with fail
    go_region_with (first
      | (go_at_call 28; (with_reducible refine (pick_any _ (q5 + 1 + 1) 5 _ (by omega) (by omega) (Rd.drew hr8)).mono ?_); rintro e w9 ⟨i, rfl, i0, i1, hr9, ho9, hs9⟩; obtain ⟨j, j0, j1, cj, cj2, cj3⟩ := freshSm [-3, -2, 803545, 803530, 0] w9 3 i i0 i1 (by simp); simp only [List.map_cons, List.map_nil] at cj cj2 cj3; have hjj := pickM i0 i1 cj2; have hk : Keep w w9 := Only.keep ho9 (hK8.drewN 1) (Nat.le_refl _); have hL9 := hL8.drew.onlyo ho9)
      | (go_at_call 28; (with_reducible refine (pick_any _ (q5 + 1 + 1) 5 _ (by omega) (by omega) (Rd.drew (hr8.alloc _))).mono ?_); rintro e w9 ⟨i, rfl, i0, i1, hr9, ho9, hs9⟩; obtain ⟨j, hj, cj⟩ := newCellAnyD [-3, -2, 803545, 803530, 0] ho9 hr8.lt i i0 i1; have hjj := memM hj; clear hj; have hk : Keep w w9 := Only.keep ho9 ((hK8.alloc _).drewN 1) (Nat.le_refl _); have hL9 := (hL8.alloc _).drew.onlyo ho9))
    all_goals
      go_wp2
      refine bodyPost_ret (res3m rfl _ _ _) rfl ?_
      refine ⟨a, c, zs, _, k, rfl, HL.out, HC.out, HBt.out, ?_, ⟨by omega, by omega⟩, ⟨hk1, hk2⟩, ?_⟩
      all_goals first | exact hk | exact hk.alloc _ | exact hL9.1 | exact (hL9.alloc _).1
  case true =>
    go_wp2_with fail
    refine (pick_any _ _ 12 _ (by omega) (by omega) hr8).mono ?_
    rintro e wA ⟨x, rfl, hx0, hx1, hrA, hoA, _⟩
    have hKA : Keep w wA := Only.keep hoA hK8 (Nat.le_refl _)
    have hLA := hL8.onlyo hoA
    by_cases hx : x = 0
    · subst hx
      go_wp2_with fail
      go_region_with (first
        | (go_at_call 28; (with_reducible refine (pick_any _ (q5 + 1 + 1 + 1) 5 _ (by omega) (by omega) (Rd.drew hrA)).mono ?_); rintro e w9 ⟨i, rfl, i0, i1, hr9, ho9, hs9⟩; obtain ⟨j, j0, j1, cj, cj2, cj3⟩ := freshSm [-3, -2, 803545, 803530, 0] w9 3 i i0 i1 (by simp); simp only [List.map_cons, List.map_nil] at cj cj2 cj3; have hjj := pickM i0 i1 cj2; have hk : Keep w w9 := Only.keep ho9 (hKA.drewN 1) (Nat.le_refl _); have hL9 := hLA.drew.onlyo ho9)
        | (go_at_call 28; (with_reducible refine (pick_any _ (q5 + 1 + 1 + 1) 5 _ (by omega) (by omega) (Rd.drew (hrA.alloc _))).mono ?_); rintro e w9 ⟨i, rfl, i0, i1, hr9, ho9, hs9⟩; obtain ⟨j, hj, cj⟩ := newCellAnyD [-3, -2, 803545, 803530, 0] ho9 hrA.lt i i0 i1; have hjj := memM hj; clear hj; have hk : Keep w w9 := Only.keep ho9 ((hKA.alloc _).drewN 1) (Nat.le_refl _); have hL9 := (hLA.alloc _).drew.onlyo ho9))
      all_goals
        go_wp2
        refine bodyPost_ret (res3m rfl _ _ _) rfl ?_
        refine ⟨a, c, zs, _, k, rfl, HL.out, HC.out, HBt.out, ?_, ⟨by omega, by omega⟩, ⟨hk1, hk2⟩, ?_⟩
        all_goals first | exact hk | exact hk.alloc _ | exact hL9.1 | exact (hL9.alloc _).1
    · have hx' : (x == 0) = false := by simp; omega
      clear hx
      go_wp2
      refine bodyPost_ret (res3m rfl _ _ _) rfl ?_
      exact ⟨a, c, zs, f, k, rfl, HL.out, HC.out, HBt.out, hLA.1, ⟨n1, n2⟩, ⟨hk1, hk2⟩, hKA⟩
end Go.Proofs.YtohoeonfoolpdaaDoor
