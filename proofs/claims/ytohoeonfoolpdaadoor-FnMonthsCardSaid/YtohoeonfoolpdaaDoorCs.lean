/- The days of dates and the dates of days: the model's functions. -/
import Derived.Test.YtohoeonfoolpdaaDoorCw
import Derived.LoopTactic
import Derived.IntWalk
namespace Go.Proofs.YtohoeonfoolpdaaDoor
open Go.RowKit
set_option linter.unusedVariables false

theorem retII {a b : Int} {x y : Bool} (h : a = b) (h' : x = y) : Ending.returned (.tuple #[.int .i64 a, .bool x]) = .returned (.tuple #[.int .i64 b, .bool y]) := by rw [h, h']
/-- What DayOf answers. -/
def dOut (y m d c : Int) : Int := if dv y m d c then dn y m d c else 0
theorem dOut_yes {y m d c : Int} (h : dv y m d c = true) : dOut y m d c = dn y m d c := by simp [dOut, h]
theorem dOut_no {y m d c : Int} (h : dv y m d c = false) : dOut y m d c = 0 := by simp [dOut, h]
/-- A date of the day n. -/
def IsDate (n c : Int) (e : Ending) : Prop := ∃ y m d : Int, e = .returned (.agg #[.int .i64 y, .int .i64 m, .int .i64 d]) ∧ dv y m d c = true ∧ dn y m d c = n
def DateYes (n c : Int) (w : World) (e : Ending) (w' : World) : Prop := ∃ y m d : Int, e = .returned (.tuple #[.agg #[.int .i64 y, .int .i64 m, .int .i64 d], .bool true]) ∧ dv y m d c = true ∧ dn y m d c = n ∧ Keep w w'

theorem day_bd {n c : Int} (h : dayOk n c = true) : -2 ≤ n ∧ n ≤ 900000 := by
  obtain ⟨hc, h1, h2⟩ := dayOk_facts h
  have a := ys_one c hc
  have b := ys_end c hc
  omega
theorem ys_guess {n c : Int} (h : 366 ≤ n) (hn : n ≤ 900000) : ys (n / 366) c ≤ n := by
  unfold ys
  split <;> omega

set_option maxHeartbeats 2000000 in
theorem l3day (y m d c : Int) (w : World) (h : dv y m d c = true) :
    Calls Tryd.prog 45 #[.agg #[.int .i64 y, .int .i64 m, .int .i64 d], .int .i64 c] w fun e w' => e = .returned (.int .i64 (dn y m d c)) ∧ Keep w w' := by
  obtain ⟨hc, y1, y2, m1, m2, d1, d2⟩ := dv_facts h
  obtain ⟨b1, b2⟩ := ys_bd y c y1 (by omega)
  have y3 : y ≤ 2201 := by omega
  have d3 : d ≤ 31 := by have := mlen_bd y m c m1 m2; omega
  have HC := Lib.hid hc
  have HD := Lib.hid d2
  clear h hc d2
  go_enter Tryd.func45, Tryd.ntmps45
  go_wp2_with fail
  go_quiet ((go_at_call 51; exact quietS (ys_spec y c _ HC.out y1 y3)))
  go_wp2_with fail
  have c0 : ((w.alloc (.cells #[.int .i64 y, .int .i64 m, .int .i64 d] 38)).drewN nq).cell? ⟨w.heap.size, 0, none⟩ = some (.int .i64 y) := by go_simp
  have c1 : ((w.alloc (.cells #[.int .i64 y, .int .i64 m, .int .i64 d] 38)).drewN nq).cell? ⟨w.heap.size, 1, none⟩ = some (.int .i64 m) := by go_simp
  have k0 : Keep w ((w.alloc (.cells #[.int .i64 y, .int .i64 m, .int .i64 d] 38)).drewN nq) := ((Keep.refl w).alloc _).drewN _
  generalize (w.alloc (.cells #[.int .i64 y, .int .i64 m, .int .i64 d] 38)).drewN nq = W0 at *
  go_loopw [5, 6] (fun s i wr => ∃ k : Int, 1 ≤ k ∧ k ≤ m ∧ i = .int .i64 k ∧ s = .int .i64 (ys y c + d - 1 + cum y k c) ∧ Keep W0 wr) (fun _ i _ => (13 - intOf i).toNat)
  case atStart => exact ⟨1, by omega, m1, rfl, by rw [cum_one]; simp, Keep.refl _⟩
  case round =>
    obtain ⟨k, hk1, hk2, rfl, rfl, hk⟩ := hrel
    have x0 := hk.cell c0
    have x1 := hk.cell c1
    have k3 : k ≤ 12 := by omega
    obtain ⟨u1, u2⟩ := cum_bd y k c hk1 (by omega)
    obtain ⟨v1, v2⟩ := mlen_bd y k c hk1 k3
    have CS := Lib.hid (cum_succ y k c)
    by_cases hlt : k < m
    · go_wp2_with (go_at_call 58; refine (mon_spec y k c _ HC.out y1 y3 hk1 k3).mono ?_; rintro e w' ⟨rfl, hk'⟩)
      go_roundw
      case rel => exact ⟨k + 1, by omega, by omega, by go_num, by rw [CS.out]; go_num, hk.trans hk'⟩
      case measure => simp [intOf]; omega
    · have hkm : k = m := by omega
      subst hkm
      go_wp2
      go_ret
      exact ⟨retI (by unfold dn; omega), k0.trans hk⟩
set_option maxHeartbeats 4000000 in
theorem l3date (n c : Int) (w : World) (h : dayOk n c = true) :
    Calls Tryd.prog 52 #[.int .i64 n, .int .i64 c] w fun e w' => IsDate n c e ∧ Keep w w' := by
  obtain ⟨hc, n1, n2⟩ := dayOk_facts h
  obtain ⟨b1, b2⟩ := day_bd h
  have HC := Lib.hid hc
  have HN := Lib.hid n1
  have HM := Lib.hid n2
  clear h hc n1 n2
  by_cases hn : 366 ≤ n
  case' pos =>
    have q1 : 1 ≤ n / 366 := by omega
    have q2 : n / 366 ≤ 2459 := by omega
    have G := Lib.hid (ys_guess (c := c) hn b2)
    have q3 : n / 366 ≤ 2200 := by
      have h1 := HM.out; have h2 := G.out
      by_cases hl : 2200 < n / 366
      · have := ys_mono 2201 (n / 366) c (by omega) (by omega); omega
      · omega
    go_enter Tryd.func52, Tryd.ntmps52
    go_wp2_with fail
    go_loop [5] (fun s => ∃ yy : Int, 1 ≤ yy ∧ yy ≤ 2200 ∧ Hid (ys yy c ≤ n) ∧ s = .int .i64 yy) (fun s => (2200 - intOf s).toNat)
    case' atStart => exact ⟨n / 366, q1, q3, G, rfl⟩
  case' neg =>
    have q1 : n.tdiv 366 = 0 := by
      by_cases hl : n < 0
      · have : n = -1 ∨ n = -2 := by omega
        rcases this with rfl | rfl <;> rfl
      · rw [Int.tdiv_eq_ediv_of_nonneg (by omega)]; omega
    go_enter Tryd.func52, Tryd.ntmps52
    go_wp2_with fail
    go_loop [5] (fun s => ∃ yy : Int, 1 ≤ yy ∧ yy ≤ 2200 ∧ Hid (ys yy c ≤ n) ∧ s = .int .i64 yy) (fun s => (2200 - intOf s).toNat)
    case' atStart => exact ⟨1, by omega, by omega, HN, rfl⟩
  all_goals
    obtain ⟨yy, hy1, hy2, HY, rfl⟩ := hrel
    have hy3 : yy ≤ 2201 := by omega
    have hy4 : 1 ≤ yy + 1 := by omega
    have hy5 : yy + 1 ≤ 2201 := by omega
    by_cases hlt : ys (yy + 1) c ≤ n
    case' pos =>
      have hz : yy + 1 ≤ 2200 := by
        have h2 := HM.out
        by_cases hl : yy < 2200
        · omega
        · have e : yy = 2200 := by omega
          rw [e] at hlt; have : ys (2200 + 1) c = ys 2201 c := rfl; omega
      have HL := Lib.hid hlt
      go_wp2_with (go_at_call 51; refine (ys_spec _ c _ HC.out hy4 hy5).mono ?_; rintro e w' ⟨rfl, rfl⟩)
      go_round
      case' rel => exact ⟨yy + 1, by omega, hz, HL, rfl⟩
      case' measure => simp [intOf]; omega
    case' neg =>
      obtain ⟨r1, r2⟩ := ys_bd yy c hy1 hy3
      have r3 := HY.out
      have r0 : n - ys yy c ≤ 366 := by have := ys_succ yy c HC.out hy1; have := lpd_01 yy c; omega
      have HE := Lib.hid (show n < ys yy c + cum yy 13 c by rw [cum_end]; have := ys_succ yy c HC.out hy1; omega)
      have hge : n < ys (yy + 1) c := by omega
      clear hlt
      go_wp2_with (go_at_call 51; refine (ys_spec _ c _ HC.out (by omega) (by omega)).mono ?_; rintro e w' ⟨rfl, rfl⟩)
      have kw : Keep w (w.alloc (.cells #[.int .i64 0, .int .i64 0, .int .i64 0] 38)) := (Keep.refl w).alloc _
      have x0 : (w.alloc (.cells #[.int .i64 0, .int .i64 0, .int .i64 0] 38)).cell? ⟨w.heap.size, 0, none⟩ = some (.int .i64 0) := by go_simp
      have x1 : (w.alloc (.cells #[.int .i64 0, .int .i64 0, .int .i64 0] 38)).cell? ⟨w.heap.size, 1, none⟩ = some (.int .i64 0) := by go_simp
      have x2 : (w.alloc (.cells #[.int .i64 0, .int .i64 0, .int .i64 0] 38)).cell? ⟨w.heap.size, 2, none⟩ = some (.int .i64 0) := by go_simp
      have f0 : (w.alloc (.cells #[.int .i64 0, .int .i64 0, .int .i64 0] 38)).frozen? ⟨w.heap.size, 0, none⟩ = false := by go_simp
      have f1 : (w.alloc (.cells #[.int .i64 0, .int .i64 0, .int .i64 0] 38)).frozen? ⟨w.heap.size, 1, none⟩ = false := by go_simp
      have f2 : (w.alloc (.cells #[.int .i64 0, .int .i64 0, .int .i64 0] 38)).frozen? ⟨w.heap.size, 2, none⟩ = false := by go_simp
      generalize (w.alloc (.cells #[.int .i64 0, .int .i64 0, .int .i64 0] 38)) = W0 at *
      go_loopw [6, 7] (fun r k wr => ∃ m : Int, 1 ≤ m ∧ m ≤ 12 ∧ k = .int .i64 m ∧ 0 ≤ n - ys yy c - cum yy m c ∧ r = .int .i64 (n - ys yy c - cum yy m c) ∧ Keep W0 wr) (fun _ k _ => (12 - intOf k).toNat)
      case' atStart => exact ⟨1, by omega, by omega, rfl, by rw [cum_one]; omega, by rw [cum_one]; simp, Keep.refl _⟩
      case' round =>
        obtain ⟨m, hm1, hm2, rfl, hr, rfl, hk⟩ := hrel
        obtain ⟨u1, u2⟩ := cum_bd yy m c hm1 (by omega)
        obtain ⟨v1, v2⟩ := mlen_bd yy m c hm1 hm2
        have CS := Lib.hid (cum_succ yy m c)
        by_cases hc : m < 12 ∧ mlen yy m c ≤ n - ys yy c - cum yy m c
        case' pos =>
          obtain ⟨hm, hd⟩ := hc
          go_wp2_with (go_at_call 58; refine (mon_spec yy m c _ HC.out hy1 hy3 hm1 hm2).mono ?_; rintro e w' ⟨rfl, hk'⟩; (first | (have hk2 := hk.trans hk'; clear hk hk'; have hk := hk2; clear hk2) | skip))
          go_roundw
          case' rel => exact ⟨m + 1, by omega, by omega, by go_num, by rw [CS.out]; omega, by rw [CS.out]; go_num, hk⟩
          case' measure => simp [intOf]; omega
        case' neg =>
          have hv : n < ys yy c + cum yy (m + 1) c := by
            rw [CS.out]
            by_cases e : m = 12
            · have h13 := HE.out
              have e13 : cum yy 13 c = cum yy 12 c + mlen yy 12 c := cum_succ yy 12 c
              rw [e]; omega
            · have : ¬ mlen yy m c ≤ n - ys yy c - cum yy m c := fun h => hc ⟨by omega, h⟩
              omega
          have HF := Lib.hid (date_mk HC.out hy1 hy2 hm1 hm2 (by omega) hv)
          have hmm : m = 12 ∨ m < 12 ∧ n - ys yy c - cum yy m c < mlen yy m c := by have := CS.out; omega
          clear hc hv
          have e0 := hk.cell x0
          have e1 := hk.cell x1
          have e2 := hk.cell x2
          have g0 := hk.still x0 f0
          have g1 := hk.still x1 f1
          have g2 := hk.still x2 f2
          rcases hmm with hmm | ⟨hm, hmm⟩
          case' inl =>
            subst hmm
            go_wp2
            refine bodyPost_ret (v := .agg #[.int .i64 yy, .int .i64 12, .int .i64 (n - ys yy c - cum yy 12 c + 1)]) (by simp [results, Tryd.results52, go_sem, *]) rfl ⟨⟨yy, 12, _, rfl, HF.out.1, HF.out.2⟩, ?_⟩
            exact (((kw.trans hk).setCell (Nat.le_refl _) _).setCell (Nat.le_refl _) _).setCell (Nat.le_refl _) _
          case' inr =>
            go_wp2_with (go_at_call 58; refine (mon_spec yy m c _ HC.out hy1 hy3 hm1 hm2).mono ?_; rintro e w' ⟨rfl, hk'⟩; (have hk2 := hk.trans hk'; have y0 := hk'.cell e0; have y1 := hk'.cell e1; have y2 := hk'.cell e2; have z0 := hk'.still e0 g0; have z1 := hk'.still e1 g1; have z2 := hk'.still e2 g2))
            refine bodyPost_ret (v := .agg #[.int .i64 yy, .int .i64 m, .int .i64 (n - ys yy c - cum yy m c + 1)]) (by simp [results, Tryd.results52, go_sem, *]) rfl ⟨⟨yy, m, _, rfl, HF.out.1, HF.out.2⟩, ?_⟩
            exact (((kw.trans hk2).setCell (Nat.le_refl _) _).setCell (Nat.le_refl _) _).setCell (Nat.le_refl _) _
end Go.Proofs.YtohoeonfoolpdaaDoor
