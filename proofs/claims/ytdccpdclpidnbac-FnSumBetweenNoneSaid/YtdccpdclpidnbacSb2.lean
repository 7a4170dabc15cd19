/- Sums between two days, of any days; the model's. -/
import Derived.Test.YtdccpdclpidnbacSb
import Derived.Test.YtdccpdclpidnbacRv
import Derived.Test.YtdccpdclpidnbacHt
namespace Go.Proofs.Ytdccpdclpidnbac
open Go.RowKit
set_option linter.unusedVariables false

set_option maxRecDepth 100000 in
set_option maxHeartbeats 4000000 in
theorem sb_implA (a : Option Addr) (c : Nat) (ss : List R2) (f t : Int) (w : World) (h : Rr w a ss) (hm : ss.length ≤ 1048576) :
    Calls Try.prog 37 #[.slice a ss.length c, .int .i64 f, .int .i64 t] w fun e w' => e = .returned (.tuple #[.agg #[.int .i64 (sbV ss f t).1, .int .i64 (sbV ss f t).2], .bool (sbB ss f t)]) ∧ Keep w w' := by
  by_cases hbd : (-1000000 ≤ f ∧ f ≤ 1000000) ∧ -1000000 ≤ t ∧ t ≤ 1000000
  · exact sb_impl a c ss f t w h hm hbd.1.1 hbd.1.2 hbd.2.1 hbd.2.2
  by_cases h0 : 1 ≤ ss.length
  case' neg =>
    have e := sbB_len (ss := ss) (f := f) (t := t) (by omega)
    rw [sbV_no e, e]
    have d0 : decide (ss.length < 1) = true := decide_eq_true (by omega)
    clear e hbd
    go_enter Try.func37, Try.ntmps37
    go_wp2
    refine bodyPost_ret (v := .tuple #[.agg #[.int .i64 0, .int .i64 0], .bool false]) (by simp [results, Try.results37, go_sem, *]) rfl ⟨rfl, ?_⟩
    first | exact (Keep.refl w).alloc _ | exact (((Keep.refl w).alloc _).setCell (by simp) _).setCell (by simp) _
  by_cases h1 : ss.length ≤ 13
  case' neg =>
    have e := sbB_len (ss := ss) (f := f) (t := t) (by omega)
    rw [sbV_no e, e]
    have d0 : decide (ss.length < 1) = false := decide_eq_false (by omega)
    have d1 : decide (13 < ss.length) = true := decide_eq_true (by omega)
    clear e hbd
    go_enter Try.func37, Try.ntmps37
    go_wp2
    refine bodyPost_ret (v := .tuple #[.agg #[.int .i64 0, .int .i64 0], .bool false]) (by simp [results, Try.results37, go_sem, *]) rfl ⟨rfl, ?_⟩
    first | exact (Keep.refl w).alloc _ | exact (((Keep.refl w).alloc _).setCell (by simp) _).setCell (by simp) _
  by_cases h2 : 0 ≤ f
  case' neg =>
    have e := sbB_arg (ss := ss) (f := f) (t := t) (by omega)
    rw [sbV_no e, e]
    have d0 : decide (ss.length < 1) = false := decide_eq_false (by omega)
    have d1 : decide (13 < ss.length) = false := decide_eq_false (by omega)
    have d2 : decide (f < 0) = true := decide_eq_true (by omega)
    clear e hbd
    go_enter Try.func37, Try.ntmps37
    go_wp2
    refine bodyPost_ret (v := .tuple #[.agg #[.int .i64 0, .int .i64 0], .bool false]) (by simp [results, Try.results37, go_sem, *]) rfl ⟨rfl, ?_⟩
    first | exact (Keep.refl w).alloc _ | exact (((Keep.refl w).alloc _).setCell (by simp) _).setCell (by simp) _
  by_cases h3 : f ≤ t
  case' neg =>
    have e := sbB_arg (ss := ss) (f := f) (t := t) (by omega)
    rw [sbV_no e, e]
    have d0 : decide (ss.length < 1) = false := decide_eq_false (by omega)
    have d1 : decide (13 < ss.length) = false := decide_eq_false (by omega)
    have d2 : decide (f < 0) = false := decide_eq_false (by omega)
    have d3 : decide (t < f) = true := decide_eq_true (by omega)
    clear e hbd
    go_enter Try.func37, Try.ntmps37
    go_wp2
    refine bodyPost_ret (v := .tuple #[.agg #[.int .i64 0, .int .i64 0], .bool false]) (by simp [results, Try.results37, go_sem, *]) rfl ⟨rfl, ?_⟩
    first | exact (Keep.refl w).alloc _ | exact (((Keep.refl w).alloc _).setCell (by simp) _).setCell (by simp) _
  by_cases h4 : t < (ss.length : Int)
  case' neg =>
    have e := sbB_arg (ss := ss) (f := f) (t := t) (by omega)
    rw [sbV_no e, e]
    have d0 : decide (ss.length < 1) = false := decide_eq_false (by omega)
    have d1 : decide (13 < ss.length) = false := decide_eq_false (by omega)
    have d2 : decide (f < 0) = false := decide_eq_false (by omega)
    have d3 : decide (t < f) = false := decide_eq_false (by omega)
    have d4 : decide ((ss.length : Int) ≤ t) = true := decide_eq_true (by omega)
    clear e hbd
    go_enter Try.func37, Try.ntmps37
    go_wp2
    refine bodyPost_ret (v := .tuple #[.agg #[.int .i64 0, .int .i64 0], .bool false]) (by simp [results, Try.results37, go_sem, *]) rfl ⟨rfl, ?_⟩
    first | exact (Keep.refl w).alloc _ | exact (((Keep.refl w).alloc _).setCell (by simp) _).setCell (by simp) _
  omega
set_option maxRecDepth 100000 in
set_option maxHeartbeats 4000000 in
theorem sb_specA (a : Option Addr) (c : Nat) (ss : List R2) (f t : Int) (w : World) (h : Rr w a ss) (hm : ss.length ≤ 1048576) :
    Calls Try.prog 39 #[.slice a ss.length c, .int .i64 f, .int .i64 t] w fun e w' => e = .returned (.tuple #[.agg #[.int .i64 (sbV ss f t).1, .int .i64 (sbV ss f t).2], .bool (sbB ss f t)]) ∧ Keep w w' := by
  have lw : IntKind.i64.wrap ((ss.length : Int) - 1) = (ss.length : Int) - 1 := IntWalk.i64_in _ ⟨by omega, by omega⟩
  by_cases h0 : 1 ≤ ss.length ∧ ss.length ≤ 13
  case' neg =>
    have e := sbB_len (ss := ss) (f := f) (t := t) (by omega)
    rw [sbV_no e, e]
    have i0 : inB (ss.length : Int) 1 13 = false := inB_no (by omega)
    clear e
    go_enter Try.func39, Try.ntmps39
    go_wp2_with fail
    refine (l6In_any _ _ _ _).mono ?_
    rintro e w1 ⟨rfl, rfl⟩
    rw [i0]
    go_wp2
    refine bodyPost_ret (v := .tuple #[.agg #[.int .i64 0, .int .i64 0], .bool false]) (by simp [results, Try.results39, go_sem, *]) rfl ⟨rfl, ?_⟩
    first | exact (Keep.refl w).alloc _ | exact (((Keep.refl w).alloc _).setCell (by simp) _).setCell (by simp) _
  have i0 : inB (ss.length : Int) 1 13 = true := inB_yes (by omega)
  by_cases h1 : 0 ≤ f ∧ f ≤ (ss.length : Int) - 1
  case' neg =>
    have e := sbB_arg (ss := ss) (f := f) (t := t) (by omega)
    rw [sbV_no e, e]
    have i1 : inB f 0 ((ss.length : Int) - 1) = false := inB_no (by omega)
    clear e
    go_enter Try.func39, Try.ntmps39
    go_wp2_with fail
    refine (l6In_any _ _ _ _).mono ?_
    rintro e w1 ⟨rfl, rfl⟩
    rw [i0]
    go_wp2_with fail
    refine (l6In_any _ _ _ _).mono ?_
    rintro e w1 ⟨rfl, rfl⟩
    rw [i1]
    go_wp2
    refine bodyPost_ret (v := .tuple #[.agg #[.int .i64 0, .int .i64 0], .bool false]) (by simp [results, Try.results39, go_sem, *]) rfl ⟨rfl, ?_⟩
    first | exact (Keep.refl w).alloc _ | exact (((Keep.refl w).alloc _).setCell (by simp) _).setCell (by simp) _
  have i1 : inB f 0 ((ss.length : Int) - 1) = true := inB_yes (by omega)
  by_cases h2 : f ≤ t ∧ t ≤ (ss.length : Int) - 1
  case' neg =>
    have e := sbB_arg (ss := ss) (f := f) (t := t) (by omega)
    rw [sbV_no e, e]
    have i2 : inB t f ((ss.length : Int) - 1) = false := inB_no (by omega)
    clear e
    go_enter Try.func39, Try.ntmps39
    go_wp2_with fail
    refine (l6In_any _ _ _ _).mono ?_
    rintro e w1 ⟨rfl, rfl⟩
    rw [i0]
    go_wp2_with fail
    refine (l6In_any _ _ _ _).mono ?_
    rintro e w1 ⟨rfl, rfl⟩
    rw [i1]
    go_wp2_with fail
    refine (l6In_any _ _ _ _).mono ?_
    rintro e w1 ⟨rfl, rfl⟩
    rw [i2]
    go_wp2
    refine bodyPost_ret (v := .tuple #[.agg #[.int .i64 0, .int .i64 0], .bool false]) (by simp [results, Try.results39, go_sem, *]) rfl ⟨rfl, ?_⟩
    first | exact (Keep.refl w).alloc _ | exact (((Keep.refl w).alloc _).setCell (by simp) _).setCell (by simp) _
  have i2 : inB t f ((ss.length : Int) - 1) = true := inB_yes (by omega)
  obtain ⟨i, rfl⟩ : ∃ i : Nat, f = (i : Int) := ⟨f.toNat, by omega⟩
  obtain ⟨j, rfl⟩ : ∃ j : Nat, t = (j : Int) := ⟨t.toNat, by omega⟩
  have hA := Lib.hid (fun (h3 : smOk (ss.getD i u0) = true) (h4 : smOk (ss.getD j u0) = true) => sbB_mk (ss := ss) (f := (i : Int)) (t := (j : Int)) (by omega) (by omega) h3 h4)
  have hB := Lib.hid (fun (h3 : smOk (ss.getD i u0) = false) => sbB_low (ss := ss) (f := (i : Int)) (t := (j : Int)) h3)
  have hC := Lib.hid (fun (h3 : smOk (ss.getD j u0) = false) => sbB_high (ss := ss) (f := (i : Int)) (t := (j : Int)) h3)
  obtain ⟨b, off, rfl, hb, hat⟩ := h.all (by omega)
  obtain ⟨x0, x1⟩ := hat i (by omega)
  obtain ⟨y0, y1⟩ := hat j (by omega)
  have hi0 : (0 : Int) ≤ (i : Int) := by omega
  have hi1 : (i : Int) < (ss.length : Int) := by omega
  have hj0 : (0 : Int) ≤ (j : Int) := by omega
  have hj1 : (j : Int) < (ss.length : Int) := by omega
  have hV := Lib.hid (fun (h : sbB ss (i : Int) (j : Int) = true) => sbV_yes h)
  have hV0 := Lib.hid (fun (h : sbB ss (i : Int) (j : Int) = false) => sbV_no h)
  simp only [Int.toNat_natCast] at hV
  have hpe : ss.getD i (0, 0) = ss.getD i u0 := rfl
  have hqe : ss.getD j (0, 0) = ss.getD j u0 := rfl
  rw [hpe, hqe] at hV
  clear hpe hqe hat
  generalize ss.getD i u0 = p at *
  generalize ss.getD j u0 = q at *
  obtain ⟨p1, p2⟩ := p
  obtain ⟨q1, q2⟩ := q
  unfold uL at x0 y0
  unfold uH at x1 y1
  dsimp only at x0 x1 y0 y1
  have Y0 : ((w.alloc (.cells #[.int .i64 0, .int .i64 0] 41)).alloc (.cells #[.int .i64 p1, .int .i64 p2] 41)).cell? ⟨b, off + j * 2, none⟩ = some (.int .i64 q1) := (((Keep.refl w).alloc _).alloc _).cell y0
  have Y1 : ((w.alloc (.cells #[.int .i64 0, .int .i64 0] 41)).alloc (.cells #[.int .i64 p1, .int .i64 p2] 41)).cell? ⟨b, off + j * 2 + 1, none⟩ = some (.int .i64 q2) := (((Keep.refl w).alloc _).alloc _).cell y1
  have X0 : (w.alloc (.cells #[.int .i64 0, .int .i64 0] 41)).cell? ⟨b, off + i * 2, none⟩ = some (.int .i64 p1) := ((Keep.refl w).alloc _).cell x0
  have X1 : (w.alloc (.cells #[.int .i64 0, .int .i64 0] 41)).cell? ⟨b, off + i * 2 + 1, none⟩ = some (.int .i64 p2) := ((Keep.refl w).alloc _).cell x1
  by_cases g0 : -999999 ≤ p1 ∧ p1 ≤ 999999
  case' neg =>
    have e := hB.out (smOk_ne (s := (p1, p2)) (by dsimp only; omega))
    have j0 : inB p1 (-999999) 999999 = false := inB_no (by omega)
    go_enter Try.func39, Try.ntmps39
    go_wp2_with fail
    refine (l6In_any _ _ _ _).mono ?_
    rintro e w1 ⟨rfl, rfl⟩
    rw [i0]
    go_wp2_with fail
    refine (l6In_any _ _ _ _).mono ?_
    rintro e w1 ⟨rfl, rfl⟩
    rw [i1]
    go_wp2_with fail
    refine (l6In_any _ _ _ _).mono ?_
    rintro e w1 ⟨rfl, rfl⟩
    rw [i2]
    go_wp2_with fail
    refine (l6In_any _ _ _ _).mono ?_
    rintro e w1 ⟨rfl, rfl⟩
    rw [j0]
    go_wp2
    refine bodyPost_ret (v := .tuple #[.agg #[.int .i64 0, .int .i64 0], .bool false]) (by simp [results, Try.results39, go_sem, *]) rfl ⟨by rw [hV0.out e, e], ?_⟩
    first | exact (((Keep.refl w).alloc _).alloc _).alloc _ | exact (((((Keep.refl w).alloc _).alloc _).alloc _).setCell (by simp) _).setCell (by simp) _
  have j0 : inB p1 (-999999) 999999 = true := inB_yes (by omega)
  by_cases g1 : -999999 ≤ q1 ∧ q1 ≤ 999999
  case' neg =>
    have e := hC.out (smOk_ne (s := (q1, q2)) (by dsimp only; omega))
    have j1 : inB q1 (-999999) 999999 = false := inB_no (by omega)
    go_enter Try.func39, Try.ntmps39
    go_wp2_with fail
    refine (l6In_any _ _ _ _).mono ?_
    rintro e w1 ⟨rfl, rfl⟩
    rw [i0]
    go_wp2_with fail
    refine (l6In_any _ _ _ _).mono ?_
    rintro e w1 ⟨rfl, rfl⟩
    rw [i1]
    go_wp2_with fail
    refine (l6In_any _ _ _ _).mono ?_
    rintro e w1 ⟨rfl, rfl⟩
    rw [i2]
    go_wp2_with fail
    refine (l6In_any _ _ _ _).mono ?_
    rintro e w1 ⟨rfl, rfl⟩
    rw [j0]
    go_wp2_with fail
    refine (l6In_any _ _ _ _).mono ?_
    rintro e w1 ⟨rfl, rfl⟩
    rw [j1]
    go_wp2
    refine bodyPost_ret (v := .tuple #[.agg #[.int .i64 0, .int .i64 0], .bool false]) (by simp [results, Try.results39, go_sem, *]) rfl ⟨by rw [hV0.out e, e], ?_⟩
    first | exact (((Keep.refl w).alloc _).alloc _).alloc _ | exact (((((Keep.refl w).alloc _).alloc _).alloc _).setCell (by simp) _).setCell (by simp) _
  have j1 : inB q1 (-999999) 999999 = true := inB_yes (by omega)
  by_cases g2 : 0 ≤ p2 ∧ p2 ≤ 99
  case' neg =>
    have e := hB.out (smOk_ne (s := (p1, p2)) (by dsimp only; omega))
    have j2 : inB p2 0 99 = false := inB_no (by omega)
    go_enter Try.func39, Try.ntmps39
    go_wp2_with fail
    refine (l6In_any _ _ _ _).mono ?_
    rintro e w1 ⟨rfl, rfl⟩
    rw [i0]
    go_wp2_with fail
    refine (l6In_any _ _ _ _).mono ?_
    rintro e w1 ⟨rfl, rfl⟩
    rw [i1]
    go_wp2_with fail
    refine (l6In_any _ _ _ _).mono ?_
    rintro e w1 ⟨rfl, rfl⟩
    rw [i2]
    go_wp2_with fail
    refine (l6In_any _ _ _ _).mono ?_
    rintro e w1 ⟨rfl, rfl⟩
    rw [j0]
    go_wp2_with fail
    refine (l6In_any _ _ _ _).mono ?_
    rintro e w1 ⟨rfl, rfl⟩
    rw [j1]
    go_wp2_with fail
    refine (l6In_any _ _ _ _).mono ?_
    rintro e w1 ⟨rfl, rfl⟩
    rw [j2]
    go_wp2
    refine bodyPost_ret (v := .tuple #[.agg #[.int .i64 0, .int .i64 0], .bool false]) (by simp [results, Try.results39, go_sem, *]) rfl ⟨by rw [hV0.out e, e], ?_⟩
    first | exact (((Keep.refl w).alloc _).alloc _).alloc _ | exact (((((Keep.refl w).alloc _).alloc _).alloc _).setCell (by simp) _).setCell (by simp) _
  have j2 : inB p2 0 99 = true := inB_yes (by omega)
  by_cases g3 : 0 ≤ q2 ∧ q2 ≤ 99
  case' neg =>
    have e := hC.out (smOk_ne (s := (q1, q2)) (by dsimp only; omega))
    have j3 : inB q2 0 99 = false := inB_no (by omega)
    go_enter Try.func39, Try.ntmps39
    go_wp2_with fail
    refine (l6In_any _ _ _ _).mono ?_
    rintro e w1 ⟨rfl, rfl⟩
    rw [i0]
    go_wp2_with fail
    refine (l6In_any _ _ _ _).mono ?_
    rintro e w1 ⟨rfl, rfl⟩
    rw [i1]
    go_wp2_with fail
    refine (l6In_any _ _ _ _).mono ?_
    rintro e w1 ⟨rfl, rfl⟩
    rw [i2]
    go_wp2_with fail
    refine (l6In_any _ _ _ _).mono ?_
    rintro e w1 ⟨rfl, rfl⟩
    rw [j0]
    go_wp2_with fail
    refine (l6In_any _ _ _ _).mono ?_
    rintro e w1 ⟨rfl, rfl⟩
    rw [j1]
    go_wp2_with fail
    refine (l6In_any _ _ _ _).mono ?_
    rintro e w1 ⟨rfl, rfl⟩
    rw [j2]
    go_wp2_with fail
    refine (l6In_any _ _ _ _).mono ?_
    rintro e w1 ⟨rfl, rfl⟩
    rw [j3]
    go_wp2
    refine bodyPost_ret (v := .tuple #[.agg #[.int .i64 0, .int .i64 0], .bool false]) (by simp [results, Try.results39, go_sem, *]) rfl ⟨by rw [hV0.out e, e], ?_⟩
    first | exact (((Keep.refl w).alloc _).alloc _).alloc _ | exact (((((Keep.refl w).alloc _).alloc _).alloc _).setCell (by simp) _).setCell (by simp) _
  have j3 : inB q2 0 99 = true := inB_yes (by omega)
  have e := hA.out (smOk_mk (s := (p1, p2)) ⟨g0, g2⟩) (smOk_mk (s := (q1, q2)) ⟨g1, g3⟩)
  have pw1 : IntKind.i64.wrap (q1 - p1) = q1 - p1 := IntWalk.i64_in _ ⟨by omega, by omega⟩
  have pw2 : IntKind.i64.wrap (q2 - p2) = q2 - p2 := IntWalk.i64_in _ ⟨by omega, by omega⟩
  go_enter Try.func39, Try.ntmps39
  go_wp2_with fail
  refine (l6In_any _ _ _ _).mono ?_
  rintro e w1 ⟨rfl, rfl⟩
  rw [i0]
  go_wp2_with fail
  refine (l6In_any _ _ _ _).mono ?_
  rintro e w1 ⟨rfl, rfl⟩
  rw [i1]
  go_wp2_with fail
  refine (l6In_any _ _ _ _).mono ?_
  rintro e w1 ⟨rfl, rfl⟩
  rw [i2]
  go_wp2_with fail
  refine (l6In_any _ _ _ _).mono ?_
  rintro e w1 ⟨rfl, rfl⟩
  rw [j0]
  go_wp2_with fail
  refine (l6In_any _ _ _ _).mono ?_
  rintro e w1 ⟨rfl, rfl⟩
  rw [j1]
  go_wp2_with fail
  refine (l6In_any _ _ _ _).mono ?_
  rintro e w1 ⟨rfl, rfl⟩
  rw [j2]
  go_wp2_with fail
  refine (l6In_any _ _ _ _).mono ?_
  rintro e w1 ⟨rfl, rfl⟩
  rw [j3]
  go_wp2
  refine bodyPost_ret (v := .tuple #[.agg #[.int .i64 (q1 - p1), .int .i64 (q2 - p2)], .bool true]) (by simp [results, Try.results39, go_sem, *]) rfl ⟨by rw [hV.out e, e], ?_⟩
  first | exact (((Keep.refl w).alloc _).alloc _).alloc _ | exact (((((Keep.refl w).alloc _).alloc _).alloc _).setCell (by simp) _).setCell (by simp) _
end Go.Proofs.Ytdccpdclpidnbac
