/- Sums between two days. -/
import Derived.Test.YtdccpdclpidnbacSn
import Derived.Deep.RegionLaw
import Derived.Deep.RegionWith
namespace Go.Proofs.Ytdccpdclpidnbac
open Go.RowKit
set_option linter.unusedVariables false

theorem smOk_ne {s : Int × Int} (h : ¬ ((-999999 ≤ s.1 ∧ s.1 ≤ 999999) ∧ 0 ≤ s.2 ∧ s.2 ≤ 99)) : smOk s = false := by
  cases h9 : smOk s
  · rfl
  · exact absurd (smOk_facts h9) h
set_option maxHeartbeats 1000000 in
theorem inl_any (t m : Int) (w : World) :
    Calls Try.prog 65 #[.agg #[.int .i64 t, .int .i64 m]] w fun e w' => e = .returned (.bool (smOk (t, m))) ∧ Keep w w' := by
  by_cases h0 : -999999 ≤ t
  case' neg =>
    have e : smOk (t, m) = false := smOk_ne (s := (t, m)) (fun h => h0 (by have := h.1; have := h.2; dsimp only at *; omega))
    have d0 : decide (-999999 ≤ t) = false := decide_eq_false h0
    rw [e]
    clear e
    go_enter Try.func65, Try.ntmps65
    go_wp2
    go_ret
    exact ⟨rfl, (Keep.refl w).alloc _⟩
  by_cases h1 : t ≤ 999999
  case' neg =>
    have e : smOk (t, m) = false := smOk_ne (s := (t, m)) (fun h => h1 (by have := h.1; have := h.2; dsimp only at *; omega))
    have d0 : decide (-999999 ≤ t) = true := decide_eq_true h0
    have d1 : decide (t ≤ 999999) = false := decide_eq_false h1
    rw [e]
    clear e
    go_enter Try.func65, Try.ntmps65
    go_wp2
    go_ret
    exact ⟨rfl, (Keep.refl w).alloc _⟩
  by_cases h2 : 0 ≤ m
  case' neg =>
    have e : smOk (t, m) = false := smOk_ne (s := (t, m)) (fun h => h2 (by have := h.1; have := h.2; dsimp only at *; omega))
    have d0 : decide (-999999 ≤ t) = true := decide_eq_true h0
    have d1 : decide (t ≤ 999999) = true := decide_eq_true h1
    have d2 : decide (0 ≤ m) = false := decide_eq_false h2
    rw [e]
    clear e
    go_enter Try.func65, Try.ntmps65
    go_wp2
    go_ret
    exact ⟨rfl, (Keep.refl w).alloc _⟩
  by_cases h3 : m ≤ 99
  case' neg =>
    have e : smOk (t, m) = false := smOk_ne (s := (t, m)) (fun h => h3 (by have := h.1; have := h.2; dsimp only at *; omega))
    have d0 : decide (-999999 ≤ t) = true := decide_eq_true h0
    have d1 : decide (t ≤ 999999) = true := decide_eq_true h1
    have d2 : decide (0 ≤ m) = true := decide_eq_true h2
    have d3 : decide (m ≤ 99) = false := decide_eq_false h3
    rw [e]
    clear e
    go_enter Try.func65, Try.ntmps65
    go_wp2
    go_ret
    exact ⟨rfl, (Keep.refl w).alloc _⟩
  have e : smOk (t, m) = true := smOk_mk (s := (t, m)) ⟨⟨h0, h1⟩, h2, h3⟩
  have d0 : decide (-999999 ≤ t) = true := decide_eq_true h0
  have d1 : decide (t ≤ 999999) = true := decide_eq_true h1
  have d2 : decide (0 ≤ m) = true := decide_eq_true h2
  have d3 : decide (m ≤ 99) = true := decide_eq_true h3
  rw [e]
  clear e
  go_enter Try.func65, Try.ntmps65
  go_wp2
  go_ret
  exact ⟨rfl, (Keep.refl w).alloc _⟩
set_option maxRecDepth 100000 in
set_option maxHeartbeats 4000000 in
theorem sb_impl (a : Option Addr) (c : Nat) (ss : List R2) (f t : Int) (w : World) (h : Rr w a ss) (hm : ss.length ≤ 1048576) (f0 : -1000000 ≤ f) (f1 : f ≤ 1000000) (t0 : -1000000 ≤ t) (t1 : t ≤ 1000000) :
    Calls Try.prog 37 #[.slice a ss.length c, .int .i64 f, .int .i64 t] w fun e w' => e = .returned (.tuple #[.agg #[.int .i64 (sbV ss f t).1, .int .i64 (sbV ss f t).2], .bool (sbB ss f t)]) ∧ Keep w w' := by
  by_cases h0 : 1 ≤ ss.length
  case' neg =>
    have e := sbB_len (ss := ss) (f := f) (t := t) (by omega)
    rw [sbV_no e, e]
    have d0 : decide (ss.length < 1) = true := decide_eq_true (by omega)
    clear e
    go_enter Try.func37, Try.ntmps37
    go_wp2
    refine bodyPost_ret (v := .tuple #[.agg #[.int .i64 0, .int .i64 0], .bool false]) (by simp [results, Try.results37, go_sem, *]) rfl ⟨rfl, ?_⟩
    first | exact (Keep.refl w).alloc _ | exact (((Keep.refl w).alloc _).setCell (by simp) _).setCell (by simp) _
  by_cases h1 : ss.length ≤ 13
  case' neg =>
    have e := sbB_len (ss := ss) (f := f) (t := t) (by omega)
    rw [sbV_no e, e]
    have d0 : decide (ss.length < 1) = false := decide_eq_false (by omega)
    have d1 : decide (13 < ss.length) = true := decide_eq_true (by omega)
    clear e
    go_enter Try.func37, Try.ntmps37
    go_wp2
    refine bodyPost_ret (v := .tuple #[.agg #[.int .i64 0, .int .i64 0], .bool false]) (by simp [results, Try.results37, go_sem, *]) rfl ⟨rfl, ?_⟩
    first | exact (Keep.refl w).alloc _ | exact (((Keep.refl w).alloc _).setCell (by simp) _).setCell (by simp) _
  by_cases h2 : 0 ≤ f
  case' neg =>
    have e := sbB_arg (ss := ss) (f := f) (t := t) (by omega)
    rw [sbV_no e, e]
    have d0 : decide (ss.length < 1) = false := decide_eq_false (by omega)
    have d1 : decide (13 < ss.length) = false := decide_eq_false (by omega)
    have d2 : decide (f < 0) = true := decide_eq_true (by omega)
    clear e
    go_enter Try.func37, Try.ntmps37
    go_wp2
    refine bodyPost_ret (v := .tuple #[.agg #[.int .i64 0, .int .i64 0], .bool false]) (by simp [results, Try.results37, go_sem, *]) rfl ⟨rfl, ?_⟩
    first | exact (Keep.refl w).alloc _ | exact (((Keep.refl w).alloc _).setCell (by simp) _).setCell (by simp) _
  by_cases h3 : f ≤ t
  case' neg =>
    have e := sbB_arg (ss := ss) (f := f) (t := t) (by omega)
    rw [sbV_no e, e]
    have d0 : decide (ss.length < 1) = false := decide_eq_false (by omega)
    have d1 : decide (13 < ss.length) = false := decide_eq_false (by omega)
    have d2 : decide (f < 0) = false := decide_eq_false (by omega)
    have d3 : decide (t < f) = true := decide_eq_true (by omega)
    clear e
    go_enter Try.func37, Try.ntmps37
    go_wp2
    refine bodyPost_ret (v := .tuple #[.agg #[.int .i64 0, .int .i64 0], .bool false]) (by simp [results, Try.results37, go_sem, *]) rfl ⟨rfl, ?_⟩
    first | exact (Keep.refl w).alloc _ | exact (((Keep.refl w).alloc _).setCell (by simp) _).setCell (by simp) _
  by_cases h4 : t < (ss.length : Int)
  case' neg =>
    have e := sbB_arg (ss := ss) (f := f) (t := t) (by omega)
    rw [sbV_no e, e]
    have d0 : decide (ss.length < 1) = false := decide_eq_false (by omega)
    have d1 : decide (13 < ss.length) = false := decide_eq_false (by omega)
    have d2 : decide (f < 0) = false := decide_eq_false (by omega)
    have d3 : decide (t < f) = false := decide_eq_false (by omega)
    have d4 : decide ((ss.length : Int) ≤ t) = true := decide_eq_true (by omega)
    clear e
    go_enter Try.func37, Try.ntmps37
    go_wp2
    refine bodyPost_ret (v := .tuple #[.agg #[.int .i64 0, .int .i64 0], .bool false]) (by simp [results, Try.results37, go_sem, *]) rfl ⟨rfl, ?_⟩
    first | exact (Keep.refl w).alloc _ | exact (((Keep.refl w).alloc _).setCell (by simp) _).setCell (by simp) _
  have d0 : decide (ss.length < 1) = false := decide_eq_false (by omega)
  have d1 : decide (13 < ss.length) = false := decide_eq_false (by omega)
  have d2 : decide (f < 0) = false := decide_eq_false (by omega)
  have d3 : decide (t < f) = false := decide_eq_false (by omega)
  have d4 : decide ((ss.length : Int) ≤ t) = false := decide_eq_false (by omega)
  obtain ⟨i, rfl⟩ : ∃ i : Nat, f = (i : Int) := ⟨f.toNat, by omega⟩
  obtain ⟨j, rfl⟩ : ∃ j : Nat, t = (j : Int) := ⟨t.toNat, by omega⟩
  have hij : i ≤ j := by omega
  have hjl : j < ss.length := by omega
  have hA := Lib.hid (fun (h3 : smOk (ss.getD i u0) = true) (h4 : smOk (ss.getD j u0) = true) => sbB_mk (ss := ss) (f := (i : Int)) (t := (j : Int)) (by omega) (by omega) h3 h4)
  have hB := Lib.hid (fun (h3 : smOk (ss.getD i u0) = false) => sbB_low (ss := ss) (f := (i : Int)) (t := (j : Int)) h3)
  have hC := Lib.hid (fun (h3 : smOk (ss.getD j u0) = false) => sbB_high (ss := ss) (f := (i : Int)) (t := (j : Int)) h3)
  obtain ⟨b, off, rfl, hb, hat⟩ := h.all (by omega)
  obtain ⟨x0, x1⟩ := hat i (by omega)
  obtain ⟨y0, y1⟩ := hat j (by omega)
  have hi0 : (0 : Int) ≤ (i : Int) := by omega
  have hi1 : (i : Int) < (ss.length : Int) := by omega
  have hj0 : (0 : Int) ≤ (j : Int) := by omega
  have hj1 : (j : Int) < (ss.length : Int) := by omega
  have hV := Lib.hid (fun (h : sbB ss (i : Int) (j : Int) = true) => sbV_yes h)
  have hV0 := Lib.hid (fun (h : sbB ss (i : Int) (j : Int) = false) => sbV_no h)
  simp only [Int.toNat_natCast] at hV
  have hpe : ss.getD i (0, 0) = ss.getD i u0 := rfl
  have hqe : ss.getD j (0, 0) = ss.getD j u0 := rfl
  rw [hpe, hqe] at hV
  clear hpe hqe hat
  generalize ss.getD i u0 = p at *
  generalize ss.getD j u0 = q at *
  obtain ⟨p1, p2⟩ := p
  obtain ⟨q1, q2⟩ := q
  unfold uL at x0 y0
  unfold uH at x1 y1
  dsimp only at x0 x1 y0 y1
  go_enter Try.func37, Try.ntmps37
  go_wp2_with fail
  have x0_1 : (w.alloc (.cells #[.int .i64 0, .int .i64 0] 41)).cell? ⟨b, off + i * 2, none⟩ = some (.int .i64 p1) := Keep.cell ((Keep.refl w).alloc (.cells #[.int .i64 0, .int .i64 0] 41)) x0
  have x1_1 : (w.alloc (.cells #[.int .i64 0, .int .i64 0] 41)).cell? ⟨b, off + i * 2 + 1, none⟩ = some (.int .i64 p2) := Keep.cell ((Keep.refl w).alloc (.cells #[.int .i64 0, .int .i64 0] 41)) x1
  have y0_1 : (w.alloc (.cells #[.int .i64 0, .int .i64 0] 41)).cell? ⟨b, off + j * 2, none⟩ = some (.int .i64 q1) := Keep.cell ((Keep.refl w).alloc (.cells #[.int .i64 0, .int .i64 0] 41)) y0
  have y1_1 : (w.alloc (.cells #[.int .i64 0, .int .i64 0] 41)).cell? ⟨b, off + j * 2 + 1, none⟩ = some (.int .i64 q2) := Keep.cell ((Keep.refl w).alloc (.cells #[.int .i64 0, .int .i64 0] 41)) y1
  have x0_2 : ((w.alloc (.cells #[.int .i64 0, .int .i64 0] 41)).alloc (.cells #[.int .i64 0, .int .i64 0] 41)).cell? ⟨b, off + i * 2, none⟩ = some (.int .i64 p1) := Keep.cell (((Keep.refl w).alloc (.cells #[.int .i64 0, .int .i64 0] 41)).alloc (.cells #[.int .i64 0, .int .i64 0] 41)) x0
  have x1_2 : ((w.alloc (.cells #[.int .i64 0, .int .i64 0] 41)).alloc (.cells #[.int .i64 0, .int .i64 0] 41)).cell? ⟨b, off + i * 2 + 1, none⟩ = some (.int .i64 p2) := Keep.cell (((Keep.refl w).alloc (.cells #[.int .i64 0, .int .i64 0] 41)).alloc (.cells #[.int .i64 0, .int .i64 0] 41)) x1
  have y0_2 : ((w.alloc (.cells #[.int .i64 0, .int .i64 0] 41)).alloc (.cells #[.int .i64 0, .int .i64 0] 41)).cell? ⟨b, off + j * 2, none⟩ = some (.int .i64 q1) := Keep.cell (((Keep.refl w).alloc (.cells #[.int .i64 0, .int .i64 0] 41)).alloc (.cells #[.int .i64 0, .int .i64 0] 41)) y0
  have y1_2 : ((w.alloc (.cells #[.int .i64 0, .int .i64 0] 41)).alloc (.cells #[.int .i64 0, .int .i64 0] 41)).cell? ⟨b, off + j * 2 + 1, none⟩ = some (.int .i64 q2) := Keep.cell (((Keep.refl w).alloc (.cells #[.int .i64 0, .int .i64 0] 41)).alloc (.cells #[.int .i64 0, .int .i64 0] 41)) y1
  have x0_3 : (((w.alloc (.cells #[.int .i64 0, .int .i64 0] 41)).alloc (.cells #[.int .i64 0, .int .i64 0] 41)).alloc (.cells #[.int .i64 0, .int .i64 0] 41)).cell? ⟨b, off + i * 2, none⟩ = some (.int .i64 p1) := Keep.cell ((((Keep.refl w).alloc (.cells #[.int .i64 0, .int .i64 0] 41)).alloc (.cells #[.int .i64 0, .int .i64 0] 41)).alloc (.cells #[.int .i64 0, .int .i64 0] 41)) x0
  have x1_3 : (((w.alloc (.cells #[.int .i64 0, .int .i64 0] 41)).alloc (.cells #[.int .i64 0, .int .i64 0] 41)).alloc (.cells #[.int .i64 0, .int .i64 0] 41)).cell? ⟨b, off + i * 2 + 1, none⟩ = some (.int .i64 p2) := Keep.cell ((((Keep.refl w).alloc (.cells #[.int .i64 0, .int .i64 0] 41)).alloc (.cells #[.int .i64 0, .int .i64 0] 41)).alloc (.cells #[.int .i64 0, .int .i64 0] 41)) x1
  have y0_3 : (((w.alloc (.cells #[.int .i64 0, .int .i64 0] 41)).alloc (.cells #[.int .i64 0, .int .i64 0] 41)).alloc (.cells #[.int .i64 0, .int .i64 0] 41)).cell? ⟨b, off + j * 2, none⟩ = some (.int .i64 q1) := Keep.cell ((((Keep.refl w).alloc (.cells #[.int .i64 0, .int .i64 0] 41)).alloc (.cells #[.int .i64 0, .int .i64 0] 41)).alloc (.cells #[.int .i64 0, .int .i64 0] 41)) y0
  have y1_3 : (((w.alloc (.cells #[.int .i64 0, .int .i64 0] 41)).alloc (.cells #[.int .i64 0, .int .i64 0] 41)).alloc (.cells #[.int .i64 0, .int .i64 0] 41)).cell? ⟨b, off + j * 2 + 1, none⟩ = some (.int .i64 q2) := Keep.cell ((((Keep.refl w).alloc (.cells #[.int .i64 0, .int .i64 0] 41)).alloc (.cells #[.int .i64 0, .int .i64 0] 41)).alloc (.cells #[.int .i64 0, .int .i64 0] 41)) y1
  have hn0 : b ≠ w.heap.size := by omega
  have hn1 : b ≠ w.heap.size + 1 := by omega
  have hn2 : b ≠ w.heap.size + 1 + 1 := by omega
  have hm0 : w.heap.size ≠ b := by omega
  have hm1 : w.heap.size + 1 ≠ b := by omega
  have hm2 : w.heap.size + 1 + 1 ≠ b := by omega
  have y0_a : ((w.alloc (.cells #[.int .i64 0, .int .i64 0] 41)).alloc (.cells #[.int .i64 p1, .int .i64 p2] 41)).cell? ⟨b, off + j * 2, none⟩ = some (.int .i64 q1) := Keep.cell (((Keep.refl w).alloc (.cells #[.int .i64 0, .int .i64 0] 41)).alloc (.cells #[.int .i64 p1, .int .i64 p2] 41)) y0
  have y1_a : ((w.alloc (.cells #[.int .i64 0, .int .i64 0] 41)).alloc (.cells #[.int .i64 p1, .int .i64 p2] 41)).cell? ⟨b, off + j * 2 + 1, none⟩ = some (.int .i64 q2) := Keep.cell (((Keep.refl w).alloc (.cells #[.int .i64 0, .int .i64 0] 41)).alloc (.cells #[.int .i64 p1, .int .i64 p2] 41)) y1
  have y0_b : (((w.alloc (.cells #[.int .i64 0, .int .i64 0] 41)).alloc (.cells #[.int .i64 p1, .int .i64 p2] 41)).alloc (.cells #[.int .i64 0, .int .i64 0] 41)).cell? ⟨b, off + j * 2, none⟩ = some (.int .i64 q1) := Keep.cell ((((Keep.refl w).alloc (.cells #[.int .i64 0, .int .i64 0] 41)).alloc (.cells #[.int .i64 p1, .int .i64 p2] 41)).alloc (.cells #[.int .i64 0, .int .i64 0] 41)) y0
  have y1_b : (((w.alloc (.cells #[.int .i64 0, .int .i64 0] 41)).alloc (.cells #[.int .i64 p1, .int .i64 p2] 41)).alloc (.cells #[.int .i64 0, .int .i64 0] 41)).cell? ⟨b, off + j * 2 + 1, none⟩ = some (.int .i64 q2) := Keep.cell ((((Keep.refl w).alloc (.cells #[.int .i64 0, .int .i64 0] 41)).alloc (.cells #[.int .i64 p1, .int .i64 p2] 41)).alloc (.cells #[.int .i64 0, .int .i64 0] 41)) y1
  have y0_c : (((w.alloc (.cells #[.int .i64 0, .int .i64 0] 41)).alloc (.cells #[.int .i64 0, .int .i64 0] 41)).alloc (.cells #[.int .i64 p1, .int .i64 p2] 41)).cell? ⟨b, off + j * 2, none⟩ = some (.int .i64 q1) := Keep.cell ((((Keep.refl w).alloc (.cells #[.int .i64 0, .int .i64 0] 41)).alloc (.cells #[.int .i64 0, .int .i64 0] 41)).alloc (.cells #[.int .i64 p1, .int .i64 p2] 41)) y0
  have y1_c : (((w.alloc (.cells #[.int .i64 0, .int .i64 0] 41)).alloc (.cells #[.int .i64 0, .int .i64 0] 41)).alloc (.cells #[.int .i64 p1, .int .i64 p2] 41)).cell? ⟨b, off + j * 2 + 1, none⟩ = some (.int .i64 q2) := Keep.cell ((((Keep.refl w).alloc (.cells #[.int .i64 0, .int .i64 0] 41)).alloc (.cells #[.int .i64 0, .int .i64 0] 41)).alloc (.cells #[.int .i64 p1, .int .i64 p2] 41)) y1
  go_region_law (fail)
  all_goals
    clear x0_1 x1_1 y0_1 y1_1 x0_2 x1_2 y0_2 y1_2 x0_3 x1_3 y0_3 y1_3 y0_a y1_a y0_b y1_b y0_c y1_c hn0 hn1 hn2 hm0 hm1 hm2 x0 x1 y0 y1 d0 d1 d2 d3 d4
    first
    | refine @abs_worldA (fun wq => Exit.then _ _ Exit.normal _ wq) (((w.alloc (.cells #[.int .i64 0, .int .i64 0] 41)).alloc (.cells #[.int .i64 p1, .int .i64 p2] 41)).alloc (.cells #[.int .i64 q1, .int .i64 q2] 41)).drew (fun wq => (wq.cell? ⟨w.heap.size + 1, 0, none⟩ = some (.int .i64 p1) ∧ wq.cell? ⟨w.heap.size + 1, 1, none⟩ = some (.int .i64 p2) ∧ wq.cell? ⟨w.heap.size + 1 + 1, 0, none⟩ = some (.int .i64 q1) ∧ wq.cell? ⟨w.heap.size + 1 + 1, 1, none⟩ = some (.int .i64 q2) ∧ (wq.cell? ⟨w.heap.size, 0, none⟩ = some (.int .i64 0) ∧ wq.cell? ⟨w.heap.size, 1, none⟩ = some (.int .i64 0)) ∧ (wq.frozen? ⟨w.heap.size, 0, none⟩ = false ∧ wq.frozen? ⟨w.heap.size, 1, none⟩ = false) ∧ Keep w wq)) ⟨by go_simp, by go_simp, by go_simp, by go_simp, ⟨by go_simp, by go_simp⟩, ⟨by go_simp, by go_simp⟩, ((((Keep.refl w).alloc (.cells #[.int .i64 0, .int .i64 0] 41)).alloc (.cells #[.int .i64 p1, .int .i64 p2] 41)).alloc (.cells #[.int .i64 q1, .int .i64 q2] 41)).drew⟩ ?_
    | refine @abs_worldA (fun wq => Exit.then _ _ Exit.normal _ wq) (((w.alloc (.cells #[.int .i64 0, .int .i64 0] 41)).alloc (.cells #[.int .i64 q1, .int .i64 q2] 41)).alloc (.cells #[.int .i64 p1, .int .i64 p2] 41)).drew (fun wq => (wq.cell? ⟨w.heap.size + 1 + 1, 0, none⟩ = some (.int .i64 p1) ∧ wq.cell? ⟨w.heap.size + 1 + 1, 1, none⟩ = some (.int .i64 p2) ∧ wq.cell? ⟨w.heap.size + 1, 0, none⟩ = some (.int .i64 q1) ∧ wq.cell? ⟨w.heap.size + 1, 1, none⟩ = some (.int .i64 q2) ∧ (wq.cell? ⟨w.heap.size, 0, none⟩ = some (.int .i64 0) ∧ wq.cell? ⟨w.heap.size, 1, none⟩ = some (.int .i64 0)) ∧ (wq.frozen? ⟨w.heap.size, 0, none⟩ = false ∧ wq.frozen? ⟨w.heap.size, 1, none⟩ = false) ∧ Keep w wq)) ⟨by go_simp, by go_simp, by go_simp, by go_simp, ⟨by go_simp, by go_simp⟩, ⟨by go_simp, by go_simp⟩, ((((Keep.refl w).alloc (.cells #[.int .i64 0, .int .i64 0] 41)).alloc (.cells #[.int .i64 q1, .int .i64 q2] 41)).alloc (.cells #[.int .i64 p1, .int .i64 p2] 41)).drew⟩ ?_
    rintro W ⟨s0, s1, r0, r1, ⟨n0, n1⟩, ⟨m0, m1⟩, kW⟩
    go_wp2_with fail
    refine (inl_any p1 p2 _).mono ?_
    rintro e w4 ⟨rfl, k4⟩
    have k4' := kW.trans k4
    have S0 := k4.cell s0
    have S1 := k4.cell s1
    have R0 := k4.cell r0
    have R1 := k4.cell r1
    have N0 := k4.cell n0
    have N1 := k4.cell n1
    have M0 := k4.still n0 m0
    have M1 := k4.still n1 m1
    clear s0 s1 r0 r1 n0 n1 m0 m1 kW k4
    rcases Bool.eq_false_or_eq_true (smOk (p1, p2)) with hp | hp
    case' inr =>
      have e := hB.out hp
      rw [hp]
      go_wp2
      refine bodyPost_ret (v := .tuple #[.agg #[.int .i64 0, .int .i64 0], .bool false]) (by simp [results, Try.results37, go_sem, *]) rfl ⟨by rw [hV0.out e, e], (k4'.setCell (Nat.le_refl _) _).setCell (Nat.le_refl _) _⟩
    rw [hp]
    go_wp2_with fail
    refine (inl_any q1 q2 _).mono ?_
    rintro e w5 ⟨rfl, k5⟩
    have k5' := k4'.trans k5
    have s0 := k5.cell S0
    have s1 := k5.cell S1
    have r0 := k5.cell R0
    have r1 := k5.cell R1
    have n0 := k5.cell N0
    have n1 := k5.cell N1
    have m0 := k5.still N0 M0
    have m1 := k5.still N1 M1
    clear S0 S1 R0 R1 N0 N1 M0 M1 k4' k5
    rcases Bool.eq_false_or_eq_true (smOk (q1, q2)) with hq | hq
    case' inr =>
      have e := hC.out hq
      rw [hq]
      go_wp2
      refine bodyPost_ret (v := .tuple #[.agg #[.int .i64 0, .int .i64 0], .bool false]) (by simp [results, Try.results37, go_sem, *]) rfl ⟨by rw [hV0.out e, e], (k5'.setCell (Nat.le_refl _) _).setCell (Nat.le_refl _) _⟩
    have e := hA.out hp hq
    obtain ⟨⟨a1, a2⟩, a3, a4⟩ := smOk_facts hp
    obtain ⟨⟨b1, b2⟩, b3, b4⟩ := smOk_facts hq
    dsimp only at a1 a2 a3 a4 b1 b2 b3 b4
    have pw1 : IntKind.i64.wrap (q1 - p1) = q1 - p1 := IntWalk.i64_in _ ⟨by omega, by omega⟩
    have pw2 : IntKind.i64.wrap (q2 - p2) = q2 - p2 := IntWalk.i64_in _ ⟨by omega, by omega⟩
    rw [hq]
    go_wp2
    refine bodyPost_ret (v := .tuple #[.agg #[.int .i64 (q1 - p1), .int .i64 (q2 - p2)], .bool true]) (by simp [results, Try.results37, go_sem, *]) rfl ⟨by rw [hV.out e, e], (k5'.setCell (Nat.le_refl _) _).setCell (Nat.le_refl _) _⟩
end Go.Proofs.Ytdccpdclpidnbac
