/- How dates are drawn. -/
import Derived.Test.YthlabofegjfmfaaDoorDrCal
import Derived.Deep.RegionHeld3
import Derived.Deep.DeepCutAuto
namespace Go.Proofs.YthlabofegjfmfaaDoor
open Go.RowKit
set_option linter.unusedVariables false

def DrewDate (w : World) (B p k : Nat) (e : Ending) (w' : World) : Prop :=
  ∃ (y m d : Int) (q : Nat), e = .returned (.agg #[.int .i64 y, .int .i64 m, .int .i64 d]) ∧ (0 ≤ y ∧ y ≤ 2300) ∧ (0 ≤ m ∧ m ≤ 40) ∧ (0 ≤ d ∧ d ≤ 40) ∧ q ≤ p + k ∧ Rd w' B q ∧ Only B w w'

set_option maxHeartbeats 4000000 in
theorem drawDate (B p : Nat) (w : World) (hp : p ≤ 800000) (hr : Rd w B p) :
    Calls Tryd.prog 40 #[.pointer (some ⟨B, 0, none⟩)] w (DrewDate w B p 8) := by
  have hBR := hr.lt
  go_enter Tryd.func40, Tryd.ntmps40
  go_wp2_with fail
  refine (drawYear B p _ (by omega) (hr.alloc _)).mono ?_
  rintro e w1 ⟨y, q1, rfl, hy1, hy2, hq1, hr1, ho1⟩
  go_wp2_with fail
  refine (pick_any B q1 12 _ (by omega) (by omega) hr1).mono ?_
  rintro e w2 ⟨m0, rfl, hm0, hm1, hr2, ho2, _⟩
  go_wp2_with fail
  refine (pick_any B (q1 + 1) 31 _ (by omega) (by omega) hr2).mono ?_
  rintro e w3 ⟨d0, rfl, hd0, hd1, hr3, ho3, _⟩
  obtain ⟨m', hm'⟩ : ∃ m', m' = 1 + m0 := ⟨_, rfl⟩
  obtain ⟨d', hd'⟩ : ∃ d', d' = 1 + d0 := ⟨_, rfl⟩
  have ho := (ho1.trans ho2).trans ho3
  have z3 := ho.size
  simp at z3
  have hB3 := hr3.lt
  clear ho1 ho2 ho3 hr1 hr2
  go_wp2_with fail
  rw [← hm', ← hd']
  have M1 : 0 ≤ m' := by omega
  have M2 : m' ≤ 12 := by omega
  have D1 : 0 ≤ d' := by omega
  have D2 : d' ≤ 31 := by omega
  clear hm' hd'
  refine (pick_any B (q1 + 1 + 1) 10 _ (by omega) (by omega) (hr3.alloc _)).mono ?_
  rintro e w4 ⟨z, rfl, hz0, hz1, hr4, ho4, _⟩
  have z4 := ho4.size
  simp at z4
  have hB4 := hr4.lt
  have hzz : z = 0 ∨ z = 1 ∨ z = 2 ∨ z = 3 ∨ ((z == 0) = false ∧ (z == 1) = false ∧ (z == 2) = false ∧ (z == 3) = false) := by
    by_cases h : z = 0 <;> by_cases h' : z = 1 <;> by_cases h'' : z = 2 <;> by_cases h3 : z = 3 <;> simp [h, h', h'', h3]
  rcases hzz with rfl | rfl | rfl | rfl | ⟨e0, e1, e2, e3⟩
  · clear hz0 hz1
    have s0 := newCellO ho4 hB3 0 _ rfl
    have g0 := newFrozenO ho4 hB3 0
    have s1 := newCellO ho4 hB3 1 _ rfl
    have g1 := newFrozenO ho4 hB3 1
    have s2 := newCellO ho4 hB3 2 _ rfl
    have g2 := newFrozenO ho4 hB3 2
    have hk := (ho.alloc _).trans ho4
    have r0 := newCellO hk hBR 0 _ rfl
    have f0 := newFrozenO hk hBR 0
    have r1 := newCellO hk hBR 1 _ rfl
    have f1 := newFrozenO hk hBR 1
    have r2 := newCellO hk hBR 2 _ rfl
    have f2 := newFrozenO hk hBR 2
    have hfin := ((Only.refl B w).alloc _).trans hk
    go_wp2_with fail
    refine (pick_any B (q1 + 1 + 1 + 1) 3 _ (by omega) (by omega) (hr4.setCell (by omega) _)).mono ?_
    rintro e w5 ⟨x, rfl, hx0, hx1, hr5, ho5, _⟩
    have z5 := ho5.size
    simp [World.setCell] at z5
    have w3lt : w3.heap.size < (w4.setCell ⟨w3.heap.size, 1, none⟩ (.int .i64 2)).heap.size := by simp [World.setCell]; omega
    have wlt : w.heap.size < (w4.setCell ⟨w3.heap.size, 1, none⟩ (.int .i64 2)).heap.size := by simp [World.setCell]; omega
    have S0 : w5.cell? ⟨w3.heap.size, 0, none⟩ = some (.int .i64 y) := ((ho5.cell _ _ w3lt (by omega)).trans (World.cell?_setCell_other _ _ _ _ (by simp))).trans s0
    have G0 : w5.frozen? ⟨w3.heap.size, 0, none⟩ = false := ((ho5.frozen _ _ w3lt (by omega)).trans (World.frozen?_setCell _ _ _ _)).trans g0
    have S1 : w5.cell? ⟨w3.heap.size, 1, none⟩ = some (.int .i64 2) := (ho5.cell _ _ w3lt (by omega)).trans (World.cell?_setCell_same _ _ _ s1)
    have G1 : w5.frozen? ⟨w3.heap.size, 1, none⟩ = false := ((ho5.frozen _ _ w3lt (by omega)).trans (World.frozen?_setCell _ _ _ _)).trans g1
    have S2 : w5.cell? ⟨w3.heap.size, 2, none⟩ = some (.int .i64 d') := ((ho5.cell _ _ w3lt (by omega)).trans (World.cell?_setCell_other _ _ _ _ (by simp))).trans s2
    have G2 : w5.frozen? ⟨w3.heap.size, 2, none⟩ = false := ((ho5.frozen _ _ w3lt (by omega)).trans (World.frozen?_setCell _ _ _ _)).trans g2
    have R0 : w5.cell? ⟨w.heap.size, 0, none⟩ = some (.int .i64 0) := ((ho5.cell _ _ wlt (by omega)).trans (World.cell?_setCell_other _ _ _ _ (by intro h; simp only [Addr.mk.injEq] at h; omega))).trans r0
    have F0 : w5.frozen? ⟨w.heap.size, 0, none⟩ = false := ((ho5.frozen _ _ wlt (by omega)).trans (World.frozen?_setCell _ _ _ _)).trans f0
    have R1 : w5.cell? ⟨w.heap.size, 1, none⟩ = some (.int .i64 0) := ((ho5.cell _ _ wlt (by omega)).trans (World.cell?_setCell_other _ _ _ _ (by intro h; simp only [Addr.mk.injEq] at h; omega))).trans r1
    have F1 : w5.frozen? ⟨w.heap.size, 1, none⟩ = false := ((ho5.frozen _ _ wlt (by omega)).trans (World.frozen?_setCell _ _ _ _)).trans f1
    have R2 : w5.cell? ⟨w.heap.size, 2, none⟩ = some (.int .i64 0) := ((ho5.cell _ _ wlt (by omega)).trans (World.cell?_setCell_other _ _ _ _ (by intro h; simp only [Addr.mk.injEq] at h; omega))).trans r2
    have F2 : w5.frozen? ⟨w.heap.size, 2, none⟩ = false := ((ho5.frozen _ _ wlt (by omega)).trans (World.frozen?_setCell _ _ _ _)).trans f2
    have hfin5 := (hfin.setCell (b := w3.heap.size) (o := 1) (by omega) (.int .i64 2)).trans ho5
    clear s0 s1 s2 g0 g1 g2 r0 r1 r2 f0 f1 f2 hfin hk
    have hfin := hfin5
    go_wp2
    refine bodyPost_ret (v := .agg #[.int .i64 y, .int .i64 2, .int .i64 (28 + x)]) (by simp [results, Tryd.results40, go_sem, *]) rfl ⟨_, _, _, (q1 + 1 + 1 + 1 + 1), rfl, ⟨by omega, by omega⟩, ⟨by omega, by omega⟩, ⟨by omega, by omega⟩, by omega, ?_, ?_⟩
    · exact ((((hr5.setCell (by omega) _).setCell (by omega) _).setCell (by omega) _).setCell (by omega) _)
    · exact ((((hfin.setCell (by omega) _).setCell (by omega) _).setCell (by omega) _).setCell (by omega) _)
  · clear hz0 hz1
    go_wp2_with fail
    refine (pick_any B (q1 + 1 + 1 + 1) 3 _ (by omega) (by omega) hr4).mono ?_
    rintro e w5 ⟨x, rfl, hx0, hx1, hr5, ho5, _⟩
    have z5 := ho5.size
    have ho45 := ho4.trans ho5
    have s0 := newCellO ho45 hB3 0 _ rfl
    have g0 := newFrozenO ho45 hB3 0
    have s1 := newCellO ho45 hB3 1 _ rfl
    have g1 := newFrozenO ho45 hB3 1
    have s2 := newCellO ho45 hB3 2 _ rfl
    have g2 := newFrozenO ho45 hB3 2
    have hk := (ho.alloc _).trans ho45
    have r0 := newCellO hk hBR 0 _ rfl
    have f0 := newFrozenO hk hBR 0
    have r1 := newCellO hk hBR 1 _ rfl
    have f1 := newFrozenO hk hBR 1
    have r2 := newCellO hk hBR 2 _ rfl
    have f2 := newFrozenO hk hBR 2
    have hfin := ((Only.refl B w).alloc _).trans hk
    go_wp2
    refine bodyPost_ret (v := .agg #[.int .i64 y, .int .i64 m', .int .i64 (30 + x)]) (by simp [results, Tryd.results40, go_sem, *]) rfl ⟨_, _, _, (q1 + 1 + 1 + 1 + 1), rfl, ⟨by omega, by omega⟩, ⟨by omega, by omega⟩, ⟨by omega, by omega⟩, by omega, ?_, ?_⟩
    · exact ((((hr5.setCell (by omega) _).setCell (by omega) _).setCell (by omega) _).setCell (by omega) _)
    · exact ((((hfin.setCell (by omega) _).setCell (by omega) _).setCell (by omega) _).setCell (by omega) _)
  · clear hz0 hz1
    go_wp2_with fail
    refine (pick_any B (q1 + 1 + 1 + 1) 2 _ (by omega) (by omega) hr4).mono ?_
    rintro e w5 ⟨x, rfl, hx0, hx1, hr5, ho5, _⟩
    have z5 := ho5.size
    have ho45 := ho4.trans ho5
    have s0 := newCellO ho45 hB3 0 _ rfl
    have g0 := newFrozenO ho45 hB3 0
    have s1 := newCellO ho45 hB3 1 _ rfl
    have g1 := newFrozenO ho45 hB3 1
    have s2 := newCellO ho45 hB3 2 _ rfl
    have g2 := newFrozenO ho45 hB3 2
    have hk := (ho.alloc _).trans ho45
    have r0 := newCellO hk hBR 0 _ rfl
    have f0 := newFrozenO hk hBR 0
    have r1 := newCellO hk hBR 1 _ rfl
    have f1 := newFrozenO hk hBR 1
    have r2 := newCellO hk hBR 2 _ rfl
    have f2 := newFrozenO hk hBR 2
    have hfin := ((Only.refl B w).alloc _).trans hk
    go_wp2
    refine bodyPost_ret (v := .agg #[.int .i64 y, .int .i64 m', .int .i64 x]) (by simp [results, Tryd.results40, go_sem, *]) rfl ⟨_, _, _, (q1 + 1 + 1 + 1 + 1), rfl, ⟨by omega, by omega⟩, ⟨by omega, by omega⟩, ⟨by omega, by omega⟩, by omega, ?_, ?_⟩
    · exact ((((hr5.setCell (by omega) _).setCell (by omega) _).setCell (by omega) _).setCell (by omega) _)
    · exact ((((hfin.setCell (by omega) _).setCell (by omega) _).setCell (by omega) _).setCell (by omega) _)
  · clear hz0 hz1
    go_wp2_with fail
    refine (pick_any B (q1 + 1 + 1 + 1) 4 _ (by omega) (by omega) (hr4.alloc _)).mono ?_
    rintro e w5 ⟨x, rfl, hx0, hx1, hr5, ho5, _⟩
    have z5 := ho5.size
    simp at z5
    obtain ⟨u, hu, ct⟩ := newCellAny [0, 1, 12, 13] ho5 hr4.lt x hx0 hx1
    have hu1 : 0 ≤ u := by simp at hu; omega
    have hu2 : u ≤ 13 := by simp at hu; omega
    clear hu
    have ho45 := (ho4.alloc (.cells (([0, 1, 12, 13] : List Int).map (Value.int .i64)).toArray 3)).trans ho5
    have s0 := newCellO ho45 hB3 0 _ rfl
    have g0 := newFrozenO ho45 hB3 0
    have s1 := newCellO ho45 hB3 1 _ rfl
    have g1 := newFrozenO ho45 hB3 1
    have s2 := newCellO ho45 hB3 2 _ rfl
    have g2 := newFrozenO ho45 hB3 2
    have hk := (ho.alloc _).trans ho45
    have r0 := newCellO hk hBR 0 _ rfl
    have f0 := newFrozenO hk hBR 0
    have r1 := newCellO hk hBR 1 _ rfl
    have f1 := newFrozenO hk hBR 1
    have r2 := newCellO hk hBR 2 _ rfl
    have f2 := newFrozenO hk hBR 2
    have hfin := ((Only.refl B w).alloc _).trans hk
    go_wp2
    refine bodyPost_ret (v := .agg #[.int .i64 y, .int .i64 u, .int .i64 d']) (by simp [results, Tryd.results40, go_sem, *]) rfl ⟨_, _, _, (q1 + 1 + 1 + 1 + 1), rfl, ⟨by omega, by omega⟩, ⟨by omega, by omega⟩, ⟨by omega, by omega⟩, by omega, ?_, ?_⟩
    · exact ((((hr5.setCell (by omega) _).setCell (by omega) _).setCell (by omega) _).setCell (by omega) _)
    · exact ((((hfin.setCell (by omega) _).setCell (by omega) _).setCell (by omega) _).setCell (by omega) _)
  · have s0 := newCellO ho4 hB3 0 _ rfl
    have g0 := newFrozenO ho4 hB3 0
    have s1 := newCellO ho4 hB3 1 _ rfl
    have g1 := newFrozenO ho4 hB3 1
    have s2 := newCellO ho4 hB3 2 _ rfl
    have g2 := newFrozenO ho4 hB3 2
    have hk := (ho.alloc _).trans ho4
    have r0 := newCellO hk hBR 0 _ rfl
    have f0 := newFrozenO hk hBR 0
    have r1 := newCellO hk hBR 1 _ rfl
    have f1 := newFrozenO hk hBR 1
    have r2 := newCellO hk hBR 2 _ rfl
    have f2 := newFrozenO hk hBR 2
    have hfin := ((Only.refl B w).alloc _).trans hk
    go_wp2
    refine bodyPost_ret (v := .agg #[.int .i64 y, .int .i64 m', .int .i64 d']) (by simp [results, Tryd.results40, go_sem, *]) rfl ⟨_, _, _, (q1 + 1 + 1 + 1), rfl, ⟨by omega, by omega⟩, ⟨by omega, by omega⟩, ⟨by omega, by omega⟩, by omega, ?_, ?_⟩
    · exact (((hr4.setCell (by omega) _).setCell (by omega) _).setCell (by omega) _)
    · exact (((hfin.setCell (by omega) _).setCell (by omega) _).setCell (by omega) _)
def DrewDC (w : World) (e : Ending) (w' : World) : Prop :=
  ∃ y m d c : Int, e = .returned (.tuple #[.agg #[.int .i64 y, .int .i64 m, .int .i64 d], .int .i64 c]) ∧ (0 ≤ y ∧ y ≤ 2300) ∧ (0 ≤ m ∧ m ≤ 40) ∧ (0 ≤ d ∧ d ≤ 40) ∧ (0 ≤ c ∧ c ≤ 3) ∧ Keep w w'
set_option maxHeartbeats 2000000 in
theorem drawDateValid (a0 : Option Addr) (len cap : Nat) (w : World) (ha : CodeArg w a0 len cap) :
    Calls Tryd.prog 26 #[.slice a0 len cap] w (DrewDC w) := by
  have ha1 := fun (o0 : Obj) => ha.below ((Keep.refl w).alloc o0).below
  go_enter Tryd.func26, Tryd.ntmps26
  go_wp2_with fail
  refine (open_any a0 len cap _ (ha1 _)).mono ?_
  rintro e w1 ⟨rfl, hr0, hb0, hs0⟩
  have hr : Rd w1 (w.heap.size + 1) 0 := by simpa using hr0
  have hk1 : Keep w w1 := ((Keep.refl w).alloc _).trans hb0
  have hs : w.heap.size + 1 < w1.heap.size := by simp at hs0; omega
  have p0 : w1.cell? ⟨w.heap.size, 0, none⟩ = some (.int .i64 0) := Keep.cell hb0 (by go_simp)
  have x0 : w1.frozen? ⟨w.heap.size, 0, none⟩ = false := Keep.still (v := .int .i64 0) hb0 (by go_simp) (by go_simp)
  have p1 : w1.cell? ⟨w.heap.size, 1, none⟩ = some (.int .i64 0) := Keep.cell hb0 (by go_simp)
  have x1 : w1.frozen? ⟨w.heap.size, 1, none⟩ = false := Keep.still (v := .int .i64 0) hb0 (by go_simp) (by go_simp)
  have p2 : w1.cell? ⟨w.heap.size, 2, none⟩ = some (.int .i64 0) := Keep.cell hb0 (by go_simp)
  have x2 : w1.frozen? ⟨w.heap.size, 2, none⟩ = false := Keep.still (v := .int .i64 0) hb0 (by go_simp) (by go_simp)
  clear hr0 hs0 hb0
  go_wp2_with fail
  refine (drawDate _ 0 _ (by omega) hr).mono ?_
  rintro e w2 ⟨y, m, d, q, rfl, hy, hm, hd, hq, hr2, ho⟩
  have hz2 := ho.size
  have hb2 := hr2.lt
  have P0 := (ho.cell _ _ (show w.heap.size < w1.heap.size by omega) (by omega)).trans p0
  have X0 := (ho.frozen _ _ (show w.heap.size < w1.heap.size by omega) (by omega)).trans x0
  have P1 := (ho.cell _ _ (show w.heap.size < w1.heap.size by omega) (by omega)).trans p1
  have X1 := (ho.frozen _ _ (show w.heap.size < w1.heap.size by omega) (by omega)).trans x1
  have P2 := (ho.cell _ _ (show w.heap.size < w1.heap.size by omega) (by omega)).trans p2
  have X2 := (ho.frozen _ _ (show w.heap.size < w1.heap.size by omega) (by omega)).trans x2
  go_wp2_with fail
  have rd : Rd (w2.alloc (.cells #[.int .i64 y, .int .i64 m, .int .i64 d] 24)) (w.heap.size + 1) q := hr2.alloc _
  have hO : Only (w.heap.size + 1) w1 (w2.alloc (.cells #[.int .i64 y, .int .i64 m, .int .i64 d] 24)) := ho.alloc _
  have b0 : (w2.alloc (.cells #[.int .i64 y, .int .i64 m, .int .i64 d] 24)).cell? ⟨w2.heap.size, 0, none⟩ = some (.int .i64 y) := by go_simp
  have u0 : (w2.alloc (.cells #[.int .i64 y, .int .i64 m, .int .i64 d] 24)).cell? ⟨w.heap.size, 0, none⟩ = some (.int .i64 0) := (World.cell?_alloc_lt _ _ _ (show w.heap.size < w2.heap.size by omega)).trans P0
  have v0 : (w2.alloc (.cells #[.int .i64 y, .int .i64 m, .int .i64 d] 24)).frozen? ⟨w.heap.size, 0, none⟩ = false := (World.frozen?_alloc_old _ _ _ (by show w.heap.size ≠ _; omega)).trans X0
  have b1 : (w2.alloc (.cells #[.int .i64 y, .int .i64 m, .int .i64 d] 24)).cell? ⟨w2.heap.size, 1, none⟩ = some (.int .i64 m) := by go_simp
  have u1 : (w2.alloc (.cells #[.int .i64 y, .int .i64 m, .int .i64 d] 24)).cell? ⟨w.heap.size, 1, none⟩ = some (.int .i64 0) := (World.cell?_alloc_lt _ _ _ (show w.heap.size < w2.heap.size by omega)).trans P1
  have v1 : (w2.alloc (.cells #[.int .i64 y, .int .i64 m, .int .i64 d] 24)).frozen? ⟨w.heap.size, 1, none⟩ = false := (World.frozen?_alloc_old _ _ _ (by show w.heap.size ≠ _; omega)).trans X1
  have b2 : (w2.alloc (.cells #[.int .i64 y, .int .i64 m, .int .i64 d] 24)).cell? ⟨w2.heap.size, 2, none⟩ = some (.int .i64 d) := by go_simp
  have u2 : (w2.alloc (.cells #[.int .i64 y, .int .i64 m, .int .i64 d] 24)).cell? ⟨w.heap.size, 2, none⟩ = some (.int .i64 0) := (World.cell?_alloc_lt _ _ _ (show w.heap.size < w2.heap.size by omega)).trans P2
  have v2 : (w2.alloc (.cells #[.int .i64 y, .int .i64 m, .int .i64 d] 24)).frozen? ⟨w.heap.size, 2, none⟩ = false := (World.frozen?_alloc_old _ _ _ (by show w.heap.size ≠ _; omega)).trans X2
  have zg : w2.heap.size < (w2.alloc (.cells #[.int .i64 y, .int .i64 m, .int .i64 d] 24)).heap.size := by simp
  have zb : w.heap.size < (w2.alloc (.cells #[.int .i64 y, .int .i64 m, .int .i64 d] 24)).heap.size := by simp; omega
  have zn : w2.heap.size ≠ w.heap.size + 1 := by omega
  have zm : w1.heap.size ≤ w2.heap.size := hz2
  clear ho hr2 hb2 hz2 P0 P1 P2 X0 X1 X2 p0 p1 p2 x0 x1 x2
  generalize (w2.alloc (.cells #[.int .i64 y, .int .i64 m, .int .i64 d] 24)) = W2 at *
  generalize w2.heap.size = g at *
  have n1 : g ≠ w.heap.size := by omega
  have n2 : w.heap.size ≠ g := by omega
  go_region_held3 (fun w' => w'.cell? ⟨g, 0, none⟩ = some (.int .i64 y) ∧ w'.cell? ⟨g, 1, none⟩ = some (.int .i64 m) ∧ w'.cell? ⟨g, 2, none⟩ = some (.int .i64 d)) ((first | (go_simp; done) | exact ⟨b0, b1, b2⟩ | exact ⟨b0', b1', b2'⟩ | go_keep))
    (first | (go_at_call 39; refine (drawCal (w.heap.size + 1) q _ (by omega) (rd.drewN 1)).mono ?_; rintro e w3 ⟨c, q3, rfl, hc1, hc2, hq3, hr3, ho3⟩; have z3 : W2.heap.size ≤ w3.heap.size := ho3.size; have b0' : w3.cell? ⟨g, 0, none⟩ = some (.int .i64 y) := (ho3.cell _ _ (show g < W2.heap.size by omega) (by omega)).trans b0; have b1' : w3.cell? ⟨g, 1, none⟩ = some (.int .i64 m) := (ho3.cell _ _ (show g < W2.heap.size by omega) (by omega)).trans b1; have b2' : w3.cell? ⟨g, 2, none⟩ = some (.int .i64 d) := (ho3.cell _ _ (show g < W2.heap.size by omega) (by omega)).trans b2; have u0' : w3.cell? ⟨w.heap.size, 0, none⟩ = some (.int .i64 0) := (ho3.cell _ _ (show w.heap.size < W2.heap.size by omega) (by omega)).trans u0; have v0' : w3.frozen? ⟨w.heap.size, 0, none⟩ = false := (ho3.frozen _ _ (show w.heap.size < W2.heap.size by omega) (by omega)).trans v0; have u1' : w3.cell? ⟨w.heap.size, 1, none⟩ = some (.int .i64 0) := (ho3.cell _ _ (show w.heap.size < W2.heap.size by omega) (by omega)).trans u1; have v1' : w3.frozen? ⟨w.heap.size, 1, none⟩ = false := (ho3.frozen _ _ (show w.heap.size < W2.heap.size by omega) (by omega)).trans v1; have u2' : w3.cell? ⟨w.heap.size, 2, none⟩ = some (.int .i64 0) := (ho3.cell _ _ (show w.heap.size < W2.heap.size by omega) (by omega)).trans u2; have v2' : w3.frozen? ⟨w.heap.size, 2, none⟩ = false := (ho3.frozen _ _ (show w.heap.size < W2.heap.size by omega) (by omega)).trans v2))
  all_goals
    go_wp2
    refine bodyPost_ret (v := .tuple #[.agg #[.int .i64 y, .int .i64 m, .int .i64 d], .int .i64 c]) (by simp [results, Tryd.results26, go_sem, *]) rfl ⟨y, m, d, c, rfl, hy, hm, hd, ⟨hc1, hc2⟩, ?_⟩
    exact ((((Only.keep (hO.trans ((Only.drewN (Only.refl _ W2) 1).trans ho3)) hk1 (by omega)).setCell (by omega) _).setCell (by omega) _).setCell (by omega) _)
set_option maxHeartbeats 1000000 in
theorem drawDayOf (a0 : Option Addr) (len cap : Nat) (w : World) (ha : CodeArg w a0 len cap) :
    Calls Tryd.prog 16 #[.slice a0 len cap] w (DrewDC w) := by
  go_enter Tryd.func16, Tryd.ntmps16
  go_wp2_with fail
  refine (drawDateValid a0 len cap _ ?_).mono ?_
  case refine_1 => first | exact ha | exact ha.below ((Keep.refl w).alloc _).below
  rintro e w1 ⟨y, m, d, c, rfl, hy, hm, hd, hc, hk⟩
  first
    | (go_wp2; go_ret; exact ⟨y, m, d, c, rfl, hy, hm, hd, hc, hk⟩)
    | (have c0 := Keep.new hk 0 rfl
       have c1 := Keep.new hk 1 rfl
       have c2 := Keep.new hk 2 rfl
       have f0 := Keep.fresh hk 0
       have f1 := Keep.fresh hk 1
       have f2 := Keep.fresh hk 2
       go_wp2
       refine bodyPost_ret (v := .tuple #[.agg #[.int .i64 y, .int .i64 m, .int .i64 d], .int .i64 c]) (by simp [results, Tryd.results16, go_sem, *]) rfl ⟨y, m, d, c, rfl, hy, hm, hd, hc, ?_⟩
       exact (((((Keep.refl w).alloc _).trans hk).setCell (by simp) _).setCell (by simp) _).setCell (by simp) _)
set_option maxHeartbeats 1000000 in
theorem drawDateTurn (a0 : Option Addr) (len cap : Nat) (w : World) (ha : CodeArg w a0 len cap) :
    Calls Tryd.prog 28 #[.slice a0 len cap] w (DrewDC w) := by
  go_enter Tryd.func28, Tryd.ntmps28
  go_wp2_with fail
  refine (drawDateValid a0 len cap _ ?_).mono ?_
  case refine_1 => first | exact ha | exact ha.below ((Keep.refl w).alloc _).below
  rintro e w1 ⟨y, m, d, c, rfl, hy, hm, hd, hc, hk⟩
  first
    | (go_wp2; go_ret; exact ⟨y, m, d, c, rfl, hy, hm, hd, hc, hk⟩)
    | (have c0 := Keep.new hk 0 rfl
       have c1 := Keep.new hk 1 rfl
       have c2 := Keep.new hk 2 rfl
       have f0 := Keep.fresh hk 0
       have f1 := Keep.fresh hk 1
       have f2 := Keep.fresh hk 2
       go_wp2
       refine bodyPost_ret (v := .tuple #[.agg #[.int .i64 y, .int .i64 m, .int .i64 d], .int .i64 c]) (by simp [results, Tryd.results28, go_sem, *]) rfl ⟨y, m, d, c, rfl, hy, hm, hd, hc, ?_⟩
       exact (((((Keep.refl w).alloc _).trans hk).setCell (by simp) _).setCell (by simp) _).setCell (by simp) _)
end Go.Proofs.YthlabofegjfmfaaDoor
