/- How ranges and tenths are drawn: the drawn numbers are small; the reader goes on, and nothing else turns. -/
import Derived.Test.YtalkfggkpjakiaaRd
import Derived.IntWalk
import Derived.Deep.RegionHeld3
import Derived.Deep.DeepCutAuto
namespace Go.Proofs.Ytalkfggkpjakiaa
open Go.RowKit
set_option linter.unusedVariables false

/-- A drawn number of a range: no greater than 200000, without its sign. -/
def Sm (x : Int) : Prop := -200000 ≤ x ∧ x ≤ 200000

def DrewRg (w : World) (B p k : Nat) (e : Ending) (w' : World) : Prop :=
  ∃ (a b : Int) (q : Nat), e = .returned (.agg #[.int .i64 a, .int .i64 b]) ∧ Sm a ∧ Sm b ∧ q ≤ p + k ∧ Rd w' B q ∧ Only B w w'

set_option maxHeartbeats 4000000 in
theorem drawRg (B p : Nat) (w : World) (hp : p ≤ 900000) (hr : Rd w B p) :
    Calls Try.prog 61 #[.pointer (some ⟨B, 0, none⟩)] w (DrewRg w B p 4) := by
  have hBR := hr.lt
  go_enter Try.func61, Try.ntmps61
  go_wp2_with fail
  refine (pick_any B p 200 _ (by omega) (by omega) (hr.alloc _)).mono ?_
  rintro e w1 ⟨x, rfl, hx0, hx1, hr1, ho1, hs1⟩
  go_wp2_with fail
  refine (pick_any B (p + 1) 120 _ (by omega) (by omega) hr1).mono ?_
  rintro e w2 ⟨y, rfl, hy0, hy1, hr2, ho2, hs2⟩
  have l0 : -1000 ≤ x * 10 - 1000 := by omega
  have l1 : x * 10 - 1000 ≤ 100000 := by omega
  have ho12 := ho1.trans ho2
  have z2 := ho12.size
  simp at z2
  have hq2 : Rd w2 B (p + 2) := hr2
  clear hr1 hr2 ho1 ho2 hs1 hs2
  go_wp2_with fail
  generalize x * 10 - 1000 = lo at l0 l1 ⊢
  refine (pick_any B (p + 2) 20 _ (by omega) (by omega) (hq2.alloc _)).mono ?_
  rintro e w3 ⟨z, rfl, hz0, hz1, hr3, ho3, _⟩
  have z3 := ho3.size
  simp at z3
  have hB2 := hq2.lt
  have s0 := newCellO ho3 hB2 0 _ rfl
  have s1 := newCellO ho3 hB2 1 _ rfl
  have g0 := newFrozenO ho3 hB2 0
  have g1 := newFrozenO ho3 hB2 1
  have ho := (ho12.alloc _).trans ho3
  have r0 := newCellO ho hBR 0 _ rfl
  have r1 := newCellO ho hBR 1 _ rfl
  have f0 := newFrozenO ho hBR 0
  have f1 := newFrozenO ho hBR 1
  have hzz : z = 0 ∨ z = 1 ∨ z = 2 ∨ ((z == 0) = false ∧ (z == 1) = false ∧ (z == 2) = false) := by
    by_cases h : z = 0 <;> by_cases h' : z = 1 <;> by_cases h'' : z = 2 <;> simp [h, h', h'']
  have hfin := ((Only.refl B w).alloc _).trans ho
  rcases hzz with rfl | rfl | rfl | ⟨e0, e1, e2⟩
  · clear hz0 hz1
    go_wp2
    refine bodyPost_ret (v := .agg #[.int .i64 lo, .int .i64 (lo - 1)]) (by simp [results, Try.results61, go_sem, *]) rfl ⟨lo, lo - 1, p + 3, rfl, ⟨by omega, by omega⟩, ⟨by omega, by omega⟩, by omega, ?_, ?_⟩
    · exact ((hr3.setCell (by omega) _).setCell (by omega) _).setCell (by omega) _
    · exact ((hfin.setCell (by omega) _).setCell (by omega) _).setCell (by omega) _
  · clear hz0 hz1
    go_wp2_with fail
    refine (pick_any B (p + 3) 2 _ (by omega) (by omega) (hr3.alloc _)).mono ?_
    rintro e w4 ⟨t, rfl, ht0, ht1, hr4, ho4, _⟩
    have z4 := ho4.size
    simp at z4
    obtain ⟨u, hu, ct⟩ := newCellAny [-99999, -100000] ho4 hr3.lt t ht0 ht1
    have hu1 : -200000 ≤ u := by simp at hu; omega
    have hu2 : u ≤ 200000 := by simp at hu; omega
    clear hu
    have k34 := (ho3.alloc (.cells (([-99999, -100000] : List Int).map (Value.int .i64)).toArray 3)).trans ho4
    have s0 := newCellO k34 hB2 0 _ rfl
    have s1 := newCellO k34 hB2 1 _ rfl
    have g0 := newFrozenO k34 hB2 0
    have g1 := newFrozenO k34 hB2 1
    have k := (ho12.alloc _).trans k34
    have r0 := newCellO k hBR 0 _ rfl
    have r1 := newCellO k hBR 1 _ rfl
    have f0 := newFrozenO k hBR 0
    have f1 := newFrozenO k hBR 1
    have hfin := ((Only.refl B w).alloc _).trans k
    go_wp2
    refine bodyPost_ret (v := .agg #[.int .i64 u, .int .i64 (lo + y)]) (by simp [results, Try.results61, go_sem, *]) rfl ⟨u, lo + y, p + 4, rfl, ⟨by omega, by omega⟩, ⟨by omega, by omega⟩, by omega, ?_, ?_⟩
    · exact ((hr4.setCell (by omega) _).setCell (by omega) _).setCell (by omega) _
    · exact ((hfin.setCell (by omega) _).setCell (by omega) _).setCell (by omega) _
  · clear hz0 hz1
    go_wp2_with fail
    refine (pick_any B (p + 3) 2 _ (by omega) (by omega) (hr3.alloc _)).mono ?_
    rintro e w4 ⟨t, rfl, ht0, ht1, hr4, ho4, _⟩
    have z4 := ho4.size
    simp at z4
    obtain ⟨u, hu, ct⟩ := newCellAny [99999, 100000] ho4 hr3.lt t ht0 ht1
    have hu1 : -200000 ≤ u := by simp at hu; omega
    have hu2 : u ≤ 200000 := by simp at hu; omega
    clear hu
    have k34 := (ho3.alloc (.cells (([99999, 100000] : List Int).map (Value.int .i64)).toArray 3)).trans ho4
    have s0 := newCellO k34 hB2 0 _ rfl
    have s1 := newCellO k34 hB2 1 _ rfl
    have g0 := newFrozenO k34 hB2 0
    have g1 := newFrozenO k34 hB2 1
    have k := (ho12.alloc _).trans k34
    have r0 := newCellO k hBR 0 _ rfl
    have r1 := newCellO k hBR 1 _ rfl
    have f0 := newFrozenO k hBR 0
    have f1 := newFrozenO k hBR 1
    have hfin := ((Only.refl B w).alloc _).trans k
    go_wp2
    refine bodyPost_ret (v := .agg #[.int .i64 lo, .int .i64 u]) (by simp [results, Try.results61, go_sem, *]) rfl ⟨lo, u, p + 4, rfl, ⟨by omega, by omega⟩, ⟨by omega, by omega⟩, by omega, ?_, ?_⟩
    · exact ((hr4.setCell (by omega) _).setCell (by omega) _).setCell (by omega) _
    · exact ((hfin.setCell (by omega) _).setCell (by omega) _).setCell (by omega) _
  · go_wp2
    refine bodyPost_ret (v := .agg #[.int .i64 lo, .int .i64 (lo + y)]) (by simp [results, Try.results61, go_sem, *]) rfl ⟨lo, lo + y, p + 3, rfl, ⟨by omega, by omega⟩, ⟨by omega, by omega⟩, by omega, ?_, ?_⟩
    · exact (hr3.setCell (by omega) _).setCell (by omega) _
    · exact (hfin.setCell (by omega) _).setCell (by omega) _

def DrewRg2 (w : World) (B p k : Nat) (e : Ending) (w' : World) : Prop :=
  ∃ (a b c d : Int) (q : Nat), e = .returned (.tuple #[.agg #[.int .i64 a, .int .i64 b], .agg #[.int .i64 c, .int .i64 d]]) ∧ Sm a ∧ Sm b ∧ (-300000 ≤ c ∧ c ≤ 300000) ∧ (-300000 ≤ d ∧ d ≤ 300000) ∧ q ≤ p + k ∧ Rd w' B q ∧ Only B w w'

def DrewTenth (w : World) (B : Nat) (e : Ending) (w' : World) : Prop :=
  ∃ t : Int, e = .returned (.int .i64 t) ∧ (-3000 ≤ t ∧ t ≤ 3000) ∧ Only B w w'

set_option maxHeartbeats 1000000 in
theorem drawTenths (B p : Nat) (w : World) (hp : p ≤ 900000) (hr : Rd w B p) :
    Calls Try.prog 45 #[.pointer (some ⟨B, 0, none⟩)] w (DrewTenth w B) := by
  go_enter Try.func45, Try.ntmps45
  go_wp2_with fail
  refine (pick_any B p 12 _ (by omega) (by omega) hr).mono ?_
  rintro e w1 ⟨x, rfl, hx0, hx1, hr1, ho1, hs1⟩
  by_cases hx : x = 0
  · subst hx
    go_wp2_with fail
    refine (pick_any B (p + 1) 6 _ (by omega) (by omega) (hr1.alloc _)).mono ?_
    rintro e w2 ⟨t, rfl, ht0, ht1, hr2, ho2, hs2⟩
    obtain ⟨u, hu, ct⟩ := newCellAny [-2000, 2000, -2001, 2001, 320, 0] ho2 hr1.lt t ht0 ht1
    have hu1 : -3000 ≤ u := by simp at hu; omega
    have hu2 : u ≤ 3000 := by simp at hu; omega
    clear hu
    have hfin := (ho1.alloc _).trans ho2
    go_wp2
    go_ret
    exact ⟨u, rfl, ⟨hu1, hu2⟩, hfin⟩
  · have hx' : (x == 0) = false := by simp; omega
    go_wp2_with fail
    refine (pick_any B (p + 1) 256 _ (by omega) (by omega) hr1).mono ?_
    rintro e w2 ⟨y, rfl, hy0, hy1, hr2, ho2, hs2⟩
    go_wp2_with fail
    refine (pick_any B (p + 2) 4 _ (by omega) (by omega) hr2).mono ?_
    rintro e w3 ⟨z, rfl, hz0, hz1, hr3, ho3, hs3⟩
    have hfin := (ho1.trans ho2).trans ho3
    go_wp2
    go_ret
    exact ⟨_, rfl, ⟨by omega, by omega⟩, hfin⟩
set_option maxHeartbeats 4000000 in
theorem drawNear (B p : Nat) (w : World) (hp : p ≤ 800000) (hr : Rd w B p) :
    Calls Try.prog 50 #[.pointer (some ⟨B, 0, none⟩)] w (DrewRg2 w B p 9) := by
  have hBR := hr.lt
  go_enter Try.func50, Try.ntmps50
  go_wp2_with fail
  refine (drawRg B p _ (by omega) ((hr.alloc _).alloc _)).mono ?_
  rintro e w1 ⟨a, b, q1, rfl, ha, hb, hq1, hr1, ho1⟩
  have z1 := ho1.size
  simp at z1
  have hB1 := hr1.lt
  obtain ⟨ha1, ha2⟩ := id ha
  obtain ⟨hb1, hb2⟩ := id hb
  have HA := Lib.hid ha
  have HB := Lib.hid hb
  clear ha hb
  go_wp2_with fail
  refine (pick_any B q1 3 _ (by omega) (by omega) (hr1.alloc _)).mono ?_
  rintro e w2 ⟨x, rfl, hx0, hx1, hr2, ho2, hs2⟩
  have z2 := ho2.size
  simp at z2
  have b0 := newCellO ho2 hB1 0 _ rfl
  have b1 := newCellO ho2 hB1 1 _ rfl
  have ho := (ho1.alloc _).trans ho2
  have t0 : w2.cell? ⟨w.heap.size, 0, none⟩ = some (.int .i64 0) := by rw [ho.cell _ _ (by simp; omega) (by omega)]; go_simp
  have t1 : w2.cell? ⟨w.heap.size, 1, none⟩ = some (.int .i64 0) := by rw [ho.cell _ _ (by simp; omega) (by omega)]; go_simp
  have u0 : w2.cell? ⟨w.heap.size + 1, 0, none⟩ = some (.int .i64 0) := by rw [ho.cell _ _ (by simp) (by omega)]; go_simp
  have u1 : w2.cell? ⟨w.heap.size + 1, 1, none⟩ = some (.int .i64 0) := by rw [ho.cell _ _ (by simp) (by omega)]; go_simp
  have f0 : w2.frozen? ⟨w.heap.size, 0, none⟩ = false := by rw [ho.frozen _ _ (by simp; omega) (by omega)]; go_simp
  have f1 : w2.frozen? ⟨w.heap.size, 1, none⟩ = false := by rw [ho.frozen _ _ (by simp; omega) (by omega)]; go_simp
  have v0 : w2.frozen? ⟨w.heap.size + 1, 0, none⟩ = false := by rw [ho.frozen _ _ (by simp) (by omega)]; go_simp
  have v1 : w2.frozen? ⟨w.heap.size + 1, 1, none⟩ = false := by rw [ho.frozen _ _ (by simp) (by omega)]; go_simp
  have hW : Only B w w2 := ((((Only.refl B w).alloc _).alloc _)).trans ho
  clear ho ho1 ho2 hr1
  have hB2 := hr2.lt
  obtain ⟨q2, hq2, hr2⟩ : ∃ q2, q2 ≤ p + 5 ∧ Rd w2 B q2 := ⟨_, by omega, hr2⟩
  have zz : w.heap.size + 1 < w2.heap.size := by omega
  have zb : w1.heap.size < w2.heap.size := by omega
  have bn : w1.heap.size ≠ B := by omega
  have zg : w.heap.size + 2 ≤ w1.heap.size := by omega
  generalize w1.heap.size = g at b0 b1 zb bn zg ⊢
  have n1 : g ≠ w.heap.size := by omega
  have n2 : g ≠ w.heap.size + 1 := by omega
  have n3 : w.heap.size ≠ g := by omega
  have n4 : w.heap.size + 1 ≠ g := by omega
  by_cases hx : x = 0
  · subst hx
    go_wp2_with fail
    go_region_held3 (fun w' => w'.cell? ⟨g, 0, none⟩ = some (.int .i64 a) ∧ w'.cell? ⟨g, 1, none⟩ = some (.int .i64 b)) ((first | (go_simp; done) | exact ⟨b0, b1⟩ | exact ⟨b0', b1'⟩ | go_keep))
      (first | (go_at_call 61; refine (drawRg B q2 _ (by omega) (hr2.drewN 1)).mono ?_; rintro e w3 ⟨c, d, q3, rfl, ⟨hc1, hc2⟩, ⟨hd1, hd2⟩, hq3, hr3, ho3⟩; have z3 : w2.heap.size ≤ w3.heap.size := ho3.size; have b0' : w3.cell? ⟨g, 0, none⟩ = some (.int .i64 a) := (ho3.cell _ _ (show g < w2.heap.size by omega) (by omega)).trans b0; have b1' : w3.cell? ⟨g, 1, none⟩ = some (.int .i64 b) := (ho3.cell _ _ (show g < w2.heap.size by omega) (by omega)).trans b1; have t0' : w3.cell? ⟨w.heap.size, 0, none⟩ = some (.int .i64 0) := (ho3.cell _ _ (show w.heap.size < w2.heap.size by omega) (by omega)).trans t0; have t1' : w3.cell? ⟨w.heap.size, 1, none⟩ = some (.int .i64 0) := (ho3.cell _ _ (show w.heap.size < w2.heap.size by omega) (by omega)).trans t1; have u0' : w3.cell? ⟨w.heap.size + 1, 0, none⟩ = some (.int .i64 0) := (ho3.cell _ _ (show w.heap.size + 1 < w2.heap.size by omega) (by omega)).trans u0; have u1' : w3.cell? ⟨w.heap.size + 1, 1, none⟩ = some (.int .i64 0) := (ho3.cell _ _ (show w.heap.size + 1 < w2.heap.size by omega) (by omega)).trans u1; have f0' : w3.frozen? ⟨w.heap.size, 0, none⟩ = false := (ho3.frozen _ _ (show w.heap.size < w2.heap.size by omega) (by omega)).trans f0; have f1' : w3.frozen? ⟨w.heap.size, 1, none⟩ = false := (ho3.frozen _ _ (show w.heap.size < w2.heap.size by omega) (by omega)).trans f1; have v0' : w3.frozen? ⟨w.heap.size + 1, 0, none⟩ = false := (ho3.frozen _ _ (show w.heap.size + 1 < w2.heap.size by omega) (by omega)).trans v0; have v1' : w3.frozen? ⟨w.heap.size + 1, 1, none⟩ = false := (ho3.frozen _ _ (show w.heap.size + 1 < w2.heap.size by omega) (by omega)).trans v1))
    all_goals
      go_wp2
      refine bodyPost_ret (v := .tuple #[.agg #[.int .i64 a, .int .i64 b], .agg #[.int .i64 c, .int .i64 d]]) (by simp [results, Try.results50, go_sem, *]) rfl ⟨a, b, _, _, q3, rfl, HA.out, HB.out, ⟨by omega, by omega⟩, ⟨by omega, by omega⟩, by omega, ?_, ?_⟩
      · exact (((hr3.setCell (by omega) _).setCell (by omega) _).setCell (by omega) _).setCell (by omega) _
      · exact ((((hW.trans ((Only.drewN (Only.refl B w2) 1).trans ho3)).setCell (by omega) _).setCell (by omega) _).setCell (by omega) _).setCell (by omega) _
  · have hx' : (x == 0) = false := by simp; omega
    go_wp2_with fail
    go_region_held3 (fun w' => w'.cell? ⟨g, 0, none⟩ = some (.int .i64 a) ∧ w'.cell? ⟨g, 1, none⟩ = some (.int .i64 b)) ((first | (go_simp; done) | exact ⟨b0, b1⟩ | exact ⟨b0', b1'⟩ | go_keep))
      (first | (go_at_call 38; refine (pick_any B q2 100 _ (by omega) (by omega) (hr2.drewN 1)).mono ?_; rintro e w3 ⟨y, rfl, hy0, hy1, hr3, ho3, _⟩; have z3 : w2.heap.size ≤ w3.heap.size := ho3.size; have s1 : IntKind.i64.wrap (a + y) = a + y := IntWalk.i64_in _ (by omega); have s2 : IntKind.i64.wrap (a + y - 50) = a + y - 50 := IntWalk.i64_in _ (by omega); have b0' : w3.cell? ⟨g, 0, none⟩ = some (.int .i64 a) := (ho3.cell _ _ (show g < w2.heap.size by omega) (by omega)).trans b0; have b1' : w3.cell? ⟨g, 1, none⟩ = some (.int .i64 b) := (ho3.cell _ _ (show g < w2.heap.size by omega) (by omega)).trans b1; have t0' : w3.cell? ⟨w.heap.size, 0, none⟩ = some (.int .i64 0) := (ho3.cell _ _ (show w.heap.size < w2.heap.size by omega) (by omega)).trans t0; have t1' : w3.cell? ⟨w.heap.size, 1, none⟩ = some (.int .i64 0) := (ho3.cell _ _ (show w.heap.size < w2.heap.size by omega) (by omega)).trans t1; have u0' : w3.cell? ⟨w.heap.size + 1, 0, none⟩ = some (.int .i64 0) := (ho3.cell _ _ (show w.heap.size + 1 < w2.heap.size by omega) (by omega)).trans u0; have u1' : w3.cell? ⟨w.heap.size + 1, 1, none⟩ = some (.int .i64 0) := (ho3.cell _ _ (show w.heap.size + 1 < w2.heap.size by omega) (by omega)).trans u1; have f0' : w3.frozen? ⟨w.heap.size, 0, none⟩ = false := (ho3.frozen _ _ (show w.heap.size < w2.heap.size by omega) (by omega)).trans f0; have f1' : w3.frozen? ⟨w.heap.size, 1, none⟩ = false := (ho3.frozen _ _ (show w.heap.size < w2.heap.size by omega) (by omega)).trans f1; have v0' : w3.frozen? ⟨w.heap.size + 1, 0, none⟩ = false := (ho3.frozen _ _ (show w.heap.size + 1 < w2.heap.size by omega) (by omega)).trans v0; have v1' : w3.frozen? ⟨w.heap.size + 1, 1, none⟩ = false := (ho3.frozen _ _ (show w.heap.size + 1 < w2.heap.size by omega) (by omega)).trans v1))
    have hO3 : Only B w w3 := hW.trans ((Only.drewN (Only.refl B w2) 1).trans ho3)
    clear s1 s2
    go_wp2_with fail
    go_region_held3 (fun w' => w'.cell? ⟨g, 0, none⟩ = some (.int .i64 a) ∧ w'.cell? ⟨g, 1, none⟩ = some (.int .i64 b)) ((first | (go_simp; done) | exact ⟨b0', b1'⟩ | exact ⟨b0'', b1''⟩ | go_keep))
      (first | (go_at_call 38; refine (pick_any B (q2 + 1) 80 _ (by omega) (by omega) (hr3.drewN 1)).mono ?_; rintro e w4 ⟨z, rfl, hz0, hz1, hr4, ho4, _⟩; have z4 : w3.heap.size ≤ w4.heap.size := ho4.size; have s3 : IntKind.i64.wrap (a + y - 50 + z) = a + y - 50 + z := IntWalk.i64_in _ (by omega); have b0'' : w4.cell? ⟨g, 0, none⟩ = some (.int .i64 a) := (ho4.cell _ _ (show g < w3.heap.size by omega) (by omega)).trans b0'; have b1'' : w4.cell? ⟨g, 1, none⟩ = some (.int .i64 b) := (ho4.cell _ _ (show g < w3.heap.size by omega) (by omega)).trans b1'; have t0'' : w4.cell? ⟨w.heap.size, 0, none⟩ = some (.int .i64 0) := (ho4.cell _ _ (show w.heap.size < w3.heap.size by omega) (by omega)).trans t0'; have t1'' : w4.cell? ⟨w.heap.size, 1, none⟩ = some (.int .i64 0) := (ho4.cell _ _ (show w.heap.size < w3.heap.size by omega) (by omega)).trans t1'; have u0'' : w4.cell? ⟨w.heap.size + 1, 0, none⟩ = some (.int .i64 0) := (ho4.cell _ _ (show w.heap.size + 1 < w3.heap.size by omega) (by omega)).trans u0'; have u1'' : w4.cell? ⟨w.heap.size + 1, 1, none⟩ = some (.int .i64 0) := (ho4.cell _ _ (show w.heap.size + 1 < w3.heap.size by omega) (by omega)).trans u1'; have f0'' : w4.frozen? ⟨w.heap.size, 0, none⟩ = false := (ho4.frozen _ _ (show w.heap.size < w3.heap.size by omega) (by omega)).trans f0'; have f1'' : w4.frozen? ⟨w.heap.size, 1, none⟩ = false := (ho4.frozen _ _ (show w.heap.size < w3.heap.size by omega) (by omega)).trans f1'; have v0'' : w4.frozen? ⟨w.heap.size + 1, 0, none⟩ = false := (ho4.frozen _ _ (show w.heap.size + 1 < w3.heap.size by omega) (by omega)).trans v0'; have v1'' : w4.frozen? ⟨w.heap.size + 1, 1, none⟩ = false := (ho4.frozen _ _ (show w.heap.size + 1 < w3.heap.size by omega) (by omega)).trans v1'))
    have hO : Only B w w4 := hO3.trans ((Only.drewN (Only.refl B w3) 1).trans ho4)
    all_goals
      go_wp2
      refine bodyPost_ret (v := .tuple #[.agg #[.int .i64 a, .int .i64 b], .agg #[.int .i64 (a + y - 50), .int .i64 (a + y - 50 + z)]]) (by simp [results, Try.results50, go_sem, *]) rfl ⟨a, b, _, _, q2 + 1 + 1, rfl, HA.out, HB.out, ⟨by omega, by omega⟩, ⟨by omega, by omega⟩, by omega, ?_, ?_⟩
      · exact (((hr4.setCell (by omega) _).setCell (by omega) _).setCell (by omega) _).setCell (by omega) _
      · exact (((hO.setCell (by omega) _).setCell (by omega) _).setCell (by omega) _).setCell (by omega) _
end Go.Proofs.Ytalkfggkpjakiaa
