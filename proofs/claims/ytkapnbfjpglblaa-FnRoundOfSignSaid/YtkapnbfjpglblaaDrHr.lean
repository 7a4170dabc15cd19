/- How hours and quotients are drawn: the drawn numbers are small. -/
import Derived.Test.YtkapnbfjpglblaaRd
import Derived.Test.YtkapnbfjpglblaaKeep
import Derived.IntWalk
import Derived.Lib.Hide
import Derived.Outline
import Derived.Deep.RegionWith
namespace Go.Proofs.Ytkapnbfjpglblaa
open Go.RowKit
set_option linter.unusedVariables false

theorem Rd.drew {w : World} {B p : Nat} (h : Rd w B p) : Rd w.drew B p := h
theorem newCellSm {w w' : World} (l : List Int) {T B : Nat} (ho : Only B (w.alloc (.cells (l.map (Value.int .i64)).toArray T)).drew w') (hB : B < w.heap.size) (t : Int) (h0 : 0 ≤ t) (h1 : t < l.length) (hl : ∀ u ∈ l, -1000000 ≤ u ∧ u ≤ 1000000) :
    ∃ u : Int, -1000000 ≤ u ∧ u ≤ 1000000 ∧ w'.cell? ⟨w.heap.size, t.toNat, none⟩ = some (.int .i64 u) := by
  obtain ⟨u, hu, hc⟩ := newCellAny l (((Only.refl B (w.alloc (.cells (l.map (Value.int .i64)).toArray T))).drewN 1).trans ho) hB t h0 h1
  exact ⟨u, (hl u hu).1, (hl u hu).2, hc⟩
theorem freshSm (l : List Int) (w : World) (T : Nat) (t : Int) (h0 : 0 ≤ t) (h1 : t < l.length) (hl : ∀ u ∈ l, -1000000 ≤ u ∧ u ≤ 1000000) :
    ∃ u : Int, -1000000 ≤ u ∧ u ≤ 1000000 ∧ (w.alloc (.cells (l.map (Value.int .i64)).toArray T)).cell? ⟨w.heap.size, t.toNat, none⟩ = some (.int .i64 u) ∧ (l.map (Value.int .i64)).toArray[t.toNat]? = some (.int .i64 u) ∧ (∀ h, (l.map (Value.int .i64))[t.toNat]'h = .int .i64 u) := by
  have hlt : t.toNat < l.length := by omega
  have hg : (l.map (Value.int .i64)).toArray[t.toNat]? = some (.int .i64 (l[t.toNat])) := by simp [hlt]
  exact ⟨l[t.toNat], (hl _ (List.getElem_mem hlt)).1, (hl _ (List.getElem_mem hlt)).2, (World.cell?_alloc_new w _ T t.toNat).trans hg, hg, fun h => by simp⟩
/-- A number out of a short list of small ones. -/
theorem listSm (l : List Int) (t : Int) (h0 : 0 ≤ t) (h1 : t < l.length) (hl : ∀ u ∈ l, -1000000 ≤ u ∧ u ≤ 1000000) :
    ∃ u : Int, -1000000 ≤ u ∧ u ≤ 1000000 ∧ (l.map (Value.int .i64)).toArray[t.toNat]? = some (.int .i64 u) ∧ (∀ h, (l.map (Value.int .i64))[t.toNat]'h = .int .i64 u) := by
  have hlt : t.toNat < l.length := by omega
  exact ⟨l[t.toNat], (hl _ (List.getElem_mem hlt)).1, (hl _ (List.getElem_mem hlt)).2, by simp [hlt], fun h => by simp⟩
theorem oc1 {w w' : World} {o : Obj} {B : Nat} (ho : Only B (w.alloc o).drew w') (hB : B < w.heap.size) :
    (∀ i, w'.cell? ⟨w.heap.size, i, none⟩ = (w.alloc o).cell? ⟨w.heap.size, i, none⟩) ∧ w.heap.size < w'.heap.size := by
  have hs : (w.alloc o).heap.size ≤ w'.heap.size := ho.size
  simp at hs
  exact ⟨fun i => ho.cell w.heap.size i (show _ < (w.alloc o).heap.size by simp) (by omega), by omega⟩
theorem oc2 {w w' : World} {o p : Obj} {B : Nat} (ho : Only B ((w.alloc o).alloc p).drew w') (hB : B < w.heap.size) :
    ((∀ i, w'.cell? ⟨w.heap.size, i, none⟩ = ((w.alloc o).alloc p).cell? ⟨w.heap.size, i, none⟩) ∧ ∀ i, w'.cell? ⟨w.heap.size + 1, i, none⟩ = ((w.alloc o).alloc p).cell? ⟨w.heap.size + 1, i, none⟩) ∧ w.heap.size < w'.heap.size ∧ w.heap.size + 1 < w'.heap.size := by
  have hs : ((w.alloc o).alloc p).heap.size ≤ w'.heap.size := ho.size
  simp at hs
  exact ⟨⟨fun i => ho.cell w.heap.size i (show _ < ((w.alloc o).alloc p).heap.size by simp; omega) (by omega), fun i => ho.cell (w.heap.size + 1) i (show _ < ((w.alloc o).alloc p).heap.size by simp) (by omega)⟩, by omega, by omega⟩
theorem od1 {w w' : World} {o : Obj} {B : Nat} (ho : Only B (w.alloc o) w') (hB : B < w.heap.size) :
    (∀ i, w'.cell? ⟨w.heap.size, i, none⟩ = (w.alloc o).cell? ⟨w.heap.size, i, none⟩) ∧ w.heap.size < w'.heap.size := oc1 (w' := w') ⟨ho.os, ho.tape, ho.output, ho.size, ho.block⟩ hB
theorem od2 {w w' : World} {o p : Obj} {B : Nat} (ho : Only B ((w.alloc o).alloc p) w') (hB : B < w.heap.size) :
    ((∀ i, w'.cell? ⟨w.heap.size, i, none⟩ = ((w.alloc o).alloc p).cell? ⟨w.heap.size, i, none⟩) ∧ ∀ i, w'.cell? ⟨w.heap.size + 1, i, none⟩ = ((w.alloc o).alloc p).cell? ⟨w.heap.size + 1, i, none⟩) ∧ w.heap.size < w'.heap.size ∧ w.heap.size + 1 < w'.heap.size := oc2 (w' := w') ⟨ho.os, ho.tape, ho.output, ho.size, ho.block⟩ hB
/-- A drawn number of hours. -/
def HSm (x : Int) : Prop := -2000000 ≤ x ∧ x ≤ 2000000

set_option maxHeartbeats 2000000 in
theorem drawHourTurn (a0 : Option Addr) (len cap : Nat) (w : World) (ha : CodeArg w a0 len cap) :
    Calls Try.prog 17 #[.slice a0 len cap] w fun e w' => ∃ d m z : Int, e = .returned (.tuple #[.int .i64 d, .int .i64 m, .int .i64 z]) ∧ HSm d ∧ HSm m ∧ HSm z ∧ Keep w w' := by
  go_enter Try.func17, Try.ntmps17
  go_wp2_with fail
  refine (open_any a0 len cap _ ha).mono ?_
  rintro e w1 ⟨rfl, hr1, hb, hs⟩
  have hb : Keep w w1 := hb
  go_wp2_with fail
  refine (pick_any _ 0 250 _ (by omega) (by omega) hr1).mono ?_
  rintro e w2 ⟨x, rfl, x0, x1, hr2, ho2, hs2⟩
  go_wp2_with fail
  refine (pick_any _ 1 8 _ (by omega) (by omega) hr2).mono ?_
  rintro e w3 ⟨y, rfl, y0, y1, hr3, ho3, hs3⟩
  rcases (show y = 0 ∨ (y == 0) = false by by_cases h : y = 0 <;> simp [h]) with rfl | hy
  · clear y0 y1
    go_wp2_with fail
    refine (pick_any _ 2 4 _ (by omega) (by omega) (hr3.alloc _)).mono ?_
    rintro e w4 ⟨t, rfl, t0, t1, hr4, ho4, hs4⟩
    obtain ⟨u, hu, cu⟩ := newCellAny [-1, 0, 999, 1000] ho4 hr3.lt t t0 t1
    have u0 : -20000 ≤ u := by simp at hu; omega
    have u1 : u ≤ 20000 := by simp at hu; omega
    clear hu
    go_wp2_with fail
    refine (pick_any _ 3 240 _ (by omega) (by omega) hr4).mono ?_
    rintro e w5 ⟨p, rfl, p0, p1, hr5, ho5, hs5⟩
    go_wp2_with fail
    refine (pick_any _ 4 12 _ (by omega) (by omega) hr5).mono ?_
    rintro e w6 ⟨q, rfl, q0, q1, hr6, ho6, hs6⟩
    rcases (show q = 0 ∨ (q == 0) = false by by_cases h : q = 0 <;> simp [h]) with rfl | hq
    · clear q0 q1
      go_wp2_with fail
      refine (pick_any _ 5 4 _ (by omega) (by omega) (hr6.alloc _)).mono ?_
      rintro e w7 ⟨s, rfl, s0, s1, hr7, ho7, hs7⟩
      obtain ⟨v, hv, cv⟩ := newCellAny [-1, 0, 1439, 1440] ho7 hr6.lt s s0 s1
      have v0 : -20000 ≤ v := by simp at hv; omega
      have v1 : v ≤ 20000 := by simp at hv; omega
      clear hv
      go_wp2_with fail
      refine (pick_any _ 6 12 _ (by omega) (by omega) hr7).mono ?_
      rintro e w8 ⟨r, rfl, r0, r1, hr8, ho8, hs8⟩
      rcases (show r = 0 ∨ (r == 0) = false by by_cases h : r = 0 <;> simp [h]) with rfl | hr
      · clear r0 r1
        go_wp2_with fail
        go_region_with (first
          | (go_at_call 35; (with_reducible refine (pick_any _ 7 4 _ (by omega) (by omega) (Rd.drew hr8)).mono ?_); rintro e w9 ⟨i, rfl, i0, i1, hr9, ho9, hs9⟩; obtain ⟨j, j0, j1, cj, cj2, cj3⟩ := freshSm [-840, 840, -841, 841] w9 3 i i0 i1 (by simp); simp only [List.map_cons, List.map_nil] at cj cj2 cj3; have hk : Keep w w9 := Only.keep (((((((((((Only.refl _ w1).trans ho2).trans ho3).alloc _).trans ho4).trans ho5).trans ho6).alloc _).trans ho7).trans ho8).drewN 1 |>.trans ho9) hb (Nat.le_refl _))
          | (go_at_call 35; (with_reducible refine (pick_any _ 7 4 _ (by omega) (by omega) (Rd.drew (hr8.alloc _))).mono ?_); rintro e w9 ⟨i, rfl, i0, i1, hr9, ho9, hs9⟩; obtain ⟨j, j0, j1, cj⟩ := newCellSm [-840, 840, -841, 841] ho9 hr8.lt i i0 i1 (by simp); have hk : Keep w w9 := Only.keep ((((((((((((Only.refl _ w1).trans ho2).trans ho3).alloc _).trans ho4).trans ho5).trans ho6).alloc _).trans ho7).trans ho8).alloc _).drewN 1 |>.trans ho9) hb (Nat.le_refl _)))
        all_goals
          go_wp2
          go_ret3
          refine ⟨_, _, _, rfl, ?_, ?_, ?_, ?_⟩
          all_goals first | exact hk | exact hk.alloc _ | exact ⟨by omega, by omega⟩
      · skip
        go_wp2_with fail
        refine (pick_any _ 7 170 _ (by omega) (by omega) hr8).mono ?_
        rintro e w9 ⟨i, rfl, i0, i1, hr9, ho9, hs9⟩
        have hk : Keep w w9 := Only.keep (((((((((((Only.refl _ w1).trans ho2).trans ho3).alloc _).trans ho4).trans ho5).trans ho6).alloc _).trans ho7).trans ho8).trans ho9) hb (Nat.le_refl _)
        go_wp2
        go_ret3
        exact ⟨_, _, _, rfl, ⟨by omega, by omega⟩, ⟨by omega, by omega⟩, ⟨by omega, by omega⟩, hk⟩
    · skip
      go_wp2_with fail
      refine (pick_any _ 5 12 _ (by omega) (by omega) hr6).mono ?_
      rintro e w7 ⟨r, rfl, r0, r1, hr7, ho7, hs7⟩
      rcases (show r = 0 ∨ (r == 0) = false by by_cases h : r = 0 <;> simp [h]) with rfl | hr
      · clear r0 r1
        go_wp2_with fail
        go_region_with (first
          | (go_at_call 35; (with_reducible refine (pick_any _ 6 4 _ (by omega) (by omega) (Rd.drew hr7)).mono ?_); rintro e w9 ⟨i, rfl, i0, i1, hr9, ho9, hs9⟩; obtain ⟨j, j0, j1, cj, cj2, cj3⟩ := freshSm [-840, 840, -841, 841] w9 3 i i0 i1 (by simp); simp only [List.map_cons, List.map_nil] at cj cj2 cj3; have hk : Keep w w9 := Only.keep (((((((((Only.refl _ w1).trans ho2).trans ho3).alloc _).trans ho4).trans ho5).trans ho6).trans ho7).drewN 1 |>.trans ho9) hb (Nat.le_refl _))
          | (go_at_call 35; (with_reducible refine (pick_any _ 6 4 _ (by omega) (by omega) (Rd.drew (hr7.alloc _))).mono ?_); rintro e w9 ⟨i, rfl, i0, i1, hr9, ho9, hs9⟩; obtain ⟨j, j0, j1, cj⟩ := newCellSm [-840, 840, -841, 841] ho9 hr7.lt i i0 i1 (by simp); have hk : Keep w w9 := Only.keep ((((((((((Only.refl _ w1).trans ho2).trans ho3).alloc _).trans ho4).trans ho5).trans ho6).trans ho7).alloc _).drewN 1 |>.trans ho9) hb (Nat.le_refl _)))
        all_goals
          go_wp2
          go_ret3
          refine ⟨_, _, _, rfl, ?_, ?_, ?_, ?_⟩
          all_goals first | exact hk | exact hk.alloc _ | exact ⟨by omega, by omega⟩
      · skip
        go_wp2_with fail
        refine (pick_any _ 6 170 _ (by omega) (by omega) hr7).mono ?_
        rintro e w8 ⟨i, rfl, i0, i1, hr8, ho8, hs8⟩
        have hk : Keep w w8 := Only.keep (((((((((Only.refl _ w1).trans ho2).trans ho3).alloc _).trans ho4).trans ho5).trans ho6).trans ho7).trans ho8) hb (Nat.le_refl _)
        go_wp2
        go_ret3
        exact ⟨_, _, _, rfl, ⟨by omega, by omega⟩, ⟨by omega, by omega⟩, ⟨by omega, by omega⟩, hk⟩
  · skip
    go_wp2_with fail
    refine (pick_any _ 2 240 _ (by omega) (by omega) hr3).mono ?_
    rintro e w4 ⟨p, rfl, p0, p1, hr4, ho4, hs4⟩
    go_wp2_with fail
    refine (pick_any _ 3 12 _ (by omega) (by omega) hr4).mono ?_
    rintro e w5 ⟨q, rfl, q0, q1, hr5, ho5, hs5⟩
    rcases (show q = 0 ∨ (q == 0) = false by by_cases h : q = 0 <;> simp [h]) with rfl | hq
    · clear q0 q1
      go_wp2_with fail
      refine (pick_any _ 4 4 _ (by omega) (by omega) (hr5.alloc _)).mono ?_
      rintro e w6 ⟨s, rfl, s0, s1, hr6, ho6, hs6⟩
      obtain ⟨v, hv, cv⟩ := newCellAny [-1, 0, 1439, 1440] ho6 hr5.lt s s0 s1
      have v0 : -20000 ≤ v := by simp at hv; omega
      have v1 : v ≤ 20000 := by simp at hv; omega
      clear hv
      go_wp2_with fail
      refine (pick_any _ 5 12 _ (by omega) (by omega) hr6).mono ?_
      rintro e w7 ⟨r, rfl, r0, r1, hr7, ho7, hs7⟩
      rcases (show r = 0 ∨ (r == 0) = false by by_cases h : r = 0 <;> simp [h]) with rfl | hr
      · clear r0 r1
        go_wp2_with fail
        go_region_with (first
          | (go_at_call 35; (with_reducible refine (pick_any _ 6 4 _ (by omega) (by omega) (Rd.drew hr7)).mono ?_); rintro e w9 ⟨i, rfl, i0, i1, hr9, ho9, hs9⟩; obtain ⟨j, j0, j1, cj, cj2, cj3⟩ := freshSm [-840, 840, -841, 841] w9 3 i i0 i1 (by simp); simp only [List.map_cons, List.map_nil] at cj cj2 cj3; have hk : Keep w w9 := Only.keep (((((((((Only.refl _ w1).trans ho2).trans ho3).trans ho4).trans ho5).alloc _).trans ho6).trans ho7).drewN 1 |>.trans ho9) hb (Nat.le_refl _))
          | (go_at_call 35; (with_reducible refine (pick_any _ 6 4 _ (by omega) (by omega) (Rd.drew (hr7.alloc _))).mono ?_); rintro e w9 ⟨i, rfl, i0, i1, hr9, ho9, hs9⟩; obtain ⟨j, j0, j1, cj⟩ := newCellSm [-840, 840, -841, 841] ho9 hr7.lt i i0 i1 (by simp); have hk : Keep w w9 := Only.keep ((((((((((Only.refl _ w1).trans ho2).trans ho3).trans ho4).trans ho5).alloc _).trans ho6).trans ho7).alloc _).drewN 1 |>.trans ho9) hb (Nat.le_refl _)))
        all_goals
          go_wp2
          go_ret3
          refine ⟨_, _, _, rfl, ?_, ?_, ?_, ?_⟩
          all_goals first | exact hk | exact hk.alloc _ | exact ⟨by omega, by omega⟩
      · skip
        go_wp2_with fail
        refine (pick_any _ 6 170 _ (by omega) (by omega) hr7).mono ?_
        rintro e w8 ⟨i, rfl, i0, i1, hr8, ho8, hs8⟩
        have hk : Keep w w8 := Only.keep (((((((((Only.refl _ w1).trans ho2).trans ho3).trans ho4).trans ho5).alloc _).trans ho6).trans ho7).trans ho8) hb (Nat.le_refl _)
        go_wp2
        go_ret3
        exact ⟨_, _, _, rfl, ⟨by omega, by omega⟩, ⟨by omega, by omega⟩, ⟨by omega, by omega⟩, hk⟩
    · skip
      go_wp2_with fail
      refine (pick_any _ 4 12 _ (by omega) (by omega) hr5).mono ?_
      rintro e w6 ⟨r, rfl, r0, r1, hr6, ho6, hs6⟩
      rcases (show r = 0 ∨ (r == 0) = false by by_cases h : r = 0 <;> simp [h]) with rfl | hr
      · clear r0 r1
        go_wp2_with fail
        go_region_with (first
          | (go_at_call 35; (with_reducible refine (pick_any _ 5 4 _ (by omega) (by omega) (Rd.drew hr6)).mono ?_); rintro e w9 ⟨i, rfl, i0, i1, hr9, ho9, hs9⟩; obtain ⟨j, j0, j1, cj, cj2, cj3⟩ := freshSm [-840, 840, -841, 841] w9 3 i i0 i1 (by simp); simp only [List.map_cons, List.map_nil] at cj cj2 cj3; have hk : Keep w w9 := Only.keep (((((((Only.refl _ w1).trans ho2).trans ho3).trans ho4).trans ho5).trans ho6).drewN 1 |>.trans ho9) hb (Nat.le_refl _))
          | (go_at_call 35; (with_reducible refine (pick_any _ 5 4 _ (by omega) (by omega) (Rd.drew (hr6.alloc _))).mono ?_); rintro e w9 ⟨i, rfl, i0, i1, hr9, ho9, hs9⟩; obtain ⟨j, j0, j1, cj⟩ := newCellSm [-840, 840, -841, 841] ho9 hr6.lt i i0 i1 (by simp); have hk : Keep w w9 := Only.keep ((((((((Only.refl _ w1).trans ho2).trans ho3).trans ho4).trans ho5).trans ho6).alloc _).drewN 1 |>.trans ho9) hb (Nat.le_refl _)))
        all_goals
          go_wp2
          go_ret3
          refine ⟨_, _, _, rfl, ?_, ?_, ?_, ?_⟩
          all_goals first | exact hk | exact hk.alloc _ | exact ⟨by omega, by omega⟩
      · skip
        go_wp2_with fail
        refine (pick_any _ 5 170 _ (by omega) (by omega) hr6).mono ?_
        rintro e w7 ⟨i, rfl, i0, i1, hr7, ho7, hs7⟩
        have hk : Keep w w7 := Only.keep (((((((Only.refl _ w1).trans ho2).trans ho3).trans ho4).trans ho5).trans ho6).trans ho7) hb (Nat.le_refl _)
        go_wp2
        go_ret3
        exact ⟨_, _, _, rfl, ⟨by omega, by omega⟩, ⟨by omega, by omega⟩, ⟨by omega, by omega⟩, hk⟩
end Go.Proofs.Ytkapnbfjpglblaa
