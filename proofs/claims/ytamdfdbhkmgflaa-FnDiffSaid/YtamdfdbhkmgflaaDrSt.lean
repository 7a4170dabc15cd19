/- How a store is drawn: reports of the call's own; the reader goes on, and nothing else turns. -/
import Derived.Test.YtamdfdbhkmgflaaMg
import Derived.Test.YtamdfdbhkmgflaaDrRep
import Derived.LoopTactic
namespace Go.Proofs.Ytamdfdbhkmgflaa
open Go.RowKit
set_option linter.unusedVariables false

theorem Rd.keepS {w w' : World} {B p : Nat} (h : Rd w B p) (k : Keep w w') : Rd w' B p := by
  obtain ⟨a, len, cap, hl, hb, c0, c1, f1, hc⟩ := h
  have hcell : ∀ b o, b ≤ B → w'.cell? ⟨b, o, none⟩ = w.cell? ⟨b, o, none⟩ := fun b o hbo => World.cell?_of_block (Below.block k b (by omega))
  refine ⟨a, len, cap, hl, Nat.lt_of_lt_of_le hb k.size, (hcell B 0 (Nat.le_refl _)).trans c0, (hcell B 1 (Nat.le_refl _)).trans c1, ?_, hc.keep fun b o hbo => hcell b o (by omega)⟩
  rw [World.frozen?_of_block (a := ⟨B, 1, none⟩) (Below.block k B hb)]
  exact f1
/-- A store as it is drawn. -/
def DrewS (w : World) (B p n : Nat) (e : Ending) (w' : World) : Prop :=
  ∃ (g c : Nat) (rs : List R4) (q : Nat), e = .returned (.slice (some ⟨g, 0, none⟩) rs.length c) ∧ rs.length ≤ 40 ∧ rs.length ≤ c ∧ FrR w w' (some ⟨g, 0, none⟩) rs ∧ q ≤ p + n ∧ Rd w' B q ∧ Only B w w'

theorem wrR_station {w : World} {g j : Nat} {rs : List R4} (h : WrR w g rs) (hj : j < rs.length) :
    WrR (w.setCell ⟨g, j * 4, none⟩ (.int .i64 0)) g (rs.set j (0, (rs.getD j r0).2)) := by
  intro i hi
  rw [List.length_set] at hi
  obtain ⟨h1, h2⟩ := h i hi
  refine ⟨?_, ⟨by rw [World.frozen?_setCell]; exact h2.f0, by rw [World.frozen?_setCell]; exact h2.f1, by rw [World.frozen?_setCell]; exact h2.f2, by rw [World.frozen?_setCell]; exact h2.f3⟩⟩
  by_cases e : i = j
  · subst e
    have e2 : (rs.set i (0, (rs.getD i r0).2)).getD i r0 = (0, (rs.getD i r0).2) := by simp [List.getD_eq_getElem?_getD, hj]
    rw [e2]
    exact ⟨World.cell?_setCell_same _ _ _ h1.s, (World.cell?_setCell_other _ _ _ _ (by simp)).trans h1.d, (World.cell?_setCell_other _ _ _ _ (by simp)).trans h1.k, (World.cell?_setCell_other _ _ _ _ (by simp)).trans h1.v⟩
  · have e2 : (rs.set j (0, (rs.getD j r0).2)).getD i r0 = rs.getD i r0 := by
      have e3 : j ≠ i := fun h => e h.symm
      simp [List.getD_eq_getElem?_getD, e3]
    rw [e2]
    exact ⟨(World.cell?_setCell_other _ _ _ _ (by intro h; simp only [Addr.mk.injEq] at h; omega)).trans h1.s, (World.cell?_setCell_other _ _ _ _ (by intro h; simp only [Addr.mk.injEq] at h; omega)).trans h1.d, (World.cell?_setCell_other _ _ _ _ (by intro h; simp only [Addr.mk.injEq] at h; omega)).trans h1.k, (World.cell?_setCell_other _ _ _ _ (by intro h; simp only [Addr.mk.injEq] at h; omega)).trans h1.v⟩

set_option maxRecDepth 100000 in
set_option maxHeartbeats 4000000 in
theorem drawStore (B p : Nat) (w : World) (hp : p ≤ 100) (hr : Rd w B p) :
    Calls Try.prog 20 #[.pointer (some ⟨B, 0, none⟩)] w (DrewS w B p 2000) := by
  have hBR := hr.lt
  go_enter Try.func20, Try.ntmps20
  go_wp2_with fail
  refine (pick_any B p 14 _ (by omega) (by omega) (hr.alloc _)).mono ?_
  rintro e w1 ⟨n1, rfl, h10, h11, hr1, ho1, hs1⟩
  go_wp2_with fail
  refine (pick_any B (p + 1) 16 _ (by omega) (by omega) hr1).mono ?_
  rintro e w2 ⟨z2, rfl, h20, h21, hr2, ho2, hs2⟩
  have hO2 : Only B w w2 := (((Only.refl B w).alloc _).trans ho1).trans ho2
  have hz2 : z2 = 0 ∨ (z2 == 0) = false := by by_cases h : z2 = 0 <;> simp [h]
  clear hs1 hs2
  rcases hz2 with rfl | hz2
  case' inr =>
    obtain ⟨n, hn, hN⟩ : ∃ n : Nat, n1 = (n : Int) ∧ n ≤ 44 := ⟨n1.toNat, by omega, by omega⟩
    subst hn
  case inl =>
    go_wp2_with fail
    go_loopw [3, 5] (fun u i wr => ∃ (j g c : Nat) (rs : List R4) (q : Nat), j ≤ 44 ∧ i = .int .i64 j ∧ u = .slice (some ⟨g, 0, none⟩) rs.length c ∧ rs.length ≤ 40 ∧ rs.length ≤ c ∧ FrR w wr (some ⟨g, 0, none⟩) rs ∧ q ≤ p + 2 + j * 40 ∧ Rd wr B q ∧ Only B w wr) (fun _ i _ => 44 - (intOf i).toNat)
    case atStart => exact ⟨0, w.heap.size, 0, [], p + 2, by omega, rfl, rfl, by simp, by simp, .inl rfl, by omega, hr2, hO2⟩
    case round =>
      obtain ⟨j, g, c, rs, q, hj, rfl, rfl, hl, hcl, hF, hq, hrr, hO⟩ := hrel
      clear hr1 hr2 ho1 ho2 hO2
      by_cases hlt : j < 44
      · go_wp2_with fail
        refine (drawReport B q _ (by omega) hrr).mono ?_
        rintro e w3 ⟨s, d, k, v, q3, rfl, ⟨s0, s1⟩, ⟨d0, d1⟩, ⟨k0, k1⟩, ⟨v0, v1⟩, hq3, hr3, ho3⟩
        have hO3 := hO.trans ho3
        have hF3 := hF.only ho3 hBR
        have hz3 := hO3.size
        go_wp2_with fail
        refine (pick_any B q3 3 _ (by omega) (by omega) (hr3.alloc _)).mono ?_
        rintro e w4 ⟨z4, rfl, h40, h41, hr4, ho4, _⟩
        have n0 := newCellO ho4 hr3.lt 0 _ rfl
        have n1 := newCellO ho4 hr3.lt 1 _ rfl
        have n2 := newCellO ho4 hr3.lt 2 _ rfl
        have n3 := newCellO ho4 hr3.lt 3 _ rfl
        have f0 := newFrozenO ho4 hr3.lt 0
        have f1 := newFrozenO ho4 hr3.lt 1
        have f2 := newFrozenO ho4 hr3.lt 2
        have f3 := newFrozenO ho4 hr3.lt 3
        have hO34 : Only B w3 w4 := ((Only.refl B w3).alloc _).trans ho4
        have hl4 : w3.heap.size < w4.heap.size := World.block_lt_of_cell? w4 _ n0
        clear hF
        by_cases hz : 0 < z4
        · go_wp2_with fail
          refine (pick_any B (q3 + 1) 2 _ (by omega) (by omega) hr4).mono ?_
          rintro e w5 ⟨z5, rfl, h50, h51, hr5, ho5, _⟩
          have hne : w3.heap.size ≠ B := by omega
          have hl5 : w3.heap.size < w5.heap.size := Nat.lt_of_lt_of_le hl4 ho5.size
          have m0 : w5.cell? ⟨w3.heap.size, 0, none⟩ = some (.int .i64 (s)) := (ho5.cell w3.heap.size 0 hl4 hne).trans n0
          have a0 : w5.frozen? ⟨w3.heap.size, 0, none⟩ = false := (ho5.frozen w3.heap.size 0 hl4 hne).trans f0
          have m1 : w5.cell? ⟨w3.heap.size, 1, none⟩ = some (.int .i64 (d)) := (ho5.cell w3.heap.size 1 hl4 hne).trans n1
          have a1 : w5.frozen? ⟨w3.heap.size, 1, none⟩ = false := (ho5.frozen w3.heap.size 1 hl4 hne).trans f1
          have m2 : w5.cell? ⟨w3.heap.size, 2, none⟩ = some (.int .i64 (k)) := (ho5.cell w3.heap.size 2 hl4 hne).trans n2
          have a2 : w5.frozen? ⟨w3.heap.size, 2, none⟩ = false := (ho5.frozen w3.heap.size 2 hl4 hne).trans f2
          have m3 : w5.cell? ⟨w3.heap.size, 3, none⟩ = some (.int .i64 (v)) := (ho5.cell w3.heap.size 3 hl4 hne).trans n3
          have a3 : w5.frozen? ⟨w3.heap.size, 3, none⟩ = false := (ho5.frozen w3.heap.size 3 hl4 hne).trans f3
          clear n0 f0 n1 f1 n2 f2 n3 f3
          have hO35 := hO34.trans ho5
          go_wp2_with fail
          refine (pick_any B (q3 + 2) 9 _ (by omega) (by omega) ((hr5.setCell (by omega) _).setCell (by omega) _)).mono ?_
          rintro e w6 ⟨z6, rfl, h60, h61, hr6, ho6, _⟩
          have hl6 : w3.heap.size < w6.heap.size := Nat.lt_of_lt_of_le (by simpa [World.setCell] using hl5) ho6.size
          have x0 : w6.cell? ⟨w3.heap.size, 0, none⟩ = some (.int .i64 (1 + z5)) := (ho6.cell w3.heap.size 0 (by simpa [World.setCell] using hl5) hne).trans (by go_simp)
          have b0 : w6.frozen? ⟨w3.heap.size, 0, none⟩ = false := (ho6.frozen w3.heap.size 0 (by simpa [World.setCell] using hl5) hne).trans (by go_simp)
          have x1 : w6.cell? ⟨w3.heap.size, 1, none⟩ = some (.int .i64 (d)) := (ho6.cell w3.heap.size 1 (by simpa [World.setCell] using hl5) hne).trans (by go_simp)
          have b1 : w6.frozen? ⟨w3.heap.size, 1, none⟩ = false := (ho6.frozen w3.heap.size 1 (by simpa [World.setCell] using hl5) hne).trans (by go_simp)
          have x2 : w6.cell? ⟨w3.heap.size, 2, none⟩ = some (.int .i64 (1)) := (ho6.cell w3.heap.size 2 (by simpa [World.setCell] using hl5) hne).trans (by go_simp)
          have b2 : w6.frozen? ⟨w3.heap.size, 2, none⟩ = false := (ho6.frozen w3.heap.size 2 (by simpa [World.setCell] using hl5) hne).trans (by go_simp)
          have x3 : w6.cell? ⟨w3.heap.size, 3, none⟩ = some (.int .i64 (v)) := (ho6.cell w3.heap.size 3 (by simpa [World.setCell] using hl5) hne).trans (by go_simp)
          have b3 : w6.frozen? ⟨w3.heap.size, 3, none⟩ = false := (ho6.frozen w3.heap.size 3 (by simpa [World.setCell] using hl5) hne).trans (by go_simp)
          clear m0 a0 m1 a1 m2 a2 m3 a3
          have hO36 := ((hO35.setCell (Nat.le_refl _) _).setCell (Nat.le_refl _) _).trans ho6
          go_wp2_with fail
          refine (pick_any B (q3 + 3) 8 _ (by omega) (by omega) (hr6.setCell (by omega) _)).mono ?_
          rintro e w7 ⟨z7, rfl, h70, h71, hr7, ho7, _⟩
          have hl7 : w3.heap.size < w7.heap.size := Nat.lt_of_lt_of_le (by simpa [World.setCell] using hl6) ho7.size
          have y0 : w7.cell? ⟨w3.heap.size, 0, none⟩ = some (.int .i64 (1 + z5)) := (ho7.cell w3.heap.size 0 (by simpa [World.setCell] using hl6) hne).trans (by go_simp)
          have e0 : w7.frozen? ⟨w3.heap.size, 0, none⟩ = false := (ho7.frozen w3.heap.size 0 (by simpa [World.setCell] using hl6) hne).trans (by go_simp)
          have y1 : w7.cell? ⟨w3.heap.size, 1, none⟩ = some (.int .i64 (d)) := (ho7.cell w3.heap.size 1 (by simpa [World.setCell] using hl6) hne).trans (by go_simp)
          have e1 : w7.frozen? ⟨w3.heap.size, 1, none⟩ = false := (ho7.frozen w3.heap.size 1 (by simpa [World.setCell] using hl6) hne).trans (by go_simp)
          have y2 : w7.cell? ⟨w3.heap.size, 2, none⟩ = some (.int .i64 (1)) := (ho7.cell w3.heap.size 2 (by simpa [World.setCell] using hl6) hne).trans (by go_simp)
          have e2 : w7.frozen? ⟨w3.heap.size, 2, none⟩ = false := (ho7.frozen w3.heap.size 2 (by simpa [World.setCell] using hl6) hne).trans (by go_simp)
          have y3 : w7.cell? ⟨w3.heap.size, 3, none⟩ = some (.int .i64 (z6 * 10)) := (ho7.cell w3.heap.size 3 (by simpa [World.setCell] using hl6) hne).trans (by go_simp)
          have e3 : w7.frozen? ⟨w3.heap.size, 3, none⟩ = false := (ho7.frozen w3.heap.size 3 (by simpa [World.setCell] using hl6) hne).trans (by go_simp)
          clear x0 b0 x1 b1 x2 b2 x3 b3
          have hO37 := ((hO36.setCell (Nat.le_refl _) _).trans ho7).setCell (Nat.le_refl w3.heap.size) (o := 1) (.int .i64 z7)
          have hF7 := hF3.only hO37 hBR
          have hO7 := hO3.trans hO37
          have hr8 := hr7.setCell (show B < w3.heap.size by omega) (o := 1) (.int .i64 z7)
          go_wp2_with fail
          refine (sad_spec g 0 c rs (1 + z5) (z7) (1) (z6 * 10) _ hF7.rs (by omega) hcl).mono ?_
          rintro e wa ⟨g', c', rfl, hcl', hF', hka⟩
          have hOa : Only B w wa := hO7.trans hka.only
          have hRa := hr8.keepS hka
          have hFa := hF7.keep hka
          have hl40 := adL_len rs (1 + z5, z7, 1, z6 * 10)
          have hsz := hO7.size
          have hFn := hF'.mono hsz
          rcases Bool.eq_false_or_eq_true (adB rs (1 + z5, z7, 1, z6 * 10)) with hb | hb
          · rw [hb]
            go_wp2
            go_roundw
            case rel => exact ⟨j + 1, g', c', adL rs (1 + z5, z7, 1, z6 * 10), q3 + 4, by omega, by go_num, rfl, hl40, hcl', hFn, by omega, hRa, hOa⟩
            case measure => simp [intOf]; omega
          · rw [hb]
            go_wp2
            go_roundw
            case rel => exact ⟨j + 1, g, c, rs, q3 + 4, by omega, by go_num, rfl, hl, hcl, hFa, by omega, hRa, hOa⟩
            case measure => simp [intOf]; omega
        · have hz' : z4 = 0 := by omega
          subst hz'
          have hO4 := hO3.trans hO34
          have hF4 := hF3.only hO34 hBR
          go_wp2_with fail
          refine (sad_spec g 0 c rs (s) (d) (k) (v) _ hF4.rs (by omega) hcl).mono ?_
          rintro e wa ⟨g', c', rfl, hcl', hF', hka⟩
          have hOa : Only B w wa := hO4.trans hka.only
          have hRa := hr4.keepS hka
          have hFa := hF4.keep hka
          have hl40 := adL_len rs (s, d, k, v)
          have hsz := hO4.size
          have hFn := hF'.mono hsz
          rcases Bool.eq_false_or_eq_true (adB rs (s, d, k, v)) with hb | hb
          · rw [hb]
            go_wp2
            go_roundw
            case rel => exact ⟨j + 1, g', c', adL rs (s, d, k, v), q3 + 1, by omega, by go_num, rfl, hl40, hcl', hFn, by omega, hRa, hOa⟩
            case measure => simp [intOf]; omega
          · rw [hb]
            go_wp2
            go_roundw
            case rel => exact ⟨j + 1, g, c, rs, q3 + 1, by omega, by go_num, rfl, hl, hcl, hFa, by omega, hRa, hOa⟩
            case measure => simp [intOf]; omega
      · have hj44 : j ≤ 44 := by omega
        by_cases h0 : 0 < (rs.length : Int)
        · go_wp2_with fail
          refine (pick_any B q 24 _ (by omega) (by omega) hrr).mono ?_
          rintro e w3 ⟨z3, rfl, h30, h31, hr3, ho3, _⟩
          have hO3 := hO.trans ho3
          have hF3 := hF.only ho3 hBR
          have hz : z3 = 0 ∨ (z3 == 0) = false := by by_cases h : z3 = 0 <;> simp [h]
          rcases hz with rfl | hz
          · go_wp2_with fail
            refine (pick_any B (q + 1) rs.length _ (by omega) (by omega) hr3).mono ?_
            rintro e w4 ⟨z4, rfl, h40, h41, hr4, ho4, _⟩
            have hO4 := hO3.trans ho4
            have hF4 := hF3.only ho4 hBR
            rcases hF4 with hF4 | ⟨g', hg', hgg, hgl, hW⟩
            · exfalso; rw [hF4] at h0; simp at h0
            · injection hg' with hg'
              injection hg' with hg' _ _
              subst hg'
              obtain ⟨u, rfl⟩ : ∃ u : Nat, z4 = (u : Int) := ⟨z4.toNat, by omega⟩
              have hu : u < rs.length := by omega
              obtain ⟨⟨t0, _, _, _⟩, ⟨ff, _, _, _⟩⟩ := hW u hu
              have HW := Lib.hid (wrR_station hW hu)
              have HL : Hid ((rs.set u (0, (rs.getD u r0).2)).length = rs.length) := Lib.hid (by simp)
              generalize rs.set u (0, (rs.getD u r0).2) = rs' at HW HL
              generalize rS (rs.getD u r0) = st at t0
              have HR4 := Lib.hid (hr4.setCell (show B < g by omega) (o := u * 4) (.int .i64 0))
              have HO4 := Lib.hid (hO4.setCell hgg (o := u * 4) (.int .i64 0))
              go_wp2
              go_ret
              refine ⟨g, c, rs', q + 2, by rw [HL.out]; rfl, by rw [HL.out]; exact hl, by rw [HL.out]; exact hcl, .inr ⟨g, rfl, hgg, by simpa [World.setCell] using hgl, HW.out⟩, by omega, HR4.out, HO4.out⟩
          · go_wp2
            go_ret
            exact ⟨g, c, rs, q + 1, rfl, hl, hcl, hF3, by omega, hr3, hO3⟩
        · go_wp2
          go_ret
          exact ⟨g, c, rs, q, rfl, hl, hcl, hF, by omega, hrr, hO⟩
  case inr =>
    go_wp2_with fail
    go_loopw [3, 5] (fun u i wr => ∃ (j g c : Nat) (rs : List R4) (q : Nat), j ≤ n ∧ i = .int .i64 j ∧ u = .slice (some ⟨g, 0, none⟩) rs.length c ∧ rs.length ≤ 40 ∧ rs.length ≤ c ∧ FrR w wr (some ⟨g, 0, none⟩) rs ∧ q ≤ p + 2 + j * 40 ∧ Rd wr B q ∧ Only B w wr) (fun _ i _ => n - (intOf i).toNat)
    case atStart => exact ⟨0, w.heap.size, 0, [], p + 2, by omega, rfl, rfl, by simp, by simp, .inl rfl, by omega, hr2, hO2⟩
    case round =>
      obtain ⟨j, g, c, rs, q, hj, rfl, rfl, hl, hcl, hF, hq, hrr, hO⟩ := hrel
      clear hr1 hr2 ho1 ho2 hO2
      by_cases hlt : j < n
      · go_wp2_with fail
        refine (drawReport B q _ (by omega) hrr).mono ?_
        rintro e w3 ⟨s, d, k, v, q3, rfl, ⟨s0, s1⟩, ⟨d0, d1⟩, ⟨k0, k1⟩, ⟨v0, v1⟩, hq3, hr3, ho3⟩
        have hO3 := hO.trans ho3
        have hF3 := hF.only ho3 hBR
        have hz3 := hO3.size
        go_wp2_with fail
        refine (pick_any B q3 3 _ (by omega) (by omega) (hr3.alloc _)).mono ?_
        rintro e w4 ⟨z4, rfl, h40, h41, hr4, ho4, _⟩
        have n0 := newCellO ho4 hr3.lt 0 _ rfl
        have n1 := newCellO ho4 hr3.lt 1 _ rfl
        have n2 := newCellO ho4 hr3.lt 2 _ rfl
        have n3 := newCellO ho4 hr3.lt 3 _ rfl
        have f0 := newFrozenO ho4 hr3.lt 0
        have f1 := newFrozenO ho4 hr3.lt 1
        have f2 := newFrozenO ho4 hr3.lt 2
        have f3 := newFrozenO ho4 hr3.lt 3
        have hO34 : Only B w3 w4 := ((Only.refl B w3).alloc _).trans ho4
        have hl4 : w3.heap.size < w4.heap.size := World.block_lt_of_cell? w4 _ n0
        clear hF
        by_cases hz : 0 < z4
        · go_wp2_with fail
          refine (pick_any B (q3 + 1) 2 _ (by omega) (by omega) hr4).mono ?_
          rintro e w5 ⟨z5, rfl, h50, h51, hr5, ho5, _⟩
          have hne : w3.heap.size ≠ B := by omega
          have hl5 : w3.heap.size < w5.heap.size := Nat.lt_of_lt_of_le hl4 ho5.size
          have m0 : w5.cell? ⟨w3.heap.size, 0, none⟩ = some (.int .i64 (s)) := (ho5.cell w3.heap.size 0 hl4 hne).trans n0
          have a0 : w5.frozen? ⟨w3.heap.size, 0, none⟩ = false := (ho5.frozen w3.heap.size 0 hl4 hne).trans f0
          have m1 : w5.cell? ⟨w3.heap.size, 1, none⟩ = some (.int .i64 (d)) := (ho5.cell w3.heap.size 1 hl4 hne).trans n1
          have a1 : w5.frozen? ⟨w3.heap.size, 1, none⟩ = false := (ho5.frozen w3.heap.size 1 hl4 hne).trans f1
          have m2 : w5.cell? ⟨w3.heap.size, 2, none⟩ = some (.int .i64 (k)) := (ho5.cell w3.heap.size 2 hl4 hne).trans n2
          have a2 : w5.frozen? ⟨w3.heap.size, 2, none⟩ = false := (ho5.frozen w3.heap.size 2 hl4 hne).trans f2
          have m3 : w5.cell? ⟨w3.heap.size, 3, none⟩ = some (.int .i64 (v)) := (ho5.cell w3.heap.size 3 hl4 hne).trans n3
          have a3 : w5.frozen? ⟨w3.heap.size, 3, none⟩ = false := (ho5.frozen w3.heap.size 3 hl4 hne).trans f3
          clear n0 f0 n1 f1 n2 f2 n3 f3
          have hO35 := hO34.trans ho5
          go_wp2_with fail
          refine (pick_any B (q3 + 2) 9 _ (by omega) (by omega) ((hr5.setCell (by omega) _).setCell (by omega) _)).mono ?_
          rintro e w6 ⟨z6, rfl, h60, h61, hr6, ho6, _⟩
          have hl6 : w3.heap.size < w6.heap.size := Nat.lt_of_lt_of_le (by simpa [World.setCell] using hl5) ho6.size
          have x0 : w6.cell? ⟨w3.heap.size, 0, none⟩ = some (.int .i64 (1 + z5)) := (ho6.cell w3.heap.size 0 (by simpa [World.setCell] using hl5) hne).trans (by go_simp)
          have b0 : w6.frozen? ⟨w3.heap.size, 0, none⟩ = false := (ho6.frozen w3.heap.size 0 (by simpa [World.setCell] using hl5) hne).trans (by go_simp)
          have x1 : w6.cell? ⟨w3.heap.size, 1, none⟩ = some (.int .i64 (d)) := (ho6.cell w3.heap.size 1 (by simpa [World.setCell] using hl5) hne).trans (by go_simp)
          have b1 : w6.frozen? ⟨w3.heap.size, 1, none⟩ = false := (ho6.frozen w3.heap.size 1 (by simpa [World.setCell] using hl5) hne).trans (by go_simp)
          have x2 : w6.cell? ⟨w3.heap.size, 2, none⟩ = some (.int .i64 (1)) := (ho6.cell w3.heap.size 2 (by simpa [World.setCell] using hl5) hne).trans (by go_simp)
          have b2 : w6.frozen? ⟨w3.heap.size, 2, none⟩ = false := (ho6.frozen w3.heap.size 2 (by simpa [World.setCell] using hl5) hne).trans (by go_simp)
          have x3 : w6.cell? ⟨w3.heap.size, 3, none⟩ = some (.int .i64 (v)) := (ho6.cell w3.heap.size 3 (by simpa [World.setCell] using hl5) hne).trans (by go_simp)
          have b3 : w6.frozen? ⟨w3.heap.size, 3, none⟩ = false := (ho6.frozen w3.heap.size 3 (by simpa [World.setCell] using hl5) hne).trans (by go_simp)
          clear m0 a0 m1 a1 m2 a2 m3 a3
          have hO36 := ((hO35.setCell (Nat.le_refl _) _).setCell (Nat.le_refl _) _).trans ho6
          go_wp2_with fail
          refine (pick_any B (q3 + 3) 8 _ (by omega) (by omega) (hr6.setCell (by omega) _)).mono ?_
          rintro e w7 ⟨z7, rfl, h70, h71, hr7, ho7, _⟩
          have hl7 : w3.heap.size < w7.heap.size := Nat.lt_of_lt_of_le (by simpa [World.setCell] using hl6) ho7.size
          have y0 : w7.cell? ⟨w3.heap.size, 0, none⟩ = some (.int .i64 (1 + z5)) := (ho7.cell w3.heap.size 0 (by simpa [World.setCell] using hl6) hne).trans (by go_simp)
          have e0 : w7.frozen? ⟨w3.heap.size, 0, none⟩ = false := (ho7.frozen w3.heap.size 0 (by simpa [World.setCell] using hl6) hne).trans (by go_simp)
          have y1 : w7.cell? ⟨w3.heap.size, 1, none⟩ = some (.int .i64 (d)) := (ho7.cell w3.heap.size 1 (by simpa [World.setCell] using hl6) hne).trans (by go_simp)
          have e1 : w7.frozen? ⟨w3.heap.size, 1, none⟩ = false := (ho7.frozen w3.heap.size 1 (by simpa [World.setCell] using hl6) hne).trans (by go_simp)
          have y2 : w7.cell? ⟨w3.heap.size, 2, none⟩ = some (.int .i64 (1)) := (ho7.cell w3.heap.size 2 (by simpa [World.setCell] using hl6) hne).trans (by go_simp)
          have e2 : w7.frozen? ⟨w3.heap.size, 2, none⟩ = false := (ho7.frozen w3.heap.size 2 (by simpa [World.setCell] using hl6) hne).trans (by go_simp)
          have y3 : w7.cell? ⟨w3.heap.size, 3, none⟩ = some (.int .i64 (z6 * 10)) := (ho7.cell w3.heap.size 3 (by simpa [World.setCell] using hl6) hne).trans (by go_simp)
          have e3 : w7.frozen? ⟨w3.heap.size, 3, none⟩ = false := (ho7.frozen w3.heap.size 3 (by simpa [World.setCell] using hl6) hne).trans (by go_simp)
          clear x0 b0 x1 b1 x2 b2 x3 b3
          have hO37 := ((hO36.setCell (Nat.le_refl _) _).trans ho7).setCell (Nat.le_refl w3.heap.size) (o := 1) (.int .i64 z7)
          have hF7 := hF3.only hO37 hBR
          have hO7 := hO3.trans hO37
          have hr8 := hr7.setCell (show B < w3.heap.size by omega) (o := 1) (.int .i64 z7)
          go_wp2_with fail
          refine (sad_spec g 0 c rs (1 + z5) (z7) (1) (z6 * 10) _ hF7.rs (by omega) hcl).mono ?_
          rintro e wa ⟨g', c', rfl, hcl', hF', hka⟩
          have hOa : Only B w wa := hO7.trans hka.only
          have hRa := hr8.keepS hka
          have hFa := hF7.keep hka
          have hl40 := adL_len rs (1 + z5, z7, 1, z6 * 10)
          have hsz := hO7.size
          have hFn := hF'.mono hsz
          rcases Bool.eq_false_or_eq_true (adB rs (1 + z5, z7, 1, z6 * 10)) with hb | hb
          · rw [hb]
            go_wp2
            go_roundw
            case rel => exact ⟨j + 1, g', c', adL rs (1 + z5, z7, 1, z6 * 10), q3 + 4, by omega, by go_num, rfl, hl40, hcl', hFn, by omega, hRa, hOa⟩
            case measure => simp [intOf]; omega
          · rw [hb]
            go_wp2
            go_roundw
            case rel => exact ⟨j + 1, g, c, rs, q3 + 4, by omega, by go_num, rfl, hl, hcl, hFa, by omega, hRa, hOa⟩
            case measure => simp [intOf]; omega
        · have hz' : z4 = 0 := by omega
          subst hz'
          have hO4 := hO3.trans hO34
          have hF4 := hF3.only hO34 hBR
          go_wp2_with fail
          refine (sad_spec g 0 c rs (s) (d) (k) (v) _ hF4.rs (by omega) hcl).mono ?_
          rintro e wa ⟨g', c', rfl, hcl', hF', hka⟩
          have hOa : Only B w wa := hO4.trans hka.only
          have hRa := hr4.keepS hka
          have hFa := hF4.keep hka
          have hl40 := adL_len rs (s, d, k, v)
          have hsz := hO4.size
          have hFn := hF'.mono hsz
          rcases Bool.eq_false_or_eq_true (adB rs (s, d, k, v)) with hb | hb
          · rw [hb]
            go_wp2
            go_roundw
            case rel => exact ⟨j + 1, g', c', adL rs (s, d, k, v), q3 + 1, by omega, by go_num, rfl, hl40, hcl', hFn, by omega, hRa, hOa⟩
            case measure => simp [intOf]; omega
          · rw [hb]
            go_wp2
            go_roundw
            case rel => exact ⟨j + 1, g, c, rs, q3 + 1, by omega, by go_num, rfl, hl, hcl, hFa, by omega, hRa, hOa⟩
            case measure => simp [intOf]; omega
      · obtain rfl : j = n := by omega
        by_cases h0 : 0 < (rs.length : Int)
        · go_wp2_with fail
          refine (pick_any B q 24 _ (by omega) (by omega) hrr).mono ?_
          rintro e w3 ⟨z3, rfl, h30, h31, hr3, ho3, _⟩
          have hO3 := hO.trans ho3
          have hF3 := hF.only ho3 hBR
          have hz : z3 = 0 ∨ (z3 == 0) = false := by by_cases h : z3 = 0 <;> simp [h]
          rcases hz with rfl | hz
          · go_wp2_with fail
            refine (pick_any B (q + 1) rs.length _ (by omega) (by omega) hr3).mono ?_
            rintro e w4 ⟨z4, rfl, h40, h41, hr4, ho4, _⟩
            have hO4 := hO3.trans ho4
            have hF4 := hF3.only ho4 hBR
            rcases hF4 with hF4 | ⟨g', hg', hgg, hgl, hW⟩
            · exfalso; rw [hF4] at h0; simp at h0
            · injection hg' with hg'
              injection hg' with hg' _ _
              subst hg'
              obtain ⟨u, rfl⟩ : ∃ u : Nat, z4 = (u : Int) := ⟨z4.toNat, by omega⟩
              have hu : u < rs.length := by omega
              obtain ⟨⟨t0, _, _, _⟩, ⟨ff, _, _, _⟩⟩ := hW u hu
              have HW := Lib.hid (wrR_station hW hu)
              have HL : Hid ((rs.set u (0, (rs.getD u r0).2)).length = rs.length) := Lib.hid (by simp)
              generalize rs.set u (0, (rs.getD u r0).2) = rs' at HW HL
              generalize rS (rs.getD u r0) = st at t0
              have HR4 := Lib.hid (hr4.setCell (show B < g by omega) (o := u * 4) (.int .i64 0))
              have HO4 := Lib.hid (hO4.setCell hgg (o := u * 4) (.int .i64 0))
              go_wp2
              go_ret
              refine ⟨g, c, rs', q + 2, by rw [HL.out]; rfl, by rw [HL.out]; exact hl, by rw [HL.out]; exact hcl, .inr ⟨g, rfl, hgg, by simpa [World.setCell] using hgl, HW.out⟩, by omega, HR4.out, HO4.out⟩
          · go_wp2
            go_ret
            exact ⟨g, c, rs, q + 1, rfl, hl, hcl, hF3, by omega, hr3, hO3⟩
        · go_wp2
          go_ret
          exact ⟨g, c, rs, q, rfl, hl, hcl, hF, by omega, hrr, hO⟩
end Go.Proofs.Ytamdfdbhkmgflaa
