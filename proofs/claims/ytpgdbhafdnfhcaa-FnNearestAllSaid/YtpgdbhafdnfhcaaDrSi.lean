/- How a network is drawn: sites of the call's own; the reader goes on, and nothing else turns. -/
import Derived.Test.YtpgdbhafdnfhcaaSow
import Derived.Test.YtpgdbhafdnfhcaaDrHr
import Derived.Test.YtpgdbhafdnfhcaaDrSq
import Derived.LoopTactic
namespace Go.Proofs.Ytpgdbhafdnfhcaa
open Go.RowKit
set_option linter.unusedVariables false

theorem infoSiteD : (Try.prog.info? 62).map (fun i => (i.zero, i.size, i.bytes)) = some (some (.agg #[.int .i64 0, .int .i64 0, .int .i64 0]), 3, 24) := by kernel_rfl
theorem wrS_x {w : World} {g j : Nat} {ts : List R3} (h : WrS w g ts) (hj : j < ts.length) (u : Int) :
    WrS (w.setCell ⟨g, j * 3 + 1, none⟩ (.int .i64 u)) g (ts.set j (tS (ts.getD j t0), u, tY (ts.getD j t0))) := by
  intro i hi
  rw [List.length_set] at hi
  obtain ⟨h1, h2⟩ := h i hi
  refine ⟨?_, ⟨by rw [World.frozen?_setCell]; exact h2.f0, by rw [World.frozen?_setCell]; exact h2.f1, by rw [World.frozen?_setCell]; exact h2.f2⟩⟩
  by_cases e : i = j
  · subst e
    have e2 : (ts.set i (tS (ts.getD i t0), u, tY (ts.getD i t0))).getD i t0 = (tS (ts.getD i t0), u, tY (ts.getD i t0)) := by simp [List.getD_eq_getElem?_getD, hj]
    rw [e2]
    exact ⟨(World.cell?_setCell_other _ _ _ _ (by simp)).trans h1.s, World.cell?_setCell_same _ _ _ h1.d, (World.cell?_setCell_other _ _ _ _ (by simp)).trans h1.k⟩
  · have e2 : (ts.set j (tS (ts.getD j t0), u, tY (ts.getD j t0))).getD i t0 = ts.getD i t0 := by
      have e3 : j ≠ i := fun h => e h.symm
      simp [List.getD_eq_getElem?_getD, e3]
    rw [e2]
    exact ⟨(World.cell?_setCell_other _ _ _ _ (by intro h; simp only [Addr.mk.injEq] at h; omega)).trans h1.s, (World.cell?_setCell_other _ _ _ _ (by intro h; simp only [Addr.mk.injEq] at h; omega)).trans h1.d, (World.cell?_setCell_other _ _ _ _ (by intro h; simp only [Addr.mk.injEq] at h; omega)).trans h1.k⟩
theorem wrS_s {w : World} {g j : Nat} {ts : List R3} (h : WrS w g ts) (hj : j < ts.length) (u : Int) :
    WrS (w.setCell ⟨g, j * 3, none⟩ (.int .i64 u)) g (ts.set j (u, tX (ts.getD j t0), tY (ts.getD j t0))) := by
  intro i hi
  rw [List.length_set] at hi
  obtain ⟨h1, h2⟩ := h i hi
  refine ⟨?_, ⟨by rw [World.frozen?_setCell]; exact h2.f0, by rw [World.frozen?_setCell]; exact h2.f1, by rw [World.frozen?_setCell]; exact h2.f2⟩⟩
  by_cases e : i = j
  · subst e
    have e2 : (ts.set i (u, tX (ts.getD i t0), tY (ts.getD i t0))).getD i t0 = (u, tX (ts.getD i t0), tY (ts.getD i t0)) := by simp [List.getD_eq_getElem?_getD, hj]
    rw [e2]
    exact ⟨World.cell?_setCell_same _ _ _ h1.s, (World.cell?_setCell_other _ _ _ _ (by simp)).trans h1.d, (World.cell?_setCell_other _ _ _ _ (by simp)).trans h1.k⟩
  · have e2 : (ts.set j (u, tX (ts.getD j t0), tY (ts.getD j t0))).getD i t0 = ts.getD i t0 := by
      have e3 : j ≠ i := fun h => e h.symm
      simp [List.getD_eq_getElem?_getD, e3]
    rw [e2]
    exact ⟨(World.cell?_setCell_other _ _ _ _ (by intro h; simp only [Addr.mk.injEq] at h; omega)).trans h1.s, (World.cell?_setCell_other _ _ _ _ (by intro h; simp only [Addr.mk.injEq] at h; omega)).trans h1.d, (World.cell?_setCell_other _ _ _ _ (by intro h; simp only [Addr.mk.injEq] at h; omega)).trans h1.k⟩
/-- A network as it is drawn. -/
def DrewSi (w : World) (B p n : Nat) (e : Ending) (w' : World) : Prop :=
  ∃ (g c : Nat) (ts : List R3) (q : Nat), e = .returned (.slice (some ⟨g, 0, none⟩) ts.length c) ∧ ts.length ≤ 7 ∧ ts.length ≤ c ∧ FrS w w' (some ⟨g, 0, none⟩) ts ∧ q ≤ p + n ∧ Rd w' B q ∧ Only B w w'
set_option maxRecDepth 100000 in
set_option maxHeartbeats 4000000 in
theorem drawSites (B p : Nat) (w : World) (hp : p ≤ 100) (hr : Rd w B p) :
    Calls Try.prog 81 #[.pointer (some ⟨B, 0, none⟩)] w (DrewSi w B p 40) := by
  have hBR := hr.lt
  obtain ⟨i0, hi, hz0, hz1, hz2⟩ := info_parts infoSiteD
  go_enter Try.func81, Try.ntmps81
  go_wp2_with fail
  go_loopw [3, 4] (fun v i wr => ∃ (k n g c : Nat) (ts : List R3) (q : Nat), i = .int .i64 k ∧ 1 ≤ k ∧ k ≤ 8 ∧ n ≤ 6 ∧ n ≤ c ∧ v = .slice (some ⟨g, 0, none⟩) n c ∧ Hid (ts.length = n) ∧ Hid (OwnS wr w.heap.size (.slice (some ⟨g, 0, none⟩) n c) ts) ∧ q ≤ p + 3 * k ∧ Hid (Rd wr B q) ∧ Only B w wr) (fun _ i _ => 8 - (intOf i).toNat)
  case atStart =>
    exact ⟨1, 0, w.heap.size, 0, [], p, rfl, by omega, by omega, by omega, by omega, rfl, Lib.hid rfl, Lib.hid (OwnS.made w), by omega, Lib.hid (hr.alloc _), (Only.refl B w).alloc _⟩
  case round =>
    obtain ⟨k, n, g, c, ts, q, rfl, hk1, hk8, hn6, hnc, rfl, HL, HO, hq, HR, hW⟩ := hrel
    have hsz := hW.size
    by_cases hlt : k ≤ 7
    · go_wp2_with fail
      refine (pick_any B q 3 _ (by omega) (by omega) HR.out).mono ?_
      rintro e w1 ⟨x, rfl, x0, x1, hr1, ho1, _⟩
      have HO1 := Lib.hid (HO.out.only ho1 hBR)
      have hW1 := hW.trans ho1
      by_cases hgo : 0 < x ∧ n < 6
      case' neg =>
        have hgo2 : x ≤ 0 ∨ (0 < x ∧ 6 ≤ n) := by omega
        have HR1 := Lib.hid hr1
        clear hgo hr1 ho1 HO HR hW
        rcases hgo2 with g1 | ⟨g1, g2⟩
        all_goals
          go_wp2
          go_roundw
          case rel => exact ⟨k + 1, n, g, c, ts, q + 1, by go_num, by omega, by omega, hn6, hnc, rfl, HL, HO1, by omega, HR1, hW1⟩
          case measure => simp [intOf]; omega
      obtain ⟨g1, g2⟩ := hgo
      clear HO HR hW hsz
      go_wp2_with fail
      refine (pick_any B (q + 1) 12 _ (by omega) (by omega) hr1).mono ?_
      rintro e w2 ⟨y, rfl, y0, y1, hr2, ho2, _⟩
      have HO2 := Lib.hid (HO1.out.only ho2 hBR)
      have hW2 := hW1.trans ho2
      go_wp2_with fail
      refine (pick_any B (q + 2) 12 _ (by omega) (by omega) hr2).mono ?_
      rintro e w3 ⟨z, rfl, z0, z1, hr3, ho3, _⟩
      have HO3 := Lib.hid (HO2.out.only ho3 hBR)
      have HR3 := Lib.hid hr3
      have hW3 := hW2.trans ho3
      have hsz := hW3.size
      clear hr1 hr2 hr3 ho1 ho2 ho3 HO1 HO2 hW1 hW2
      obtain rfl : ts.length = n := HL.out
      clear HL
      have hown : w3.ownsRow w.heap.size 62 3 (.slice (some ⟨g, 0, none⟩) ts.length c) ts.length (flatS ts) := HO3.out
      go_wp2_with (at_builtin; refine wpList_append_own _ rfl _ _ 56 rfl w.heap.size 62 i0 (.agg #[.int .i64 0, .int .i64 0, .int .i64 0]) 3 24 Try.underlying56 hi hz0 hz1 hz2 rfl (by decide) _ _ _ rfl (hown.alloc _) ⟨w3.heap.size, 0, none⟩ 1 1 (tc (k, y * 10, z * 10)) rfl rfl ?c1a ?c2a ?c3a ?c4a ?c5a ?_)
      case c1a => exact newsS_one ⟨by first | (go_simp; done) | (go_simp; rfl), by first | (go_simp; done) | (go_simp; rfl), by first | (go_simp; done) | (go_simp; rfl)⟩
      case c2a => exact tc_one _
      case c3a => unfold maxLen; omega
      case c4a => omega
      case c5a => first | omega | (simp; omega)
      intro v' w4 hown' hgrow hnil
      have hrow : ∀ g', _ = some g' → w.heap.size ≤ g' := fun g' hg => (hown.lt g' hg).1
      have HN : Hid (w4.ownsRow w.heap.size 62 3 v' (ts.length + 1) (flatS (ts ++ [((k : Int), y * 10, z * 10)]))) := Lib.hid (by rw [flatS_app, flatS_one]; exact hown')
      have HR2 := Lib.hid ((HR3.out.alloc _).grown2 hgrow hBR hrow)
      have HG := Lib.hid ((hW3.alloc _).grown2 hgrow hrow)
      obtain ⟨g', c', rfl, hbg, hlg⟩ := hown'.form (by omega)
      have hc' := own_capS hown'
      have HN2 : Hid (OwnS w4 w.heap.size (.slice (some ⟨g', 0, none⟩) (ts.length + 1) c') (ts ++ [((k : Int), y * 10, z * 10)])) := Lib.hid (by unfold OwnS; rw [List.length_append]; exact HN.out)
      clear hown' hgrow hnil hown hrow HO3 HN
      go_wp2
      go_roundw
      case rel => exact ⟨k + 1, ts.length + 1, g', c', _, q + 3, by go_num, by omega, by omega, by omega, hc', rfl, Lib.hid (by simp), HN2, by omega, HR2, HG.out⟩
      case measure => simp [intOf]; omega
    · have hFr : FrS w wr (some ⟨g, 0, none⟩) ts := by
        rcases Nat.eq_zero_or_pos ts.length with h0 | h0
        · exact .inl (List.eq_nil_of_length_eq_zero h0)
        · obtain ⟨g', c', he, _, hb, hl, hWs⟩ := HO.out.form h0
          injection he with he _ _
          injection he with he
          injection he with he _ _
          subst he
          exact .inr ⟨_, rfl, hb, hl, hWs⟩
      obtain rfl : ts.length = n := HL.out
      clear HL
      by_cases h0 : ts.length = 0
      · have HE := Lib.hid hFr
        have hg0 : ¬ (0 : Int) < (ts.length : Int) := by omega
        replace h0 := Lib.hid h0
        have HR1 := Lib.hid HR.out
        go_wp2
        go_ret
        exact ⟨g, c, ts, q, rfl, by omega, hnc, HE.out, by omega, HR1.out, hW⟩
      have hg0 : (0 : Int) < (ts.length : Int) := by omega
      go_wp2_with fail
      refine (pick_any B q ts.length _ (by omega) (by omega) HR.out).mono ?_
      rintro e w1 ⟨x, rfl, x0, x1, hr1, ho1, _⟩
      obtain ⟨u, rfl⟩ : ∃ u : Nat, x = (u : Int) := ⟨x.toNat, by omega⟩
      have hu : u < ts.length := by omega
      have HO1 := Lib.hid (HO.out.only ho1 hBR)
      have hF1 := hFr.only ho1 hBR
      have hW1 := hW.trans ho1
      go_wp2_with fail
      refine (pick_any B (q + 1) 24 _ (by omega) (by omega) hr1).mono ?_
      rintro e w2 ⟨z, rfl, z0, z1, hr2, ho2, _⟩
      have HO2 := Lib.hid (HO1.out.only ho2 hBR)
      have hF2 := hF1.only ho2 hBR
      have hW2 := hW1.trans ho2
      have hsz2 := hW2.size
      clear hr1 ho1 ho2 HO HO1 HR hF1 hFr hW1 hW
      have hzc : z = 0 ∨ z = 1 ∨ z = 2 ∨ ((z == 0) = false ∧ (z == 1) = false ∧ (z == 2) = false) := by
        by_cases e0 : z = 0
        · exact .inl e0
        · by_cases e1 : z = 1
          · exact .inr (.inl e1)
          · by_cases e2 : z = 2
            · exact .inr (.inr (.inl e2))
            · exact .inr (.inr (.inr ⟨beq_eq_false_iff_ne.2 e0, beq_eq_false_iff_ne.2 e1, beq_eq_false_iff_ne.2 e2⟩))
      rcases hzc with rfl | rfl | rfl | ⟨d0, d1, d2⟩
      · -- case 0
        go_wp2_with fail
        refine (pick_any B (q + 2) 3 _ (by omega) (by omega) (hr2.alloc _)).mono ?_
        rintro e w3 ⟨y, rfl, y0, y1, hr3, ho3, _⟩
        obtain ⟨v, hv, cv⟩ := newCellAny [-1, 999, 1000] ho3 hr2.lt y y0 (by simpa using y1)
        have ho3' : Only B w2 w3 := ((Only.refl B w2).alloc _).trans ho3
        have hF3 := hF2.only ho3' hBR
        have hW3 := hW2.trans ho3'
        rcases hF3 with hF3 | ⟨g', hg', hgg, hgl, hWs⟩
        · exfalso; rw [hF3] at h0; exact h0 rfl
        injection hg' with hg'
        injection hg' with hg' _ _
        subst hg'
        obtain ⟨⟨_, s1, _⟩, ⟨_, f1, _⟩⟩ := hWs u hu
        have HW := Lib.hid (wrS_x hWs hu v)
        have HL : Hid ((ts.set u (tS (ts.getD u t0), v, tY (ts.getD u t0))).length = ts.length) := Lib.hid (by simp)
        generalize ts.set u (tS (ts.getD u t0), v, tY (ts.getD u t0)) = ts' at HW HL
        generalize tX (ts.getD u t0) = old at s1
        have HR4 := Lib.hid (hr3.setCell (show B < g by omega) (o := u * 3 + 1) (.int .i64 v))
        have HO4 := Lib.hid (hW3.setCell hgg (o := u * 3 + 1) (.int .i64 v))
        clear hWs hW3 hF2 HO2 hr3
        go_wp2
        go_ret
        exact ⟨g, c, ts', q + 3, by rw [HL.out]; rfl, by rw [HL.out]; omega, by rw [HL.out]; exact hnc, .inr ⟨g, rfl, hgg, by simpa [World.setCell] using hgl, HW.out⟩, by omega, HR4.out, HO4.out⟩
      · -- case 1
        have hF3 := hF2
        rcases hF3 with hF3 | ⟨g', hg', hgg, hgl, hWs⟩
        · exfalso; rw [hF3] at h0; exact h0 rfl
        injection hg' with hg'
        injection hg' with hg' _ _
        subst hg'
        obtain ⟨⟨s0, s1, s2⟩, _⟩ := hWs u hu
        obtain ⟨r, hr⟩ : ∃ r, ts.getD u t0 = r := ⟨_, rfl⟩
        rw [hr] at s0 s1 s2
        have hown : w2.ownsRow w.heap.size 62 3 (.slice (some ⟨g, 0, none⟩) ts.length c) ts.length (flatS ts) := HO2.out
        have HRr := Lib.hid hr2
        clear hr hWs hF2 hr2
        go_wp2_with (at_builtin; refine wpList_append_own _ rfl _ _ 56 rfl w.heap.size 62 i0 (.agg #[.int .i64 0, .int .i64 0, .int .i64 0]) 3 24 Try.underlying56 hi hz0 hz1 hz2 rfl (by decide) _ _ _ rfl (hown.alloc _) ⟨w2.heap.size, 0, none⟩ 1 1 (tc r) rfl rfl ?c1b ?c2b ?c3b ?c4b ?c5b ?_)
        case c1b => exact newsS_one ⟨by first | (go_simp; done) | (go_simp; rfl), by first | (go_simp; done) | (go_simp; rfl), by first | (go_simp; done) | (go_simp; rfl)⟩
        case c2b => exact tc_one _
        case c3b => unfold maxLen; omega
        case c4b => omega
        case c5b => first | omega | (simp; omega)
        intro v' w4 hown' hgrow hnil
        have hrow : ∀ g', _ = some g' → w.heap.size ≤ g' := fun g' hg => (hown.lt g' hg).1
        have HN : Hid (w4.ownsRow w.heap.size 62 3 v' (ts.length + 1) (flatS (ts ++ [r]))) := Lib.hid (by rw [flatS_app, flatS_one]; exact hown')
        have HR2 := Lib.hid ((HRr.out.alloc _).grown2 hgrow hBR hrow)
        have HG := Lib.hid ((hW2.alloc _).grown2 hgrow hrow)
        obtain ⟨g', c', rfl, hbg, hlg⟩ := hown'.form (by omega)
        have hc' := own_capS hown'
        have HWs : Hid (WrS w4 g' (ts ++ [r])) := Lib.hid (wrS_own HN.out (by simp))
        clear hown' hgrow hnil hown hrow HN
        go_wp2
        go_ret
        exact ⟨g', c', ts ++ [r], q + 2, by rw [List.length_append]; rfl, by simp; omega, by simp; omega, .inr ⟨g', rfl, hbg, hlg, HWs.out⟩, by omega, HR2.out, HG.out⟩
      · -- case 2
        go_wp2_with fail
        refine (pick_any B (q + 2) 12 _ (by omega) (by omega) hr2).mono ?_
        rintro e w3 ⟨v, rfl, y0, y1, hr3, ho3, _⟩
        have hF3 := hF2.only ho3 hBR
        have hW3 := hW2.trans ho3
        rcases hF3 with hF3 | ⟨g', hg', hgg, hgl, hWs⟩
        · exfalso; rw [hF3] at h0; exact h0 rfl
        injection hg' with hg'
        injection hg' with hg' _ _
        subst hg'
        obtain ⟨⟨s0, _, _⟩, ⟨f0, _, _⟩⟩ := hWs u hu
        have HW := Lib.hid (wrS_s hWs hu v)
        have HL : Hid ((ts.set u (v, tX (ts.getD u t0), tY (ts.getD u t0))).length = ts.length) := Lib.hid (by simp)
        generalize ts.set u (v, tX (ts.getD u t0), tY (ts.getD u t0)) = ts' at HW HL
        generalize tS (ts.getD u t0) = old at s0
        have HR4 := Lib.hid (hr3.setCell (show B < g by omega) (o := u * 3) (.int .i64 v))
        have HO4 := Lib.hid (hW3.setCell hgg (o := u * 3) (.int .i64 v))
        clear hWs hW3 hF2 HO2 hr3
        go_wp2
        go_ret
        exact ⟨g, c, ts', q + 3, by rw [HL.out]; rfl, by rw [HL.out]; omega, by rw [HL.out]; exact hnc, .inr ⟨g, rfl, hgg, by simpa [World.setCell] using hgl, HW.out⟩, by omega, HR4.out, HO4.out⟩
      · go_wp2
        go_ret
        exact ⟨g, c, ts, q + 2, rfl, by omega, hnc, hF2, by omega, hr2, hW2⟩
end Go.Proofs.Ytpgdbhafdnfhcaa
