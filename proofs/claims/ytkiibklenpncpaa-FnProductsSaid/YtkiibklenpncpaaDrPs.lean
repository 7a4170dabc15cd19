/- How products are drawn: products of the call's own; the reader goes on, and nothing else turns. -/
import Derived.Test.YtkiibklenpncpaaDrPv
import Derived.Test.YtkiibklenpncpaaPa
import Derived.LoopTactic
import Derived.OwnWalk
namespace Go.Proofs.Ytkiibklenpncpaa
open Go.RowKit
set_option linter.unusedVariables false

theorem onlyP_grown {B : Nat} {a w w' : World} {row : Option Nat} (h : Only B a w) (hg : w.grownBy w' row) (hr : ∀ k, row = some k → a.heap.size ≤ k) : Only B a w' :=
  ⟨hg.os.trans h.os, hg.tape.trans h.tape, hg.output.trans h.output, Nat.le_trans h.size hg.size, fun i hi hne => (hg.block i (Nat.lt_of_lt_of_le hi h.size) (fun e => by have := hr i e.symm; omega)).trans (h.block i hi hne)⟩
theorem rdP_grown {w w' : World} {B p base : Nat} {row : Option Nat} (h : Rd w B p) (hg : w.grownBy w' row) (hB : B < base) (hr : ∀ k, row = some k → base ≤ k) : Rd w' B p := by
  obtain ⟨a, len, cap, hl, hb, c0, c1, f1, hc⟩ := h
  have hcell : ∀ b o, b ≤ B → w'.cell? ⟨b, o, none⟩ = w.cell? ⟨b, o, none⟩ := fun b o hbo => World.cell?_of_block (hg.block b (by omega) (fun e => by have := hr b e.symm; omega))
  refine ⟨a, len, cap, hl, Nat.lt_of_lt_of_le hb hg.size, (hcell B 0 (Nat.le_refl _)).trans c0, (hcell B 1 (Nat.le_refl _)).trans c1, ?_, hc.keep fun b o hbo => hcell b o (by omega)⟩
  rw [World.frozen?_of_block (a := ⟨B, 1, none⟩) (hg.block B hb (fun e => by have := hr B e.symm; omega))]
  exact f1
theorem newsPr (w : World) {s t f n g : Int} :
    ∀ j u, (qc (s, t, f, n, g))[j]? = some u → (w.alloc (.cells #[.int .i64 s, .int .i64 t, .int .i64 f, .int .i64 n, .int .i64 g] 33)).cell? ((⟨w.heap.size, 0, none⟩ : Addr).add j) = some u := by
  intro j u hj
  rw [Addr.add_lit, Nat.zero_add, World.cell?_alloc_new, ← hj]
  simp [qc, qS, qT, qF, qN, qG]
theorem OwnP.fr {w0 w : World} {base n c : Nat} {a : Option Addr} {ps : List R5} (h : OwnP w base (.slice a n c) ps) (hb : w0.heap.size ≤ base) : n = ps.length ∧ n ≤ c ∧ FrP w0 w a ps := by
  obtain ⟨a', c', hv, hc, _⟩ := h.slice
  injection hv with e1 e2 e3
  subst e1
  subst e2
  subst e3
  refine ⟨rfl, hc, ?_⟩
  by_cases h0 : ps = []
  · exact .inl h0
  · obtain ⟨g, c2, hv, _, hg, hlt, hW⟩ := h.form (List.length_pos_iff.2 h0)
    injection hv with e1 _ _
    subst e1
    exact .inr ⟨g, rfl, by omega, hlt, hW⟩
/-- Products as they are drawn. -/
def DrewP (w : World) (B p : Nat) (e : Ending) (w' : World) : Prop :=
  ∃ (g c : Nat) (ps : List R5) (q : Nat), e = .returned (.slice (some ⟨g, 0, none⟩) ps.length c) ∧ ps.length ≤ 7 ∧ ps.length ≤ c ∧ FrP w w' (some ⟨g, 0, none⟩) ps ∧ q ≤ p + 200 ∧ Rd w' B q ∧ Only B w w'
set_option maxRecDepth 100000 in
set_option maxHeartbeats 4000000 in
theorem drawProducts (B p : Nat) (w : World) (hp : p ≤ 3000) (hr : Rd w B p) :
    Calls Try.prog 54 #[.pointer (some ⟨B, 0, none⟩)] w (DrewP w B p) := by
  have hBR := hr.lt
  obtain ⟨i0, hi, hz0, hz1, hzz2⟩ := info_parts infoPro
  go_enter Try.func54, Try.ntmps54
  go_wp2_with fail
  refine (pick_any B p 7 _ (by omega) (by omega) (hr.alloc _)).mono ?_
  rintro e w1 ⟨n1, rfl, h10, h11, hr1, ho1, hs1⟩
  go_wp2_with fail
  refine (pick_any B (p + 1) 24 _ (by omega) (by omega) hr1).mono ?_
  rintro e w2 ⟨z2, rfl, h20, h21, hr2, ho2, hs2⟩
  have hO2 : Only B w w2 := (((Only.refl B w).alloc _).trans ho1).trans ho2
  have hOw : OwnP w2 w.heap.size (.slice (some ⟨w.heap.size, 0, none⟩) 0 0) [] := ((OwnP.made w).only ho1 hBR).only ho2 hBR
  have hz2 : z2 = 0 ∨ (z2 == 0) = false := by by_cases h : z2 = 0 <;> simp [h]
  clear hs1 hs2 ho1 ho2 hr1 hr
  rcases hz2 with rfl | hz2
  case' inr =>
    obtain ⟨n, hn, hN⟩ : ∃ n : Nat, n1 = (n : Int) ∧ n ≤ 7 := ⟨n1.toNat, by omega, by omega⟩
    subst hn
  case inl =>
    go_wp2_with fail
    go_loopw [3, 5] (fun u i wr => ∃ (j g c : Nat) (ps : List R5) (q : Nat), j ≤ 7 ∧ i = .int .i64 j ∧ u = .slice (some ⟨g, 0, none⟩) ps.length c ∧ ps.length ≤ j ∧ Hid (OwnP wr w.heap.size (.slice (some ⟨g, 0, none⟩) ps.length c) ps) ∧ q ≤ p + 2 + j * 11 ∧ Rd wr B q ∧ Only B w wr) (fun _ i _ => 7 - (intOf i).toNat)
    case atStart => exact ⟨0, w.heap.size, 0, [], p + 2, by omega, rfl, rfl, by simp, Lib.hid hOw, by omega, hr2, hO2⟩
    case round =>
      obtain ⟨j, g, c, ps, q, hj, rfl, rfl, hl, HW, hq, hrr, hO⟩ := hrel
      clear hr2 hO2 hOw
      by_cases hlt : j < 7
      · have hlt2 : (j : Int) < 7 := by omega
        go_wp2_with fail
        refine (drawProduct B q _ (by omega) hrr).mono ?_
        rintro e w3 ⟨s, t, f, nn, gg, q3, rfl, _, _, hq3, hr3, ho3⟩
        have hO3 := hO.trans ho3
        have hs3 := hO3.size
        have HW3 := Lib.hid (HW.out.only ho3 hBR)
        clear HW
        have HPR := Lib.hid (fun W => prv_spec s t f nn gg W)
        obtain ⟨W0, hW0⟩ : ∃ W0, W0 = w3.alloc (.cells #[.int .i64 s, .int .i64 t, .int .i64 f, .int .i64 nn, .int .i64 gg] 33) := ⟨_, rfl⟩
        have p0 : W0.cell? ⟨w3.heap.size, 0, none⟩ = some (.int .i64 s) := by rw [hW0]; exact (World.cell?_alloc_new w3 _ _ 0)
        have p1 : W0.cell? ⟨w3.heap.size, 1, none⟩ = some (.int .i64 t) := by rw [hW0]; exact (World.cell?_alloc_new w3 _ _ 1)
        have p2 : W0.cell? ⟨w3.heap.size, 2, none⟩ = some (.int .i64 f) := by rw [hW0]; exact (World.cell?_alloc_new w3 _ _ 2)
        have p3 : W0.cell? ⟨w3.heap.size, 3, none⟩ = some (.int .i64 nn) := by rw [hW0]; exact (World.cell?_alloc_new w3 _ _ 3)
        have p4 : W0.cell? ⟨w3.heap.size, 4, none⟩ = some (.int .i64 gg) := by rw [hW0]; exact (World.cell?_alloc_new w3 _ _ 4)
        have KW0 : Keep w3 W0 := by rw [hW0]; exact (Keep.refl w3).alloc _
        have hlt0 : w3.heap.size < W0.heap.size := World.block_lt_of_cell? W0 _ p0
        go_wp2_with fail
        rw [← hW0]
        refine (HPR.out _).mono ?_
        rintro e w4 ⟨rfl, k4⟩
        have K4 := KW0.trans k4
        replace p0 := k4.cell p0
        replace p1 := k4.cell p1
        replace p2 := k4.cell p2
        replace p3 := k4.cell p3
        replace p4 := k4.cell p4
        have hlt4 : w3.heap.size < w4.heap.size := World.block_lt_of_cell? w4 _ p0
        have hr4 := hr3.keepS K4
        have hO4 := hO3.trans K4.only
        have HW4 := Lib.hid (HW3.out.keep K4)
        clear hW0 HW3 KW0 k4 hr3 hO3 ho3 hlt0
        have hsz4 := hO4.size
        rcases Bool.eq_false_or_eq_true (prB s t f nn gg) with hb | hb
        · rw [hb]
          have hownD : (w4.alloc (.cells #[.int .i64 s, .int .i64 t, .int .i64 f, .int .i64 nn, .int .i64 gg] 33)).ownsRow w.heap.size 33 5 (.slice (some ⟨g, 0, none⟩) ps.length c) ps.length (flatP ps) := by
            have h9 := HW4.out.keep ((Keep.refl w4).alloc (.cells #[.int .i64 s, .int .i64 t, .int .i64 f, .int .i64 nn, .int .i64 gg] 33))
            unfold OwnP at h9
            exact h9
          go_wp2_with (at_builtin; go_loud (refine wpList_append_own _ rfl _ _ 24 rfl w.heap.size 33 i0 (.agg #[.int .i64 0, .int .i64 0, .int .i64 0, .int .i64 0, .int .i64 0]) 5 40 Try.underlying24 hi hz0 hz1 hzz2 rfl (by decide) _ _ _ rfl hownD ⟨w4.heap.size, 0, none⟩ 1 1 (qc (s, t, f, nn, gg)) rfl rfl (newsPr w4) ?c2a ?c3a ?c4a ?c5a ?_))
          case c2a => exact qc_one _
          case c3a => unfold maxLen; omega
          case c4a => omega
          case c5a => first | omega | (simp; omega)
          intro v' w9 hown' hgrow hnil
          have HK2 : Hid (Rd w9 B q3 ∧ Only B w w9) := Lib.hid ⟨rdP_grown (base := w.heap.size) (hr4.alloc _) hgrow hBR (fun q hq => (hownD.lt q hq).1), onlyP_grown (hO4.alloc _) hgrow (fun q hq => (hownD.lt q hq).1)⟩
          obtain ⟨g', c', rfl, hbg, hlg⟩ := hown'.form (by omega)
          have HN : Hid (OwnP w9 w.heap.size (.slice (some ⟨g', 0, none⟩) (ps.length + 1) c') (ps ++ [(s, t, f, nn, gg)])) := Lib.hid (by unfold OwnP; rw [flatP_app, flatP_one, List.length_append]; exact hown')
          have HL : Hid ((ps ++ [(s, t, f, nn, gg)]).length = ps.length + 1) := Lib.hid (by simp)
          generalize ps ++ [(s, t, f, nn, gg)] = ps2 at *
          clear hown' hgrow hnil hownD
          go_wp2
          go_roundw
          case rel => exact ⟨j + 1, g', c', ps2, q3, by omega, by go_num, by rw [HL.out], by rw [HL.out]; omega, by rw [HL.out]; exact HN, by omega, HK2.out.1, HK2.out.2⟩
          case measure => simp [intOf]; omega
        · rw [hb]
          go_wp2_with fail
          refine (pick_any B q3 8 _ (by omega) (by omega) hr4).mono ?_
          rintro e w5 ⟨z5, rfl, h50, h51, hr5, ho5, _⟩
          have hne : w3.heap.size ≠ B := by omega
          replace p0 := (ho5.cell w3.heap.size 0 hlt4 hne).trans p0
          replace p1 := (ho5.cell w3.heap.size 1 hlt4 hne).trans p1
          replace p2 := (ho5.cell w3.heap.size 2 hlt4 hne).trans p2
          replace p3 := (ho5.cell w3.heap.size 3 hlt4 hne).trans p3
          replace p4 := (ho5.cell w3.heap.size 4 hlt4 hne).trans p4
          have HW5 := Lib.hid (HW4.out.only ho5 hBR)
          have hO5 := hO4.trans ho5
          have hsz5 := hO5.size
          clear HW4 hO4 ho5 hr4 hsz4 hlt4
          have hz5 : z5 = 0 ∨ (z5 == 0) = false := by by_cases h : z5 = 0 <;> simp [h]
          rcases hz5 with rfl | hz5
          · skip
            have hownD : (w5.alloc (.cells #[.int .i64 s, .int .i64 t, .int .i64 f, .int .i64 nn, .int .i64 gg] 33)).ownsRow w.heap.size 33 5 (.slice (some ⟨g, 0, none⟩) ps.length c) ps.length (flatP ps) := by
              have h9 := HW5.out.keep ((Keep.refl w5).alloc (.cells #[.int .i64 s, .int .i64 t, .int .i64 f, .int .i64 nn, .int .i64 gg] 33))
              unfold OwnP at h9
              exact h9
            go_wp2_with (at_builtin; go_loud (refine wpList_append_own _ rfl _ _ 24 rfl w.heap.size 33 i0 (.agg #[.int .i64 0, .int .i64 0, .int .i64 0, .int .i64 0, .int .i64 0]) 5 40 Try.underlying24 hi hz0 hz1 hzz2 rfl (by decide) _ _ _ rfl hownD ⟨w5.heap.size, 0, none⟩ 1 1 (qc (s, t, f, nn, gg)) rfl rfl (newsPr w5) ?c2a ?c3a ?c4a ?c5a ?_))
            case c2a => exact qc_one _
            case c3a => unfold maxLen; omega
            case c4a => omega
            case c5a => first | omega | (simp; omega)
            intro v' w9 hown' hgrow hnil
            have HK2 : Hid (Rd w9 B (q3 + 1) ∧ Only B w w9) := Lib.hid ⟨rdP_grown (base := w.heap.size) (hr5.alloc _) hgrow hBR (fun q hq => (hownD.lt q hq).1), onlyP_grown (hO5.alloc _) hgrow (fun q hq => (hownD.lt q hq).1)⟩
            obtain ⟨g', c', rfl, hbg, hlg⟩ := hown'.form (by omega)
            have HN : Hid (OwnP w9 w.heap.size (.slice (some ⟨g', 0, none⟩) (ps.length + 1) c') (ps ++ [(s, t, f, nn, gg)])) := Lib.hid (by unfold OwnP; rw [flatP_app, flatP_one, List.length_append]; exact hown')
            have HL : Hid ((ps ++ [(s, t, f, nn, gg)]).length = ps.length + 1) := Lib.hid (by simp)
            generalize ps ++ [(s, t, f, nn, gg)] = ps2 at *
            clear hown' hgrow hnil hownD
            go_wp2
            go_roundw
            case rel => exact ⟨j + 1, g', c', ps2, (q3 + 1), by omega, by go_num, by rw [HL.out], by rw [HL.out]; omega, by rw [HL.out]; exact HN, by omega, HK2.out.1, HK2.out.2⟩
            case measure => simp [intOf]; omega
          · go_wp2
            go_roundw
            case rel => exact ⟨j + 1, g, c, ps, q3 + 1, by omega, by go_num, rfl, by omega, HW5, by omega, hr5, hO5⟩
            case measure => simp [intOf]; omega
      · have HFF := Lib.hid (OwnP.fr (w0 := w) HW.out (Nat.le_refl _))
        go_wp2
        go_ret
        exact ⟨g, c, ps, q, rfl, by omega, HFF.out.2.1, HFF.out.2.2, by omega, hrr, hO⟩
  case inr =>
    go_wp2_with fail
    go_loopw [3, 5] (fun u i wr => ∃ (j g c : Nat) (ps : List R5) (q : Nat), j ≤ n ∧ i = .int .i64 j ∧ u = .slice (some ⟨g, 0, none⟩) ps.length c ∧ ps.length ≤ j ∧ Hid (OwnP wr w.heap.size (.slice (some ⟨g, 0, none⟩) ps.length c) ps) ∧ q ≤ p + 2 + j * 11 ∧ Rd wr B q ∧ Only B w wr) (fun _ i _ => n - (intOf i).toNat)
    case atStart => exact ⟨0, w.heap.size, 0, [], p + 2, by omega, rfl, rfl, by simp, Lib.hid hOw, by omega, hr2, hO2⟩
    case round =>
      obtain ⟨j, g, c, ps, q, hj, rfl, rfl, hl, HW, hq, hrr, hO⟩ := hrel
      clear hr2 hO2 hOw
      by_cases hlt : j < n
      · have hlt2 : (j : Int) < 7 := by omega
        go_wp2_with fail
        refine (drawProduct B q _ (by omega) hrr).mono ?_
        rintro e w3 ⟨s, t, f, nn, gg, q3, rfl, _, _, hq3, hr3, ho3⟩
        have hO3 := hO.trans ho3
        have hs3 := hO3.size
        have HW3 := Lib.hid (HW.out.only ho3 hBR)
        clear HW
        have HPR := Lib.hid (fun W => prv_spec s t f nn gg W)
        obtain ⟨W0, hW0⟩ : ∃ W0, W0 = w3.alloc (.cells #[.int .i64 s, .int .i64 t, .int .i64 f, .int .i64 nn, .int .i64 gg] 33) := ⟨_, rfl⟩
        have p0 : W0.cell? ⟨w3.heap.size, 0, none⟩ = some (.int .i64 s) := by rw [hW0]; exact (World.cell?_alloc_new w3 _ _ 0)
        have p1 : W0.cell? ⟨w3.heap.size, 1, none⟩ = some (.int .i64 t) := by rw [hW0]; exact (World.cell?_alloc_new w3 _ _ 1)
        have p2 : W0.cell? ⟨w3.heap.size, 2, none⟩ = some (.int .i64 f) := by rw [hW0]; exact (World.cell?_alloc_new w3 _ _ 2)
        have p3 : W0.cell? ⟨w3.heap.size, 3, none⟩ = some (.int .i64 nn) := by rw [hW0]; exact (World.cell?_alloc_new w3 _ _ 3)
        have p4 : W0.cell? ⟨w3.heap.size, 4, none⟩ = some (.int .i64 gg) := by rw [hW0]; exact (World.cell?_alloc_new w3 _ _ 4)
        have KW0 : Keep w3 W0 := by rw [hW0]; exact (Keep.refl w3).alloc _
        have hlt0 : w3.heap.size < W0.heap.size := World.block_lt_of_cell? W0 _ p0
        go_wp2_with fail
        rw [← hW0]
        refine (HPR.out _).mono ?_
        rintro e w4 ⟨rfl, k4⟩
        have K4 := KW0.trans k4
        replace p0 := k4.cell p0
        replace p1 := k4.cell p1
        replace p2 := k4.cell p2
        replace p3 := k4.cell p3
        replace p4 := k4.cell p4
        have hlt4 : w3.heap.size < w4.heap.size := World.block_lt_of_cell? w4 _ p0
        have hr4 := hr3.keepS K4
        have hO4 := hO3.trans K4.only
        have HW4 := Lib.hid (HW3.out.keep K4)
        clear hW0 HW3 KW0 k4 hr3 hO3 ho3 hlt0
        have hsz4 := hO4.size
        rcases Bool.eq_false_or_eq_true (prB s t f nn gg) with hb | hb
        · rw [hb]
          have hownD : (w4.alloc (.cells #[.int .i64 s, .int .i64 t, .int .i64 f, .int .i64 nn, .int .i64 gg] 33)).ownsRow w.heap.size 33 5 (.slice (some ⟨g, 0, none⟩) ps.length c) ps.length (flatP ps) := by
            have h9 := HW4.out.keep ((Keep.refl w4).alloc (.cells #[.int .i64 s, .int .i64 t, .int .i64 f, .int .i64 nn, .int .i64 gg] 33))
            unfold OwnP at h9
            exact h9
          go_wp2_with (at_builtin; go_loud (refine wpList_append_own _ rfl _ _ 24 rfl w.heap.size 33 i0 (.agg #[.int .i64 0, .int .i64 0, .int .i64 0, .int .i64 0, .int .i64 0]) 5 40 Try.underlying24 hi hz0 hz1 hzz2 rfl (by decide) _ _ _ rfl hownD ⟨w4.heap.size, 0, none⟩ 1 1 (qc (s, t, f, nn, gg)) rfl rfl (newsPr w4) ?c2a ?c3a ?c4a ?c5a ?_))
          case c2a => exact qc_one _
          case c3a => unfold maxLen; omega
          case c4a => omega
          case c5a => first | omega | (simp; omega)
          intro v' w9 hown' hgrow hnil
          have HK2 : Hid (Rd w9 B q3 ∧ Only B w w9) := Lib.hid ⟨rdP_grown (base := w.heap.size) (hr4.alloc _) hgrow hBR (fun q hq => (hownD.lt q hq).1), onlyP_grown (hO4.alloc _) hgrow (fun q hq => (hownD.lt q hq).1)⟩
          obtain ⟨g', c', rfl, hbg, hlg⟩ := hown'.form (by omega)
          have HN : Hid (OwnP w9 w.heap.size (.slice (some ⟨g', 0, none⟩) (ps.length + 1) c') (ps ++ [(s, t, f, nn, gg)])) := Lib.hid (by unfold OwnP; rw [flatP_app, flatP_one, List.length_append]; exact hown')
          have HL : Hid ((ps ++ [(s, t, f, nn, gg)]).length = ps.length + 1) := Lib.hid (by simp)
          generalize ps ++ [(s, t, f, nn, gg)] = ps2 at *
          clear hown' hgrow hnil hownD
          go_wp2
          go_roundw
          case rel => exact ⟨j + 1, g', c', ps2, q3, by omega, by go_num, by rw [HL.out], by rw [HL.out]; omega, by rw [HL.out]; exact HN, by omega, HK2.out.1, HK2.out.2⟩
          case measure => simp [intOf]; omega
        · rw [hb]
          go_wp2_with fail
          refine (pick_any B q3 8 _ (by omega) (by omega) hr4).mono ?_
          rintro e w5 ⟨z5, rfl, h50, h51, hr5, ho5, _⟩
          have hne : w3.heap.size ≠ B := by omega
          replace p0 := (ho5.cell w3.heap.size 0 hlt4 hne).trans p0
          replace p1 := (ho5.cell w3.heap.size 1 hlt4 hne).trans p1
          replace p2 := (ho5.cell w3.heap.size 2 hlt4 hne).trans p2
          replace p3 := (ho5.cell w3.heap.size 3 hlt4 hne).trans p3
          replace p4 := (ho5.cell w3.heap.size 4 hlt4 hne).trans p4
          have HW5 := Lib.hid (HW4.out.only ho5 hBR)
          have hO5 := hO4.trans ho5
          have hsz5 := hO5.size
          clear HW4 hO4 ho5 hr4 hsz4 hlt4
          have hz5 : z5 = 0 ∨ (z5 == 0) = false := by by_cases h : z5 = 0 <;> simp [h]
          rcases hz5 with rfl | hz5
          · skip
            have hownD : (w5.alloc (.cells #[.int .i64 s, .int .i64 t, .int .i64 f, .int .i64 nn, .int .i64 gg] 33)).ownsRow w.heap.size 33 5 (.slice (some ⟨g, 0, none⟩) ps.length c) ps.length (flatP ps) := by
              have h9 := HW5.out.keep ((Keep.refl w5).alloc (.cells #[.int .i64 s, .int .i64 t, .int .i64 f, .int .i64 nn, .int .i64 gg] 33))
              unfold OwnP at h9
              exact h9
            go_wp2_with (at_builtin; go_loud (refine wpList_append_own _ rfl _ _ 24 rfl w.heap.size 33 i0 (.agg #[.int .i64 0, .int .i64 0, .int .i64 0, .int .i64 0, .int .i64 0]) 5 40 Try.underlying24 hi hz0 hz1 hzz2 rfl (by decide) _ _ _ rfl hownD ⟨w5.heap.size, 0, none⟩ 1 1 (qc (s, t, f, nn, gg)) rfl rfl (newsPr w5) ?c2a ?c3a ?c4a ?c5a ?_))
            case c2a => exact qc_one _
            case c3a => unfold maxLen; omega
            case c4a => omega
            case c5a => first | omega | (simp; omega)
            intro v' w9 hown' hgrow hnil
            have HK2 : Hid (Rd w9 B (q3 + 1) ∧ Only B w w9) := Lib.hid ⟨rdP_grown (base := w.heap.size) (hr5.alloc _) hgrow hBR (fun q hq => (hownD.lt q hq).1), onlyP_grown (hO5.alloc _) hgrow (fun q hq => (hownD.lt q hq).1)⟩
            obtain ⟨g', c', rfl, hbg, hlg⟩ := hown'.form (by omega)
            have HN : Hid (OwnP w9 w.heap.size (.slice (some ⟨g', 0, none⟩) (ps.length + 1) c') (ps ++ [(s, t, f, nn, gg)])) := Lib.hid (by unfold OwnP; rw [flatP_app, flatP_one, List.length_append]; exact hown')
            have HL : Hid ((ps ++ [(s, t, f, nn, gg)]).length = ps.length + 1) := Lib.hid (by simp)
            generalize ps ++ [(s, t, f, nn, gg)] = ps2 at *
            clear hown' hgrow hnil hownD
            go_wp2
            go_roundw
            case rel => exact ⟨j + 1, g', c', ps2, (q3 + 1), by omega, by go_num, by rw [HL.out], by rw [HL.out]; omega, by rw [HL.out]; exact HN, by omega, HK2.out.1, HK2.out.2⟩
            case measure => simp [intOf]; omega
          · go_wp2
            go_roundw
            case rel => exact ⟨j + 1, g, c, ps, q3 + 1, by omega, by go_num, rfl, by omega, HW5, by omega, hr5, hO5⟩
            case measure => simp [intOf]; omega
      · have HFF := Lib.hid (OwnP.fr (w0 := w) HW.out (Nat.le_refl _))
        go_wp2
        go_ret
        exact ⟨g, c, ps, q, rfl, by omega, HFF.out.2.1, HFF.out.2.2, by omega, hrr, hO⟩
set_option maxRecDepth 100000 in
set_option maxHeartbeats 2000000 in
theorem drawProductsAll (a : Option Addr) (len cap : Nat) (w : World) (ha : CodeArg w a len cap) :
    Calls Try.prog 12 #[.slice a len cap] w fun e w' => ∃ (gg c : Nat) (rs : List R4) (v : Int) (g d : Nat) (ps : List R5), e = .returned (.tuple #[.slice (some ⟨gg, 0, none⟩) rs.length c, .int .i64 v, .slice (some ⟨g, 0, none⟩) ps.length d]) ∧
      (rs.length ≤ 40 ∧ rs.length ≤ c) ∧ (ps.length ≤ 7 ∧ ps.length ≤ d) ∧ Rs w' (some ⟨gg, 0, none⟩) rs ∧ Ps w' (some ⟨g, 0, none⟩) ps ∧ Keep w w' := by
  go_enter Try.func12, Try.ntmps12
  go_wp2_with fail
  refine (open_any a len cap _ ha).mono ?_
  rintro e w1 ⟨rfl, hr, hb, hs⟩
  have k1 : Keep w w1 := hb
  have hB := hr.lt
  go_wp2_with fail
  refine (drawStore _ 0 _ (by omega) hr).mono ?_
  rintro e w2 ⟨gg, c, rs, q, rfl, hl, hcl, hF, hq, hr2, ho2⟩
  go_wp2_with fail
  refine (drawVersion _ q rs.length _ (by omega) hl hr2).mono ?_
  rintro e w3 ⟨v, q3, rfl, hn0, hn1, hq3, hr3, ho3⟩
  go_wp2_with fail
  refine (drawProducts _ q3 _ (by omega) hr3).mono ?_
  rintro e w4 ⟨g, d, ps, q4, rfl, hl4, hcl4, hF4, hq4, hr4, ho4⟩
  have ho := (ho2.trans ho3).trans ho4
  have hRs := ((hF.only ho3 hB).only ho4 hB).rs
  have hPs := hF4.ps
  have kf : Keep w w4 := Only.keep ho k1 (Nat.le_refl _)
  clear hF hF4 hr hr2 hr3 hr4 ho ho2 ho3 ho4 hb
  go_wp2
  go_ret3
  exact ⟨gg, c, rs, v, g, d, ps, rfl, ⟨hl, hcl⟩, ⟨hl4, hcl4⟩, hRs, hPs, kf⟩
end Go.Proofs.Ytkiibklenpncpaa
