/- StoreAdd: the program answers as its model; its answer is new memory. -/
import Derived.Test.YtkapnbfjpglblabMg
import Derived.Test.YtkapnbfjpglblabFr
import Derived.Deep.RegionWith
import Derived.Deep.DeepCutAuto
import Derived.Outline
namespace Go.Proofs.Ytkapnbfjpglblab
open Go.RowKit
set_option linter.unusedVariables false

set_option maxRecDepth 100000 in
set_option maxHeartbeats 2000000 in
theorem walk_FnExactStoreAdd (a0 : Option Addr) (len0 cap0 : Nat) (z0 : Nat → Nat → Int) (z1 : Nat → Int) (w : World) (w0 : IsRows 4 w a0 len0 cap0 z0) (w1 : ∀ j, j < 4 → (Lit.int .i64 (z1 j)).wf = true) :
    Calls Try.prog 13 #[.slice a0 len0 cap0, .agg #[.int .i64 (z1 0), .int .i64 (z1 1), .int .i64 (z1 2), .int .i64 (z1 3)]] w fun e w' => e = .returned (.bool true) ∧ Below w.heap.size w w' := by
  obtain ⟨y0, hl0, hL0, ⟨hm0, hM0⟩⟩ := rs_of_rows w0
  subst hl0
  clear w0 w1
  unfold maxLen at hM0
  generalize z1 0 = s, z1 1 = d, z1 2 = t, z1 3 = v
  by_cases h0 : y0.length ≤ 1048576
  case' neg =>
    go_enter Try.func13, Try.ntmps13
    go_wp2_with (go_at_call 36; refine (sz_big _ _ _ _ (by omega) (by omega)).mono ?_; rintro e w' ⟨rfl, rfl⟩)
    go_ret
    exact ⟨rfl, ((Keep.refl w).alloc _).below⟩
  have hd0 : decide (1048576 - (y0.length : Int) < 0) = false := by simp; omega
  have HZ := adL_len y0 (s, d, t, v)
  go_enter Try.func13, Try.ntmps13
  go_wp2_with fail
  refine (sz_any _ _ _ _ h0).mono ?_
  rintro e w' ⟨rfl, rfl⟩
  go_upto_region 5 with fail
  have k0 : Keep w (w.alloc (.cells #[.int .i64 s, .int .i64 d, .int .i64 t, .int .i64 v] 51)) := (Keep.refl w).alloc _
  have hL := hL0.keep k0
  have c0 : (w.alloc (.cells #[.int .i64 s, .int .i64 d, .int .i64 t, .int .i64 v] 51)).cell? ⟨w.heap.size, 0, none⟩ = some (.int .i64 s) := by go_simp
  have c1 : (w.alloc (.cells #[.int .i64 s, .int .i64 d, .int .i64 t, .int .i64 v] 51)).cell? ⟨w.heap.size, 1, none⟩ = some (.int .i64 d) := by go_simp
  have c2 : (w.alloc (.cells #[.int .i64 s, .int .i64 d, .int .i64 t, .int .i64 v] 51)).cell? ⟨w.heap.size, 2, none⟩ = some (.int .i64 t) := by go_simp
  have c3 : (w.alloc (.cells #[.int .i64 s, .int .i64 d, .int .i64 t, .int .i64 v] 51)).cell? ⟨w.heap.size, 3, none⟩ = some (.int .i64 v) := by go_simp
  clear hL0
  generalize w.alloc (.cells #[.int .i64 s, .int .i64 d, .int .i64 t, .int .i64 v] 51) = W0 at *
  have hL0k := Lib.hid (fun (W : World) (hK : Keep W0 W) => hL.keep hK)
  have C0 := Lib.hid c0
  have C1 := Lib.hid c1
  have C2 := Lib.hid c2
  have C3 := Lib.hid c3
  go_cut [6, 7] (fun s6 s7 wx => ∃ (g c : Nat), s6 = .slice (some ⟨g, 0, none⟩) (adL y0 (s, d, t, v)).length c ∧ s7 = .bool (adB y0 (s, d, t, v)) ∧ FrR W0 wx (some ⟨g, 0, none⟩) (adL y0 (s, d, t, v)) ∧ Keep W0 wx)
  case first =>
    have kd : Keep W0 W0.drew := (Keep.refl W0).drew
    have n0 := kd.cell c0
    have n1 := kd.cell c1
    have n2 := kd.cell c2
    have n3 := kd.cell c3
    go_region_with (first
      | (go_at_call 37; (with_reducible refine (toR_any _ _ y0 _ (hL.keep kd) h0).mono ?_); rintro e wA ⟨gA, hgA, rfl, hWA, hkA, hlA⟩; have kA := kd.trans hkA; have q0 := kA.cell c0; have q1 := kA.cell c1; have q2 := kA.cell c2; have q3 := kA.cell c3)
      | (go_at_call 37; (with_reducible refine (toR_any _ _ y0 _ (hL.keep kB) h0).mono ?_); rintro e wA ⟨gA, hgA, rfl, hWA, hkA, hlA⟩; have kA := kB.trans hkA; have q0 := kA.cell c0; have q1 := kA.cell c1; have q2 := kA.cell c2; have q3 := kA.cell c3; have hWB := hWA; have kC := kA)
      | (go_at_call 39; (with_reducible refine (toRep s d t v wA).mono ?_); rintro e wB ⟨rfl, hkB⟩; have kB : Keep W0 wB := kA.trans hkB; have hWB := hWA.keep hkB; have kC := kB)
      | (go_at_call 39; (with_reducible refine (toRep s d t v _).mono ?_); rintro e wB ⟨rfl, hkB⟩; have kB : Keep W0 wB := kd.trans hkB; have q0 := kB.cell c0; have q1 := kB.cell c1; have q2 := kB.cell c2; have q3 := kB.cell c3)
      | (go_at_call 19; refine (sad_spec gA 0 _ y0 s d t v _ hWB.rs (by omega) (by omega)).mono ?_; rintro e wC ⟨p, c, rfl, hF, kF⟩; have hs0 := kC.size; have hFF := hF.mono hs0; have kE := kC.trans kF))
    all_goals
      go_wp2_with fail
      go_meet
      exact ⟨_, _, rfl, rfl, hFF, kE⟩
  case rest =>
    obtain ⟨g2, q2, rfl, rfl, hF2, k2⟩ := hcut
    have hL2 := hL.keep k2
    have x0 := k2.cell c0
    have x1 := k2.cell c1
    have x2 := k2.cell c2
    have x3 := k2.cell c3
    clear c0 c1 c2 c3 hL
    go_wp2_with fail
    refine (toR_any _ _ y0 _ hL2 h0).mono ?_
    rintro e w3 ⟨g3, hg3, rfl, hW3, k3, hl3⟩
    have m0 := k3.cell x0
    have m1 := k3.cell x1
    have m2 := k3.cell x2
    have m3 := k3.cell x3
    go_wp2_with fail
    refine (toRep s d t v _).mono ?_
    rintro e w4 ⟨rfl, hk4⟩
    have k4 : Keep w3 w4 := hk4
    go_wp2_with fail
    refine (sad_impl g3 0 _ y0 s d t v _ (hW3.keep k4).rs (by omega) (by omega)).mono ?_
    rintro e w5 ⟨p5, q5, rfl, hF5, k5⟩
    have c5 := ((k2.trans k3).trans k4).trans k5
    have R3 := hF2.rs.keep k3
    have lo3 : Lo g3 (some ⟨g2, 0, none⟩) _ := hF2.rs.lo.mono hg3
    have k35 := k4.trans k5
    have R5 := R3.keep k35
    have HF5 := hF5.mono k4.size
    have X5 := hW3.keep k35
    clear hF5 hF2 hL2
    go_wp2_with fail
    refine (eqR_same _ _ _ _ (adL y0 (s, d, t, v)) _ HF5.rs R5 (by omega)).mono ?_
    rintro e w6 ⟨rfl, k6⟩
    have c6 := c5.trans k6
    go_wp2_with fail
    refine (toR_any _ _ y0 _ ((hL0k.out _ c6)) h0).mono ?_
    rintro e w7 ⟨g7, hg7, rfl, hW7, k7, hl7⟩
    have X7 := (X5.keep k6).keep k7
    go_wp2_with fail
    refine (eqR_same _ _ _ _ y0 _ X7.rs hW7.rs h0).mono ?_
    rintro e w8 ⟨rfl, k8⟩
    have c8 := (c6.trans k7).trans k8
    have R8 := ((R5.keep k6).keep k7).keep k8
    have F8 := ((HF5.keep k6).keep k7).keep k8
    have X8 := X7.keep k8
    have s38 := ((k35.trans k6).trans k7).trans k8 |>.size
    have s2 := k2.size
    go_wp2_with fail
    refine (markR g3 _ y0 _ X8 h0).mono ?_
    rintro e w9 ⟨rfl, ho9, _⟩
    have c9 : Keep W0 w9 := Keep.trans' c8 ho9 (by omega)
    have R9 := R8.onlyLo lo3 ho9
    have F9 : FrR w3 w9 p5 (adL y0 (s, d, t, v)) := F8.only ho9 hl3
    have dk : decide (1 + 4 * (y0.length : Int) < 0) = false := by simp; omega
    go_wp2_with fail
    refine (eqR_same _ _ _ _ (adL y0 (s, d, t, v)) _ F9.rs R9 (by omega)).mono ?_
    rintro e w10 ⟨rfl, k10⟩
    have c10 := c9.trans k10
    have F10 := F9.keep k10
    have R10 := R9.keep k10
    go_wp2_with fail
    refine (markFR _ _ _ w3 _ F10 (by omega)).mono ?_
    rintro e w11 ⟨rfl, hb11, ys, hy, hYs, hMk⟩
    have s39 : w3.heap.size ≤ w10.heap.size := Nat.le_trans (Nat.le_trans s38 ho9.size) k10.size
    have b11 : Below w3.heap.size w10 w11 := hb11 s39
    have s03 : W0.heap.size ≤ w3.heap.size := Nat.le_trans s2 k3.size
    have c11 : Keep W0 w11 := Below.trans c10 (b11.mono s03)
    have R11 := R10.below (lo3.mono (show g3 ≤ w3.heap.size from Nat.le_of_lt hl3)) b11
    have dm : decide (1 + 4 * ((adL y0 (s, d, t, v)).length : Int) < 0) = false := by simp; omega
    have HH := Lib.hid (heldR p5 q5 ys w11 hYs hMk (by rw [hy]; omega))
    rw [hy] at HH
    have e0 := c11.cell (C0.out)
    have e1 := c11.cell (C1.out)
    have e2 := c11.cell (C2.out)
    have e3 := c11.cell (C3.out)
    have hL11 := hL0k.out _ c11
    clear x0 x1 x2 x3 m0 m1 m2 m3
    go_wp2_with fail
    refine HH.out.mono ?_
    rintro e w' ⟨rfl, rfl⟩
    go_upto_region 24 with fail
    replace hy := Lib.hid hy
    clear HH
    go_cut [14, 15] (fun s14 s15 wx => ∃ (p : Option Addr) (c : Nat), s14 = .slice p (adL y0 (s, d, t, v)).length c ∧ s15 = .bool (adB y0 (s, d, t, v)) ∧ FrR w11 wx p (adL y0 (s, d, t, v)) ∧ Keep w11 wx)
    case first =>
      have kd : Keep w11 w11.drew := (Keep.refl w11).drew
      have n0 := kd.cell e0
      have n1 := kd.cell e1
      have n2 := kd.cell e2
      have n3 := kd.cell e3
      go_region_with (first
        | (go_at_call 37; (with_reducible refine (toR_any _ _ y0 _ (hL11.keep kd) h0).mono ?_); rintro e wA ⟨gA, hgA, rfl, hWA, hkA, hlA⟩; have kA := kd.trans hkA; have q0 := kA.cell e0; have q1 := kA.cell e1; have q2 := kA.cell e2; have q3 := kA.cell e3)
        | (go_at_call 37; (with_reducible refine (toR_any _ _ y0 _ (hL11.keep kB) h0).mono ?_); rintro e wA ⟨gA, hgA, rfl, hWA, hkA, hlA⟩; have kA := kB.trans hkA; have q0 := kA.cell e0; have q1 := kA.cell e1; have q2 := kA.cell e2; have q3 := kA.cell e3; have hWB := hWA; have kC := kA)
        | (go_at_call 39; (with_reducible refine (toRep s d t v wA).mono ?_); rintro e wB ⟨rfl, hkB⟩; have kB : Keep w11 wB := kA.trans hkB; have hWB := hWA.keep hkB; have kC := kB)
        | (go_at_call 39; (with_reducible refine (toRep s d t v _).mono ?_); rintro e wB ⟨rfl, hkB⟩; have kB : Keep w11 wB := kd.trans hkB; have q0 := kB.cell e0; have q1 := kB.cell e1; have q2 := kB.cell e2; have q3 := kB.cell e3)
        | (go_at_call 18; refine (sad_impl gA 0 _ y0 s d t v _ hWB.rs (by omega) (by omega)).mono ?_; rintro e wC ⟨p, c, rfl, hF, kF⟩; have hs0 := kC.size; have hFF := hF.mono hs0; have kE := kC.trans kF))
      all_goals
        go_wp2_with fail
        go_meet
        exact ⟨_, _, rfl, rfl, hFF, kE⟩
    case rest =>
      obtain ⟨p14, q14, rfl, rfl, hF14, k12⟩ := hcut
      have R12 := R11.keep k12
      have Y12 := hYs.keep k12
      have c12 := c11.trans k12
      go_wp2_with fail
      refine (eqR_same _ _ _ _ (adL y0 (s, d, t, v)) _ hF14.rs R12 (by omega)).mono ?_
      rintro e w13 ⟨rfl, k13⟩
      have c13 := c12.trans k13
      have HH2 := Lib.hid (heldR p5 q5 ys w13 (Y12.keep k13) hMk (by rw [hy.out]; omega))
      rw [hy.out] at HH2
      go_wp2_with fail
      refine HH2.out.mono ?_
      rintro e w' ⟨rfl, rfl⟩
      go_wp2
      go_ret
      exact ⟨rfl, k0.trans c13⟩

end Go.Proofs.Ytkapnbfjpglblab
