/- Gaps: the program's ranges from the last day on, and FillOf. -/
import Derived.Test.YtkiibklenpncpaaGb
namespace Go.Proofs.Ytkiibklenpncpaa
open Go.RowKit
set_option linter.unusedVariables false

/-- What lies in memory: the stack, the answer, the range near by. -/
structure Gsl (w : World) (v : Value) (x0 x1 : Int) (R : List R2) (wr : World) : Prop where
  cP : wr.cell? ⟨w.heap.size, 0, none⟩ = some v
  fP : wr.frozen? ⟨w.heap.size, 0, none⟩ = false
  n0 : wr.cell? ⟨w.heap.size + 3, 0, none⟩ = some (.int .i64 x0)
  n1 : wr.cell? ⟨w.heap.size + 3, 1, none⟩ = some (.int .i64 x1)
  g0 : wr.frozen? ⟨w.heap.size + 3, 0, none⟩ = false
  g1 : wr.frozen? ⟨w.heap.size + 3, 1, none⟩ = false
  rw_ : WrU wr (w.heap.size + 2) R
  bs : w.heap.size + 4 ≤ wr.heap.size
  kp : Keep w wr
theorem WrU.only {B g : Nat} {w w' : World} {ys : List R2} (h : WrU w g ys) (ho : Only B w w') (hne : g ≠ B) : WrU w' g ys := fun j hj => by
  obtain ⟨h1, h2⟩ := h j hj
  have hb := World.block_lt_of_cell? w _ h1.s
  exact ⟨⟨(ho.cell g _ hb hne).trans h1.s, (ho.cell g _ hb hne).trans h1.d⟩, ⟨(ho.frozen g _ hb hne).trans h2.f0, (ho.frozen g _ hb hne).trans h2.f1⟩⟩
theorem Gsl.only {w wr w' : World} {x0 x1 : Int} {v v' : Value} {R : List R2} (h : Gsl w v x0 x1 R wr) (ho : Only w.heap.size wr w') (hc : w'.cell? ⟨w.heap.size, 0, none⟩ = some v') (hf : w'.frozen? ⟨w.heap.size, 0, none⟩ = false) : Gsl w v' x0 x1 R w' := by
  have hb := h.bs
  exact ⟨hc, hf, (ho.cell _ _ (by omega) (by omega)).trans h.n0, (ho.cell _ _ (by omega) (by omega)).trans h.n1, (ho.frozen _ _ (by omega) (by omega)).trans h.g0, (ho.frozen _ _ (by omega) (by omega)).trans h.g1, h.rw_.only ho (by omega), Nat.le_trans hb ho.size, h.kp.trans' ho (Nat.le_refl _)⟩
theorem Gsl.near {w wr : World} {x0 x1 : Int} {v : Value} {R : List R2} (h : Gsl w v x0 x1 R wr) (y0 y1 : Int) :
    Gsl w v y0 y1 R ((wr.setCell ⟨w.heap.size + 3, 0, none⟩ (.int .i64 y0)).setCell ⟨w.heap.size + 3, 1, none⟩ (.int .i64 y1)) := by
  have ho : Only (w.heap.size + 3) wr ((wr.setCell ⟨w.heap.size + 3, 0, none⟩ (.int .i64 y0)).setCell ⟨w.heap.size + 3, 1, none⟩ (.int .i64 y1)) := ((Only.refl _ wr).put1 0 _).put1 1 _
  have hs := h.bs
  have fr : ∀ a, ((wr.setCell ⟨w.heap.size + 3, 0, none⟩ (.int .i64 y0)).setCell ⟨w.heap.size + 3, 1, none⟩ (.int .i64 y1)).frozen? a = wr.frozen? a := fun a => by rw [World.frozen?_setCell, World.frozen?_setCell]
  refine ⟨(ho.cell _ _ (by omega) (by omega)).trans h.cP, (fr _).trans h.fP, ?_, ?_, (fr _).trans h.g0, (fr _).trans h.g1, h.rw_.only ho (by omega), Nat.le_trans h.bs ho.size, h.kp.trans' ho (by omega)⟩
  · rw [World.cell?_setCell_other _ _ _ _ (by simp)]
    exact World.cell?_setCell_same _ _ _ h.n0
  · exact World.cell?_setCell_same _ _ _ ((World.cell?_setCell_other _ _ _ _ (by simp)).trans h.n1)
theorem Gsl.put {w wr : World} {x0 x1 : Int} {v : Value} {R : List R2} (h : Gsl w v x0 x1 R wr) {j : Nat} (hj : j < R.length) (r : R2) : Gsl w v x0 x1 (R.set j r) (put2 wr (w.heap.size + 2) (j * 2) r) := by
  have ho : Only (w.heap.size + 2) wr (put2 wr (w.heap.size + 2) (j * 2) r) := ((Only.refl _ wr).put1 _ _).put1 _ _
  have hs := h.bs
  exact ⟨(ho.cell _ _ (by omega) (by omega)).trans h.cP, (ho.frozen _ _ (by omega) (by omega)).trans h.fP, (ho.cell _ _ (by omega) (by omega)).trans h.n0, (ho.cell _ _ (by omega) (by omega)).trans h.n1, (ho.frozen _ _ (by omega) (by omega)).trans h.g0, (ho.frozen _ _ (by omega) (by omega)).trans h.g1, h.rw_.set hj r, Nat.le_trans hs ho.size, h.kp.trans' ho (by omega)⟩
/-- The range near by, behind day k. -/
def Nb (zs : List Int) (lo hi st : Int) (k : Nat) (x0 x1 : Int) : Prop := (k = zs.length ∧ x0 = lo ∧ x1 = hi) ∨ (k < zs.length ∧ x0 = gL zs lo st k ∧ x1 = gH zs hi st k)
theorem Nb.step {zs : List Int} {lo hi st x0 x1 : Int} {j : Nat} (h : Nb zs lo hi st (j + 1) x0 x1) (h0 : 0 ≤ st) : gL zs lo st j = max (fwL zs lo st j) (x0 - st) ∧ gH zs hi st j = min (fwH zs hi st j) (x1 + st) := by
  have hb := fw_in zs lo hi st j
  rcases h with ⟨h1, rfl, rfl⟩ | ⟨h1, rfl, rfl⟩
  · rw [gL_last h1, gH_last h1]; omega
  · exact ⟨gL_prev h0 h1, gH_prev h0 h1⟩
theorem Nb.bd {zs : List Int} {lo hi st x0 x1 : Int} {j : Nat} (h : Nb zs lo hi st j x0 x1) (hlh : lo ≤ hi) (hA : ∀ i, i < zs.length → gL zs lo st i ≤ gH zs hi st i) : lo ≤ x0 ∧ x0 ≤ x1 ∧ x1 ≤ hi := by
  rcases h with ⟨h1, rfl, rfl⟩ | ⟨h1, rfl, rfl⟩
  · omega
  · have h2 := hA j h1
    have h3 : lo ≤ gL zs lo st j := gLo_ge _ _ _ _ _
    have h4 : gH zs hi st j ≤ hi := gHi_le _ _ _ _ _
    omega
theorem fwl_take (zs : List Int) (lo hi st : Int) {k n : Nat} (h : k ≤ n) : (fwl zs lo hi st n).take k = fwl zs lo hi st k := by
  rw [fwl, fwl, ← List.map_take, List.take_range, Nat.min_eq_left h]
set_option maxRecDepth 100000 in
set_option maxHeartbeats 4000000 in
theorem fl_any (g cap : Nat) (zs : List Int) (lo hi st : Int) (w : World) (hR : Rr w (some ⟨g, 0, none⟩) (fwl zs lo hi st zs.length)) (hcap : zs.length ≤ cap) (hg : gaB zs lo hi st = true) (hA : ∀ j, j < zs.length → fitB zs lo hi st j) :
    Calls Try.prog 83 #[.slice (some ⟨g, 0, none⟩) zs.length cap, .agg #[.int .i64 lo, .int .i64 hi], .int .i64 st] w fun e w' => e = .returned (.slice (some ⟨w.heap.size + 2, 0, none⟩) zs.length zs.length) ∧ WrU w' (w.heap.size + 2) (gRl zs lo hi st) ∧ Keep w w' ∧ w.heap.size + 2 < w'.heap.size := by
  obtain ⟨hsq, ⟨hlo, hhi⟩, hlh, hst0, hst1⟩ := gaB_facts hg
  obtain ⟨hl1, hl12⟩ := (sq_facts hsq).2
  have HG := Lib.hid (fun i (hi' : i < zs.length) => g_all (lo := lo) (hi := hi) hst0 hlh hA hi')
  have HW := Lib.hid (fun i (hi' : i < zs.length) => And.intro (fw_ok (lo := lo) (hi := hi) hst0 hlh i (fun j hj => hA j (by omega))) (fw_in zs lo hi st i))
  have hmk := fun W => run_make_ranges zs.length (by omega) W
  clear hg hsq hA
  go_enter Try.func83, Try.ntmps83
  go_wp2_with fail
  go_loopw [9] (fun q wr => ∃ (k : Nat) (x0 x1 : Int) (R : List R2), k ≤ zs.length ∧ q = .int .i64 ((k : Int) - 1) ∧ Hid (Gsl w (.slice (some ⟨g, 0, none⟩) k cap) x0 x1 R wr) ∧ Hid (Nb zs lo hi st k x0 x1) ∧ Hid (R.length = zs.length ∧ ∀ j, k ≤ j → j < zs.length → R.getD j u0 = (gL zs lo st j, gH zs hi st j))) (fun q _ => (intOf q + 1).toNat)
  case atStart =>
    refine ⟨zs.length, lo, hi, List.replicate zs.length u0, Nat.le_refl _, rfl, Lib.hid ⟨by go_simp, by go_simp, by go_simp, by go_simp, by go_simp, by go_simp, ?_, by simp, ?_⟩, Lib.hid (.inl ⟨rfl, rfl, rfl⟩), Lib.hid ⟨by simp, fun j h1 h2 => absurd h1 (by omega)⟩⟩
    · intro j hj
      have hj' : j < zs.length := by simpa using hj
      have e : (List.replicate zs.length u0).getD j u0 = u0 := by simp [List.getD_eq_getElem?_getD, hj']
      rw [e]
      exact ⟨⟨by go_simp; exact made2_at _ _ (by omega), by go_simp; exact made2_at _ _ (by omega)⟩, ⟨by go_simp, by go_simp⟩⟩
    · exact ((((Keep.refl w).alloc _).alloc _).alloc _).alloc _
  case round =>
    obtain ⟨k, x0, x1, R, hk, rfl, HS, HN, HR⟩ := hrel
    clear hmk
    have hbd := HN.out.bd hlh HG.out
    by_cases h0 : k = 0
    case' pos =>
      subst h0
      have HF : Hid (WrU wr (w.heap.size + 2) (gRl zs lo hi st) ∧ Keep w wr ∧ w.heap.size + 2 < wr.heap.size) := Lib.hid (by
        have e : R = gRl zs lo hi st := by
          refine List.ext_getElem (by rw [HR.out.1, gRl_len]) fun i h1 h2 => ?_
          have h3 := HR.out.2 i (Nat.zero_le _) (by rw [HR.out.1] at h1; exact h1)
          have h4 := gRl_at (lo := lo) (hi := hi) (st := st) (show i < zs.length by rw [HR.out.1] at h1; exact h1)
          rw [← h4] at h3
          simpa [List.getD_eq_getElem?_getD, h1, h2] using h3
        have hb := HS.out.bs
        exact ⟨e ▸ HS.out.rw_, HS.out.kp, by omega⟩)
      go_wp2
      go_ret
      exact ⟨rfl, HF.out⟩
    obtain ⟨j, rfl⟩ : ∃ j, k = j + 1 := ⟨k - 1, by omega⟩
    have hstep := HN.out.step hst0
    have hjn : j < zs.length := by omega
    obtain ⟨hw1, hw2, hw3⟩ := HW.out j hjn
    have hgj := HG.out j hjn
    have hfa := fwl_at (zs := zs) (lo := lo) (hi := hi) (st := st) (show j < j + 1 by omega)
    obtain ⟨y0, hy0⟩ : ∃ y0, gL zs lo st j = y0 := ⟨_, rfl⟩
    obtain ⟨y1, hy1⟩ : ∃ y1, gH zs hi st j = y1 := ⟨_, rfl⟩
    have HY := Lib.hid (And.intro hy0 hy1)
    rw [hy0, hy1] at hstep hgj
    obtain ⟨f0, hf0⟩ : ∃ f0, fwL zs lo st j = f0 := ⟨_, rfl⟩
    obtain ⟨f1, hf1⟩ : ∃ f1, fwH zs hi st j = f1 := ⟨_, rfl⟩
    rw [hf0, hf1] at hstep hfa
    rw [hf0] at hw1 hw2
    rw [hf1] at hw1 hw3
    obtain ⟨e0, e1⟩ := hstep
    obtain ⟨cP, fP, n0, n1, g0, g1, -, hbs, hK⟩ := HS.out
    have HWd := Lib.hid (fun W => wid_any x0 x1 st W ⟨by omega, by omega⟩ ⟨by omega, by omega⟩ hst0 hst1)
    have HMt := Lib.hid (fun W => meet_yes f0 f1 (x0 - st) (x1 + st) W ⟨by omega, by omega⟩ ⟨by omega, by omega⟩ hw1 (by omega) ⟨by omega, by omega⟩)
    rw [← e0, ← e1] at HMt
    have HPp := Lib.hid (fun W (kk : Keep wr W) => pop_any w.heap.size g j cap (fwl zs lo hi st (j + 1)) W (kk.cell cP) (kk.still cP fP) (by have h9 := ((hR.keep hK).keep kk).take (j + 1); rwa [fwl_take zs lo hi st (show j + 1 ≤ zs.length by omega)] at h9) (fwl_len _ _ _ _ _) (by omega) (by omega))
    rw [hfa] at HPp
    have HNr := Lib.hid (fun W (ho : Only w.heap.size wr W) => And.intro ((ho.cell _ _ (by omega) (by omega)).trans n0) (And.intro ((ho.cell _ _ (by omega) (by omega)).trans n1) (And.intro ((ho.frozen _ _ (by omega) (by omega)).trans g0) ((ho.frozen _ _ (by omega) (by omega)).trans g1))))
    have HRl := Lib.hid HR.out.1
    clear hfa hbd hgj e0 e1 hy0 hy1 hf0 hf1
    go_wp2_with fail
    go_region_with (first
      | (go_at_call 118; refine (HPp.out _ ((Keep.refl wr).drewN 1)).mono ?_; rintro e wB ⟨rfl, cB1, fB1, oB⟩; have hB1 : Only w.heap.size wr wB := ((Only.refl _ wr).drewN 1).trans oB; obtain ⟨p0, p1, p2, p3⟩ := HNr.out _ hB1)
      | (go_at_call 118; refine (HPp.out _ kA1).mono ?_; rintro e wB ⟨rfl, cB2, fB2, oB⟩; have hB2 : Only w.heap.size wr wB := hA1.trans oB; obtain ⟨r0, r1, r2, r3⟩ := HNr.out _ hB2)
      | (go_at_call 116; refine (HWd.out _).mono ?_; rintro e wA ⟨rfl, kA2⟩; have hA2 : Only w.heap.size wr wA := hB1.trans kA2.only; have cA2 := kA2.cell cB1; have fA2 := kA2.still cB1 fB1; obtain ⟨r0, r1, r2, r3⟩ := HNr.out _ hA2)
      | (go_at_call 116; refine (HWd.out _).mono ?_; rintro e wA ⟨rfl, kA⟩; have kA1 : Keep wr wA := ((Keep.refl wr).drewN 1).trans kA; have hA1 : Only w.heap.size wr wA := kA1.only; obtain ⟨p0, p1, p2, p3⟩ := HNr.out _ hA1)
      | (go_at_call 115; refine (HMt.out _).mono ?_; rintro e wC ⟨rfl, kC⟩; have hC : Only w.heap.size wr wC := hA2.trans kC.only; have cC := kC.cell cA2; have fC := kC.still cA2 fA2; obtain ⟨t0, t1, t2, t3⟩ := HNr.out _ hC)
      | (go_at_call 115; refine (HMt.out _).mono ?_; rintro e wC ⟨rfl, kC⟩; have hC : Only w.heap.size wr wC := hB2.trans kC.only; have cC := kC.cell cB2; have fC := kC.still cB2 fB2; obtain ⟨t0, t1, t2, t3⟩ := HNr.out _ hC))
    all_goals
      refine @abs_world (fun wq => Exit.then _ _ Exit.normal _ wq) _ (fun wq => Gsl w (.slice (some ⟨g, 0, none⟩) j cap) y0 y1 R wq) ((HS.out.only hC cC fC).near y0 y1) ?_
      intro wq hS2
      have HS2 := Lib.hid hS2
      have HFin : Hid (Nb zs lo hi st j y0 y1 ∧ ((R.set j (y0, y1)).length = zs.length ∧ ∀ i, j ≤ i → i < zs.length → (R.set j (y0, y1)).getD i u0 = (gL zs lo st i, gH zs hi st i)) ∧ Gsl w (.slice (some ⟨g, 0, none⟩) j cap) y0 y1 (R.set j (y0, y1)) (put2 wq (w.heap.size + 2) (j * 2) (y0, y1))) := Lib.hid (by
        refine ⟨.inr ⟨hjn, HY.out.1.symm, HY.out.2.symm⟩, ⟨by rw [List.length_set]; exact HRl.out, fun i h1 h2 => ?_⟩, HS2.out.put (by rw [HRl.out]; exact hjn) _⟩
        by_cases e : i = j
        · subst e
          rw [HY.out.1, HY.out.2]
          simp [List.getD_eq_getElem?_getD, show i < R.length by rw [HRl.out]; exact h2]
        · have e2 : j ≠ i := fun h => e h.symm
          rw [← HR.out.2 i (by omega) h2]
          simp [List.getD_eq_getElem?_getD, e2])
      obtain ⟨⟨q0, q1⟩, ⟨q2, q3⟩⟩ := hS2.rw_ j (by rw [HRl.out]; exact hjn)
      obtain ⟨-, -, m0, m1, -, -, -, hbs2, hK2⟩ := hS2
      generalize uL (R.getD j u0) = z0 at q0
      generalize uH (R.getD j u0) = z1 at q1
      clear cP fP n0 n1 g0 g1 HS HWd HMt HPp HNr hC cC fC t0 t1 t2 t3 r0 r1 r2 r3 p0 p1 p2 p3 hK hbs HR HN
      go_wp2
      go_roundw
      case rel => exact ⟨j, y0, y1, _, by omega, by go_num, Lib.hid HFin.out.2.2, Lib.hid HFin.out.1, Lib.hid HFin.out.2.1⟩
      case measure => first | (simp [intOf]; done) | (simp [intOf]; omega)
set_option maxRecDepth 100000 in
set_option maxHeartbeats 4000000 in
theorem fi_impl (a : Option Addr) (cap : Nat) (zs : List Int) (lo hi st : Int) (w : World) (h : Ls w a zs) (hm : zs.length ≤ 4611686018427387904) :
    Calls Try.prog 41 #[.slice a zs.length cap, .int .i64 lo, .int .i64 hi, .int .i64 st] w (GpPost zs lo hi st w) := by
  have HG := Lib.hid (ga_impl a cap zs lo hi st w h hm)
  obtain ⟨g, hg⟩ : ∃ g, gaB zs lo hi st = g := ⟨_, rfl⟩
  have HG2 := Lib.hid hg
  rw [hg] at HG
  cases g
  · have HF := Lib.hid (gOk_1 hg)
    clear hg
    go_enter Try.func41, Try.ntmps41
    go_wp2_with (go_at_call 81; refine HG.out.mono ?_; rintro e w' ⟨rfl, rfl⟩)
    go_ret2
    exact gp_no HF.out _ _ (Keep.refl _)
  obtain ⟨hsq, ⟨hlo, hhi⟩, hlh, hst0, hst1⟩ := gaB_facts hg
  obtain ⟨hl1, hl12⟩ := (sq_facts hsq).2
  have HB := Lib.hid (fun W (k : Keep w W) => bf_any a cap zs lo hi st W (h.keep k) hg)
  have HL := Lib.hid (fun (g c : Nat) W (hR : Rr W (some ⟨g, 0, none⟩) (fwl zs lo hi st zs.length)) (hc : zs.length ≤ c) (hA : ∀ j, j < zs.length → fitB zs lo hi st j) => fl_any g c zs lo hi st W hR hc hg hA)
  clear hg hsq
  go_enter Try.func41, Try.ntmps41
  go_wp2_with (go_at_call 81; refine HG.out.mono ?_; rintro e w' ⟨rfl, rfl⟩)
  refine (HB.out _ ((Keep.refl _).alloc _)).mono ?_
  rintro e w1 (⟨⟨i, hi', hlt⟩, rfl, k1⟩ | ⟨hA, g, c, rfl, hc, hR, hgw, k1⟩)
  · have HF := Lib.hid (gOk_2 hi' hlt)
    have kk : Keep w w1 := ((Keep.refl w).alloc _).trans k1
    go_wp2
    go_ret2
    exact gp_no HF.out _ _ kk
  · have HA := Lib.hid hA
    have HR := Lib.hid hR
    have kk : Keep w w1 := ((Keep.refl w).alloc _).trans k1
    have l0 : w1.cell? ⟨w.heap.size, 0, none⟩ = some (.int .i64 lo) := k1.cell (by go_simp)
    have l1 : w1.cell? ⟨w.heap.size, 1, none⟩ = some (.int .i64 hi) := k1.cell (by go_simp)
    have hs1 := kk.size
    clear hA hR
    go_wp2_with fail
    refine (HL.out g c _ HR.out hc HA.out).mono ?_
    rintro e w2 ⟨rfl, hW, k2, hl2⟩
    have HF : Hid (GpPost zs lo hi st w (.returned (.tuple #[.slice (some ⟨w1.heap.size + 2, 0, none⟩) zs.length zs.length, .bool true])) w2) := Lib.hid (by
      have hok : gOk zs lo hi st = true := gOk_3 HG2.out (fun i hi' => g_all hst0 hlh HA.out hi')
      have e := gRL_yes hok
      refine ⟨_, _, by rw [e, hok, gRl_len], by rw [e, gRl_len]; exact Nat.le_refl _, ?_, kk.trans k2⟩
      rw [e]
      exact .inr ⟨_, rfl, by omega, hl2, hW⟩)
    clear hW
    go_wp2
    go_ret2
    exact HF.out
end Go.Proofs.Ytkiibklenpncpaa
