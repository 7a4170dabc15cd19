/- Gaps: the program's bounds from the first day on. -/
import Derived.Test.YtkiibklenpncpaaGi
import Derived.Deep.RegionWith
namespace Go.Proofs.Ytkiibklenpncpaa
open Go.RowKit
set_option linter.unusedVariables false

def fwl (zs : List Int) (lo hi st : Int) (k : Nat) : List R2 := (List.range k).map fun i => (fwL zs lo st i, fwH zs hi st i)
theorem fwl_len (zs : List Int) (lo hi st : Int) (k : Nat) : (fwl zs lo hi st k).length = k := by simp [fwl]
theorem fwl_succ (zs : List Int) (lo hi st : Int) (k : Nat) : fwl zs lo hi st (k + 1) = fwl zs lo hi st k ++ [(fwL zs lo st k, fwH zs hi st k)] := by simp [fwl, List.range_succ]
theorem fwl_at {zs : List Int} {lo hi st : Int} {i k : Nat} (h : i < k) : (fwl zs lo hi st k).getD i u0 = (fwL zs lo st i, fwH zs hi st i) := by
  simp [fwl, List.getD_eq_getElem?_getD, h]
/-- What lies in memory: the limits, the stack, the range near by. -/
structure Gst (w : World) (lo hi : Int) (v : Value) (x0 x1 : Int) (L : List R2) (wr : World) : Prop where
  l0 : wr.cell? ⟨w.heap.size, 0, none⟩ = some (.int .i64 lo)
  l1 : wr.cell? ⟨w.heap.size, 1, none⟩ = some (.int .i64 hi)
  cP : wr.cell? ⟨w.heap.size + 1, 0, none⟩ = some v
  fP : wr.frozen? ⟨w.heap.size + 1, 0, none⟩ = false
  n0 : wr.cell? ⟨w.heap.size + 2, 0, none⟩ = some (.int .i64 x0)
  n1 : wr.cell? ⟨w.heap.size + 2, 1, none⟩ = some (.int .i64 x1)
  g0 : wr.frozen? ⟨w.heap.size + 2, 0, none⟩ = false
  g1 : wr.frozen? ⟨w.heap.size + 2, 1, none⟩ = false
  own : OwnU wr (w.heap.size + 3) v L
  bs : w.heap.size + 3 ≤ wr.heap.size
  kp : Keep w wr
theorem Gst.keep {w wr w' : World} {lo hi x0 x1 : Int} {v : Value} {L : List R2} (h : Gst w lo hi v x0 x1 L wr) (k : Keep wr w') : Gst w lo hi v x0 x1 L w' :=
  ⟨k.cell h.l0, k.cell h.l1, k.cell h.cP, k.still h.cP h.fP, k.cell h.n0, k.cell h.n1, k.still h.n0 h.g0, k.still h.n1 h.g1, h.own.keep k, Nat.le_trans h.bs k.size, h.kp.trans k⟩
theorem Gst.near {w wr : World} {lo hi x0 x1 : Int} {v : Value} {L : List R2} (h : Gst w lo hi v x0 x1 L wr) (y0 y1 : Int) :
    Gst w lo hi v y0 y1 L ((wr.setCell ⟨w.heap.size + 2, 0, none⟩ (.int .i64 y0)).setCell ⟨w.heap.size + 2, 1, none⟩ (.int .i64 y1)) := by
  have ho : Only (w.heap.size + 2) wr ((wr.setCell ⟨w.heap.size + 2, 0, none⟩ (.int .i64 y0)).setCell ⟨w.heap.size + 2, 1, none⟩ (.int .i64 y1)) := ((Only.refl _ wr).put1 0 _).put1 1 _
  have hs := h.bs
  have fr : ∀ a, ((wr.setCell ⟨w.heap.size + 2, 0, none⟩ (.int .i64 y0)).setCell ⟨w.heap.size + 2, 1, none⟩ (.int .i64 y1)).frozen? a = wr.frozen? a := fun a => by rw [World.frozen?_setCell, World.frozen?_setCell]
  refine ⟨(ho.cell _ _ (by omega) (by omega)).trans h.l0, (ho.cell _ _ (by omega) (by omega)).trans h.l1, (ho.cell _ _ (by omega) (by omega)).trans h.cP, (fr _).trans h.fP, ?_, ?_, (fr _).trans h.g0, (fr _).trans h.g1, h.own.only ho (by omega), Nat.le_trans h.bs ho.size, h.kp.trans' ho (by omega)⟩
  · rw [World.cell?_setCell_other _ _ _ _ (by simp)]
    exact World.cell?_setCell_same _ _ _ h.n0
  · exact World.cell?_setCell_same _ _ _ ((World.cell?_setCell_other _ _ _ _ (by simp)).trans h.n1)
theorem Gst.ot {w wr w' : World} {lo hi x0 x1 : Int} {v v' : Value} {L L' : List R2} (h : Gst w lo hi v x0 x1 L wr) (ho : Ot (w.heap.size + 1) (w.heap.size + 3) wr w') (hc : w'.cell? ⟨w.heap.size + 1, 0, none⟩ = some v') (hf : w'.frozen? ⟨w.heap.size + 1, 0, none⟩ = false) (hO : OwnU w' (w.heap.size + 3) v' L') : Gst w lo hi v' x0 x1 L' w' :=
  ⟨ho.cell h.l0 (by omega) (by omega), ho.cell h.l1 (by omega) (by omega), hc, hf, ho.cell h.n0 (by omega) (by omega), ho.cell h.n1 (by omega) (by omega), ho.still h.n0 h.g0 (by omega) (by omega), ho.still h.n1 h.g1 (by omega) (by omega), hO, Nat.le_trans h.bs ho.size, ho.keep h.kp (by omega) (by omega)⟩
/-- The range near by, in front of day k. -/
def Nx (zs : List Int) (lo hi st : Int) (k : Nat) (x0 x1 : Int) : Prop := (k = 0 ∧ x0 = lo ∧ x1 = hi) ∨ ∃ j, k = j + 1 ∧ x0 = fwL zs lo st j ∧ x1 = fwH zs hi st j
theorem Nx.nr {zs : List Int} {lo hi st x0 x1 : Int} {k : Nat} (h : Nx zs lo hi st k x0 x1) (h0 : 0 ≤ st) : nrL zs lo st k = max lo (x0 - st) ∧ nrH zs hi st k = min hi (x1 + st) := by
  rcases h with ⟨rfl, rfl, rfl⟩ | ⟨j, rfl, rfl, rfl⟩
  · rw [nrL_zero, nrH_zero]; omega
  · exact ⟨nrL_succ zs lo st h0 j, nrH_succ zs hi st h0 j⟩
theorem Nx.bd {zs : List Int} {lo hi st x0 x1 : Int} {k : Nat} (h : Nx zs lo hi st k x0 x1) (h0 : 0 ≤ st) (hlh : lo ≤ hi) (hA : ∀ j, j < k → fitB zs lo hi st j) : lo ≤ x0 ∧ x0 ≤ x1 ∧ x1 ≤ hi := by
  rcases h with ⟨rfl, rfl, rfl⟩ | ⟨j, rfl, rfl, rfl⟩
  · omega
  · have h1 := fw_in zs lo hi st j
    have h2 := fw_ok h0 hlh j (fun i hi' => hA i (by omega))
    omega
/-- What the bounds answer. -/
def BfPost (zs : List Int) (lo hi st : Int) (w : World) (e : Ending) (w' : World) : Prop :=
  ((∃ i, i < zs.length ∧ gH zs hi st i < gL zs lo st i) ∧ e = .returned (.tuple #[.slice none 0 0, .bool false]) ∧ Keep w w') ∨
  ((∀ j, j < zs.length → fitB zs lo hi st j) ∧ ∃ (g c : Nat), e = .returned (.tuple #[.slice (some ⟨g, 0, none⟩) zs.length c, .bool true]) ∧ zs.length ≤ c ∧ Rr w' (some ⟨g, 0, none⟩) (fwl zs lo hi st zs.length) ∧ w.heap.size ≤ g ∧ Keep w w')
set_option maxRecDepth 100000 in
set_option maxHeartbeats 4000000 in
theorem bf_any (a : Option Addr) (cap : Nat) (zs : List Int) (lo hi st : Int) (w : World) (h : Ls w a zs) (hg : gaB zs lo hi st = true) :
    Calls Try.prog 82 #[.slice a zs.length cap, .agg #[.int .i64 lo, .int .i64 hi], .int .i64 st] w (BfPost zs lo hi st w) := by
  obtain ⟨hsq, ⟨hlo, hhi⟩, hlh, hst0, hst1⟩ := gaB_facts hg
  obtain ⟨hl1, hl12⟩ := (sq_facts hsq).2
  clear hg hsq
  go_enter Try.func82, Try.ntmps82
  go_wp2_with fail
  go_loopw [15] (fun i wr => ∃ (k : Nat) (v : Value) (x0 x1 : Int), k ≤ zs.length ∧ i = .int .i64 k ∧ Hid (Gst w lo hi v x0 x1 (fwl zs lo hi st k) wr) ∧ Hid (Nx zs lo hi st k x0 x1) ∧ Hid (∀ j, j < k → fitB zs lo hi st j)) (fun i _ => zs.length - (intOf i).toNat)
  case atStart =>
    refine ⟨0, .slice none 0 0, lo, hi, by omega, rfl, Lib.hid ⟨by go_simp, by go_simp, by go_simp, by go_simp, by go_simp, by go_simp, by go_simp, by go_simp, World.ownsRow_nil _ _ _ _, by simp, ?_⟩, Lib.hid (.inl ⟨rfl, rfl, rfl⟩), Lib.hid (fun j hj => absurd hj (by omega))⟩
    exact (((Keep.refl w).alloc _).alloc _).alloc _
  case round =>
    obtain ⟨k, v, x0, x1, hk, rfl, HG, HX, HA⟩ := hrel
    have hnr := HX.out.nr hst0
    have hbd := HX.out.bd hst0 hlh HA.out
    obtain ⟨l0, l1, cP, fP, n0, n1, g0, g1, -, hbs, hK⟩ := HG.out
    by_cases hlt : k < zs.length
    case' neg =>
      obtain rfl : k = zs.length := by omega
      have hO := HG.out.own
      obtain ⟨g, c, rfl, hc, hb, hl, hW⟩ := hO.form (by rw [fwl_len]; omega)
      rw [fwl_len] at hc cP
      have HF : Hid (BfPost zs lo hi st w (.returned (.tuple #[.slice (some ⟨g, 0, none⟩) zs.length c, .bool true])) wr) := Lib.hid (.inr ⟨HA.out, g, c, rfl, hc, hW.rr, by omega, hK⟩)
      clear hO hW HG
      go_wp2
      go_ret2
      exact HF.out
    obtain ⟨bz, oz, rfl, hbz, cz⟩ := (h.keep hK).at_ hlt
    obtain ⟨z, hz⟩ : ∃ z, zs.getD k 0 = z := ⟨_, rfl⟩
    have HZ := Lib.hid hz
    rw [hz] at cz
    clear hz
    obtain ⟨y0, hy0⟩ : ∃ y0, nrL zs lo st k = y0 := ⟨_, rfl⟩
    obtain ⟨y1, hy1⟩ : ∃ y1, nrH zs hi st k = y1 := ⟨_, rfl⟩
    have HY := Lib.hid (And.intro hy0 hy1)
    rw [hy0, hy1] at hnr
    obtain ⟨e0, e1⟩ := hnr
    have HWd := Lib.hid (fun W => wid_any x0 x1 st W ⟨by omega, by omega⟩ ⟨by omega, by omega⟩ hst0 hst1)
    have HMt := Lib.hid (fun W => meet_yes lo hi (x0 - st) (x1 + st) W ⟨by omega, by omega⟩ ⟨by omega, by omega⟩ hlh (by omega) ⟨by omega, by omega⟩)
    rw [← e0, ← e1] at HMt
    clear hy0 hy1 e0 e1
    go_wp2_with fail
    go_region_with (first
      | (go_at_call 116; refine (HWd.out _).mono ?_; rintro e w1 ⟨rfl, k1⟩; have hk1 : Keep wr w1 := ((Keep.refl wr).drewN 1).trans k1; have a0 := hk1.cell l0; have a1 := hk1.cell l1; have b0 := hk1.cell n0; have b1 := hk1.cell n1; have f0 := hk1.still n0 g0; have f1 := hk1.still n1 g1)
      | (go_at_call 115; refine (HMt.out _).mono ?_; rintro e w2 ⟨rfl, k2⟩; have hk2 : Keep wr w2 := hk1.trans k2; have d0 := k2.cell b0; have d1 := k2.cell b1; have h0 := k2.still b0 f0; have h1 := k2.still b1 f1))
    all_goals
      refine @abs_world (fun wq => Exit.then _ _ Exit.normal _ wq) _ (fun wq => Gst w lo hi v y0 y1 (fwl zs lo hi st k) wq) ((HG.out.keep hk2).near y0 y1) ?_
      intro wq hG2
      have HG2 := Lib.hid hG2
      clear l0 l1 cP fP n0 n1 g0 g1 hG2 HG HWd HMt k1 k2 hk1 hk2 a0 a1 b0 b1 f0 f1 d0 d1 h0 h1 w1 w2 cz h hK hbs
      obtain ⟨l0, l1, cP, fP, n0, n1, g0, g1, hO, hbs, hK⟩ := HG2.out
      have HO := Lib.hid hO
      clear hO
      have hL20 : (fwl zs lo hi st k).length ≤ 20 := by rw [fwl_len]; omega
      have HLn := Lib.hid (fwl_len zs lo hi st k)
      by_cases hzn : z = -9999
      · have hzz : zs.getD k 0 = -9999 := by rw [HZ.out]; exact hzn
        have e0 := fwL_none (lo := lo) (st := st) hzz
        have e1 := fwH_none (hi := hi) (st := st) hzz
        rw [HY.out.1] at e0
        rw [HY.out.2] at e1
        have HS : Hid (fwl zs lo hi st (k + 1) = fwl zs lo hi st k ++ [(y0, y1)]) := Lib.hid (by rw [fwl_succ, e0, e1])
        have HX3 : Hid (Nx zs lo hi st (k + 1) y0 y1) := Lib.hid (.inr ⟨k, rfl, e0.symm, e1.symm⟩)
        have HA3 : Hid (∀ j, j < k + 1 → fitB zs lo hi st j) := Lib.hid (fun j hj => by
          by_cases e : j = k
          · rw [e]; exact .inl hzz
          · exact HA.out j (by omega))
        subst hzn
        clear hzz e0 e1
        generalize fwl zs lo hi st k = L at *
        go_wp2_with fail
        refine (push_any (w.heap.size + 1) (w.heap.size + 3) v y0 y1 L _ cP fP HO.out (by omega) hbs hL20).mono ?_
        rintro e w4 ⟨rfl, g, cp, c4, f4, hO4, ot⟩
        have HG3 : Hid (Gst w lo hi (.slice (some ⟨g, 0, none⟩) (L.length + 1) cp) y0 y1 (fwl zs lo hi st (k + 1)) w4) := Lib.hid (by rw [HS.out]; exact HG2.out.ot ot c4 f4 hO4)
        go_wp2
        go_roundw
        case rel => exact ⟨k + 1, _, y0, y1, by omega, by go_num, HG3, HX3, HA3⟩
        case measure => simp [intOf]; omega
      have hzn2 : (z != -9999) = true := bne_iff_ne.2 hzn
      have hzz : zs.getD k 0 ≠ -9999 := by rw [HZ.out]; exact hzn
      by_cases q0 : z < y0
      · have HF : Hid (BfPost zs lo hi st w (.returned (.tuple #[.slice none 0 0, .bool false])) wq) := Lib.hid (.inl ⟨⟨k, hlt, unfit hlt (by
          rintro (e | ⟨e1, e2⟩)
          · exact hzz e
          · rw [HZ.out, HY.out.1] at e1; omega)⟩, rfl, hK⟩)
        have d0 : decide (z < y0) = true := decide_eq_true q0
        go_wp2
        go_ret2
        exact HF.out
      by_cases q1 : y1 < z
      · have HF : Hid (BfPost zs lo hi st w (.returned (.tuple #[.slice none 0 0, .bool false])) wq) := Lib.hid (.inl ⟨⟨k, hlt, unfit hlt (by
          rintro (e | ⟨e1, e2⟩)
          · exact hzz e
          · rw [HZ.out, HY.out.2] at e2; omega)⟩, rfl, hK⟩)
        have d0 : decide (z < y0) = false := decide_eq_false q0
        have d1 : decide (y1 < z) = true := decide_eq_true q1
        go_wp2
        go_ret2
        exact HF.out
      have d0 : decide (z < y0) = false := decide_eq_false q0
      have d1 : decide (y1 < z) = false := decide_eq_false q1
      have e0 := fwL_some (lo := lo) (st := st) hzz (by rw [HZ.out, HY.out.1]; omega)
      have e1 := fwH_some (hi := hi) (st := st) hzz (by rw [HZ.out, HY.out.2]; omega)
      rw [HZ.out] at e0 e1
      have HS : Hid (fwl zs lo hi st (k + 1) = fwl zs lo hi st k ++ [(z, z)]) := Lib.hid (by rw [fwl_succ, e0, e1])
      have HX3 : Hid (Nx zs lo hi st (k + 1) z z) := Lib.hid (.inr ⟨k, rfl, e0.symm, e1.symm⟩)
      have HA3 : Hid (∀ j, j < k + 1 → fitB zs lo hi st j) := Lib.hid (fun j hj => by
        by_cases e : j = k
        · rw [e]; right; rw [HZ.out, HY.out.1, HY.out.2]; omega
        · exact HA.out j (by omega))
      clear hzz e0 e1
      generalize fwl zs lo hi st k = L at *
      have HG4 := Lib.hid (HG2.out.near z z)
      obtain ⟨l0', l1', cP', fP', n0', n1', g0', g1', hO', hbs', hK'⟩ := HG4.out
      have HO' := Lib.hid hO'
      clear hO'
      go_wp2_with fail
      refine (push_any (w.heap.size + 1) (w.heap.size + 3) v z z L _ cP' fP' HO'.out (by omega) hbs' hL20).mono ?_
      rintro e w4 ⟨rfl, g, cp, c4, f4, hO4, ot⟩
      have HG3 : Hid (Gst w lo hi (.slice (some ⟨g, 0, none⟩) (L.length + 1) cp) z z (fwl zs lo hi st (k + 1)) w4) := Lib.hid (by rw [HS.out]; exact HG4.out.ot ot c4 f4 hO4)
      go_wp2
      go_roundw
      case rel => exact ⟨k + 1, _, z, z, by omega, by go_num, HG3, HX3, HA3⟩
      case measure => simp [intOf]; omega
end Go.Proofs.Ytkiibklenpncpaa
