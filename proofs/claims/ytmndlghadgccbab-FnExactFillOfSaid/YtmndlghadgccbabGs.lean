/- Gaps: the model's range of a day. -/
import Derived.Test.YtmndlghadgccbabGa
import Derived.Test.YtmndlghadgccbabStill
import Derived.Test.YtmndlghadgccbabRow
import Derived.IntWalk
import Derived.Deep.RegionHeld3
namespace Go.Proofs.Ytmndlghadgccbab
open Go.RowKit
set_option linter.unusedVariables false

theorem abs_world {P : World → Prop} {w : World} (Q : World → Prop) (hQ : Q w) (h : ∀ w', Q w' → P w') : P w := h w hQ
theorem gLo_ub {zs : List Int} (h : sqB zs = true) {lo st : Int} (hl : lo ≤ 12000) (h0 : 0 ≤ st) (i : Nat) : ∀ k, k ≤ zs.length → gLo zs lo st i k ≤ 12000
  | 0, _ => hl
  | k + 1, hk => by
    have ih := gLo_ub h hl h0 i k (by omega)
    have hz := sq_at h (show k < zs.length by omega)
    have hf := gFar_nn (i := k) (j := i) h0
    simp only [gLo]; split <;> omega
theorem gHi_lb {zs : List Int} (h : sqB zs = true) {hi st : Int} (hl : -12000 ≤ hi) (h0 : 0 ≤ st) (i : Nat) : ∀ k, k ≤ zs.length → -12000 ≤ gHi zs hi st i k
  | 0, _ => hl
  | k + 1, hk => by
    have ih := gHi_lb h hl h0 i k (by omega)
    have hz := sq_at h (show k < zs.length by omega)
    have hf := gFar_nn (i := k) (j := i) h0
    simp only [gHi]; split <;> omega
theorem gFar_max (k i : Nat) (st : Int) : max ((k : Int) - (i : Int)) ((i : Int) - (k : Int)) * st = gFar k i st := by
  unfold gFar; congr 1; split <;> omega
/-- The block at the end of w can be written: two cells. -/
def HTP (w wr : World) : Prop := wr.frozen? ⟨w.heap.size, 0, none⟩ = false ∧ wr.frozen? ⟨w.heap.size, 1, none⟩ = false ∧ (∃ v, wr.cell? ⟨w.heap.size, 0, none⟩ = some v) ∧ ∃ v, wr.cell? ⟨w.heap.size, 1, none⟩ = some v
theorem HTP.put {w wr : World} {b o : Nat} (h : HTP w wr) (hb : b ≠ w.heap.size) (u : Value) : HTP w (wr.setCell ⟨b, o, none⟩ u) := by
  obtain ⟨h0, h1, ⟨v0, h2⟩, ⟨v1, h3⟩⟩ := h
  refine ⟨by rw [World.frozen?_setCell]; exact h0, by rw [World.frozen?_setCell]; exact h1, ⟨v0, ?_⟩, ⟨v1, ?_⟩⟩
  · rw [World.cell?_setCell_other _ _ _ _ (by simp only [ne_eq, Addr.mk.injEq]; omega)]; exact h2
  · rw [World.cell?_setCell_other _ _ _ _ (by simp only [ne_eq, Addr.mk.injEq]; omega)]; exact h3
theorem HTP.drew {w wr : World} (h : HTP w wr) : HTP w wr.drew := h
set_option maxRecDepth 100000 in
set_option maxHeartbeats 2000000 in
theorem gr_spec (a : Option Addr) (cap : Nat) (zs : List Int) (lo hi st : Int) (i : Nat) (w : World) (h : Ls w a zs) (hg : gaB zs lo hi st = true) (hi' : i < zs.length) :
    Calls Try.prog 48 #[.slice a zs.length cap, .int .i64 lo, .int .i64 hi, .int .i64 st, .int .i64 (i : Int)] w fun e w' => e = .returned (.agg #[.int .i64 (gL zs lo st i), .int .i64 (gH zs hi st i)]) ∧ Keep w w' := by
  obtain ⟨hsq, ⟨hlo, hhi⟩, hlh, hst0, hst1⟩ := gaB_facts hg
  have hl12 := (sq_facts hsq).2.2
  have HSQ := Lib.hid hsq
  clear hg hsq
  go_enter Try.func48, Try.ntmps48
  go_wp2_with fail
  go_loopw [12, 13] (fun q f wr => ∃ k : Nat, k ≤ zs.length ∧ q = .int .i64 k ∧ wr.cell? ⟨w.heap.size + 1, 0, none⟩ = some (.int .i64 (gLo zs lo st i k)) ∧ wr.cell? ⟨w.heap.size + 1, 1, none⟩ = some (.int .i64 (gHi zs hi st i k)) ∧ wr.frozen? ⟨w.heap.size + 1, 0, none⟩ = false ∧ wr.frozen? ⟨w.heap.size + 1, 1, none⟩ = false ∧ Hid (HTP w wr) ∧ Keep w wr) (fun q _ _ => zs.length - (intOf q).toNat)
  case atStart => exact ⟨0, by omega, rfl, by go_simp; rfl, by go_simp; rfl, by go_simp, by go_simp, Lib.hid ⟨by go_simp, by go_simp, ⟨_, by go_simp; rfl⟩, ⟨_, by go_simp; rfl⟩⟩, ((Keep.refl w).alloc _).alloc _⟩
  case round =>
    obtain ⟨k, hk, rfl, o0, o1, f0, f1, HT, hK⟩ := hrel
    have hsz := hK.size
    have b0 := World.block_lt_of_cell? wr _ o0
    by_cases hlt : k < zs.length
    case' neg =>
      obtain rfl : k = zs.length := by omega
      obtain ⟨r0, r1, ⟨x0, c0⟩, ⟨x1, c1⟩⟩ := HT.out
      obtain ⟨x, hx⟩ : ∃ x, gL zs lo st i = x := ⟨_, rfl⟩
      obtain ⟨y, hy⟩ : ∃ y, gH zs hi st i = y := ⟨_, rfl⟩
      have HX := Lib.hid hx
      have HY := Lib.hid hy
      rw [show gLo zs lo st i zs.length = x from hx] at o0
      rw [show gHi zs hi st i zs.length = y from hy] at o1
      clear hx hy
      go_wp2_with fail
      refine bodyPost_ret (v := .agg #[.int .i64 x, .int .i64 y]) (by simp [results, Try.results48, go_sem, *]) rfl ⟨by rw [HX.out, HY.out], ?_⟩
      exact (hK.setCell (Nat.le_refl _) _).setCell (Nat.le_refl _) _
    obtain ⟨bz, oz, rfl, hbz, hcz⟩ := h.at_ hlt
    have cz := hK.cell hcz
    clear hcz
    have hd := gFar_bd (i := k) (j := i) (st := st) (by omega) (by omega) (by omega) (by omega)
    have HF := gFar_max k i st
    have hlo' := gLo_ge zs lo st i k
    have hhi' := gHi_le zs hi st i k
    by_cases hx : zs.getD k 0 = -9999
    · have HS := Lib.hid (And.intro (gLo_none (lo := lo) (st := st) (i := i) hx) (gHi_none (hi := hi) (st := st) (i := i) hx))
      rw [← HS.out.1] at o0
      rw [← HS.out.2] at o1
      rw [hx] at cz
      clear hx
      go_wp2_with fail
      go_roundw
      case rel => exact ⟨k + 1, by omega, by go_num, o0, o1, f0, f1, HT, hK⟩
      case measure => simp [intOf]; omega
    · have hx2 : (zs.getD k 0 != -9999) = true := bne_iff_ne.2 hx
      have hzb := sq_at HSQ.out hlt
      have HS := Lib.hid (And.intro (gLo_some (lo := lo) (st := st) (i := i) hx) (gHi_some (hi := hi) (st := st) (i := i) hx))
      have hub := And.intro (gLo_ub HSQ.out (show lo ≤ 12000 by omega) hst0 i k (by omega)) (gHi_lb HSQ.out (show -12000 ≤ hi by omega) hst0 i k (by omega))
      obtain ⟨F, hF⟩ : ∃ F, gFar k i st = F := ⟨_, rfl⟩
      have HI : Hid (k ≤ i → wrap64 (((i : Int) - (k : Int)) * st) = F) := Lib.hid (fun hki => by
        have e : ((i : Int) - (k : Int)) * st = F := by rw [← hF, ← gFar_max]; congr 1; omega
        rw [e]; exact IntWalk.wrap64_in _ (by omega))
      have HJ : Hid (i ≤ k → wrap64 (((k : Int) - (i : Int)) * st) = F) := Lib.hid (fun hki => by
        have e : ((k : Int) - (i : Int)) * st = F := by rw [← hF, ← gFar_max]; congr 1; omega
        rw [e]; exact IntWalk.wrap64_in _ (by omega))
      rw [hF] at HS hd
      clear hx HF hF
      generalize gLo zs lo st i k = x at *
      generalize gHi zs hi st i k = y at *
      generalize zs.getD k 0 = z at *
      have s1 : IntKind.i64.wrap (z - F) = z - F := IntWalk.i64_in _ (by omega)
      have s2 : IntKind.i64.wrap (z + F) = z + F := IntWalk.i64_in _ (by omega)
      have kz : (k : Int) < (zs.length : Int) := by omega
      have k0 : (0 : Int) ≤ (k : Int) := by omega
      go_wp2_with fail
      all_goals
        first | rw [HI.out (by omega)] | rw [HJ.out (by omega)]
        refine wp_region_still_tail 10 (by kernel_rfl) (by kernel_rfl) ?_
        simp only [List.take_succ_cons, List.take_zero, List.drop_succ_cons, List.drop_zero]
        change wpStill _ _ wr.drew _ _ _
        refine wpStill_hide (fun T hT => ?_)
        repeat still_step
        refine wpStill_nil ?_
        refine hT.out _ ?_
        clear hT
        change wpList _ _ _ _ _ wr.drew
        go_wp2_with fail
        all_goals
          refine @abs_world (fun wq => Code.wp _ _ _ _ wq) _ (fun wq => wq.cell? ⟨w.heap.size + 1, 0, none⟩ = some (.int .i64 (max x (z - F))) ∧ wq.cell? ⟨w.heap.size + 1, 1, none⟩ = some (.int .i64 y) ∧ wq.cell? ⟨bz, oz + k, none⟩ = some (.int .i64 z) ∧ wq.frozen? ⟨w.heap.size + 1, 0, none⟩ = false ∧ wq.frozen? ⟨w.heap.size + 1, 1, none⟩ = false ∧ Hid (HTP w wq) ∧ Keep w wq) ⟨?_, ?_, ?_, ?_, ?_, ?_, ?_⟩ ?_
          case refine_1 => first | (go_simp; done) | (go_simp; split <;> omega) | (go_simp; congr 1; omega) | (go_simp; omega)
          case refine_2 => go_simp
          case refine_3 => go_simp
          case refine_4 => go_simp
          case refine_5 => go_simp
          case refine_6 => exact Lib.hid (HT.out.put (by omega) _).drew
          case refine_7 => exact (hK.setCell (by omega) _).drew
          rintro wq ⟨p0, p1, pz, q0, q1, HT2, hK2⟩
          refine wp_region_still_tail 10 (by kernel_rfl) (by kernel_rfl) ?_
          simp only [List.take_succ_cons, List.take_zero, List.drop_succ_cons, List.drop_zero]
          change wpStill _ _ wq.drew _ _ _
          refine wpStill_hide (fun T hT => ?_)
          repeat still_step
          refine wpStill_nil ?_
          refine hT.out _ ?_
          clear hT
          change wpList _ _ _ _ _ wq.drew
          go_wp2_with fail
          all_goals
            go_roundw
            case rel => exact ⟨k + 1, by omega, by go_num, by rw [HS.out.1]; go_simp, by rw [HS.out.2]; first | (go_simp; done) | (go_simp; split <;> omega) | (go_simp; congr 1; omega) | (go_simp; omega), by go_simp, by go_simp, Lib.hid (HT2.out.put (by omega) _).drew, (hK2.setCell (by omega) _).drew⟩
            case measure => simp [intOf]; omega
end Go.Proofs.Ytmndlghadgccbab
