/- Gaps: the model's FillOf answers 'gOk', 'gRL'. -/
import Derived.Test.YtmndlghadgccbabGs
namespace Go.Proofs.Ytmndlghadgccbab
open Go.RowKit
set_option linter.unusedVariables false

/-- What FillOf answers. -/
def GpPost (zs : List Int) (lo hi st : Int) (w : World) (e : Ending) (w' : World) : Prop :=
  ∃ (a : Option Addr) (c : Nat), e = .returned (.tuple #[.slice a (gRL zs lo hi st).length c, .bool (gOk zs lo hi st)]) ∧ (gRL zs lo hi st).length ≤ c ∧ FrU w w' a (gRL zs lo hi st) ∧ Keep w w'
theorem gp_no {zs : List Int} {lo hi st : Int} {w w' : World} (h : gOk zs lo hi st = false) (a : Option Addr) (c : Nat) (k : Keep w w') : GpPost zs lo hi st w (.returned (.tuple #[.slice a 0 c, .bool false])) w' := by
  have e := gRL_no h
  refine ⟨a, c, ?_, ?_, .inl e, k⟩
  · rw [e, h]; rfl
  · rw [e]; exact Nat.zero_le _
theorem gOk_1 {zs : List Int} {lo hi st : Int} (h : gaB zs lo hi st = false) : gOk zs lo hi st = false := by rw [gOk, h]; rfl
theorem gOk_2 {zs : List Int} {lo hi st : Int} {i : Nat} (hi' : i < zs.length) (h : gH zs hi st i < gL zs lo st i) : gOk zs lo hi st = false := by rw [gOk, gAll_no hi' h, Bool.and_false]
theorem gOk_3 {zs : List Int} {lo hi st : Int} (h : gaB zs lo hi st = true) (h2 : ∀ i, i < zs.length → gL zs lo st i ≤ gH zs hi st i) : gOk zs lo hi st = true := by rw [gOk, h, gAll_yes h2]; rfl
/-- The first k ranges. -/
def gRp (zs : List Int) (lo hi st : Int) (k : Nat) : List R2 := (List.range k).map fun i => (gL zs lo st i, gH zs hi st i)
theorem gRp_len (zs : List Int) (lo hi st : Int) (k : Nat) : (gRp zs lo hi st k).length = k := by simp [gRp]
theorem gRp_succ (zs : List Int) (lo hi st : Int) (k : Nat) : gRp zs lo hi st (k + 1) = gRp zs lo hi st k ++ [(gL zs lo st k, gH zs hi st k)] := by simp [gRp, List.range_succ]
theorem gRp_all (zs : List Int) (lo hi st : Int) : gRp zs lo hi st zs.length = gRl zs lo hi st := rfl
theorem gRl_at {zs : List Int} {lo hi st : Int} {i : Nat} (h : i < zs.length) : (gRl zs lo hi st).getD i u0 = (gL zs lo st i, gH zs hi st i) := by
  simp [gRl, List.getD_eq_getElem?_getD, h]
theorem gp_own {zs : List Int} {lo hi st : Int} {w w' : World} {base n c : Nat} {x : Option Addr} (h : OwnU w' base (.slice x n c) (gRl zs lo hi st)) (hok : gOk zs lo hi st = true) (hn : n = zs.length) (hb : w.heap.size ≤ base) (k : Keep w w') : GpPost zs lo hi st w (.returned (.tuple #[.slice x n c, .bool true])) w' := by
  have e := gRL_yes hok
  subst hn
  obtain ⟨a', c', hv, hc, hR⟩ := h.slice
  injection hv with e1 _ e3
  subst e1
  subst e3
  refine ⟨x, c, ?_, ?_, ?_, k⟩
  · rw [e, hok, gRl_len]
  · rw [e]; exact hc
  · rw [e]
    rcases Nat.eq_zero_or_pos (gRl zs lo hi st).length with h0 | h0
    · exact .inl (List.eq_nil_of_length_eq_zero h0)
    · obtain ⟨g, c2, hv2, _, hg, hl, hW⟩ := h.form h0
      injection hv2 with e1 _ _
      subst e1
      exact .inr ⟨g, rfl, by omega, hl, hW⟩
theorem infoRngG : (Try.prog.info? 31).map (fun i => (i.zero, i.size, i.bytes)) = some (some (.agg #[.int .i64 0, .int .i64 0]), 2, 16) := by kernel_rfl
set_option maxRecDepth 100000 in
set_option maxHeartbeats 2000000 in
theorem fi_spec (a : Option Addr) (cap : Nat) (zs : List Int) (lo hi st : Int) (w : World) (h : Ls w a zs) (hm : zs.length ≤ 4611686018427387904) :
    Calls Try.prog 21 #[.slice a zs.length cap, .int .i64 lo, .int .i64 hi, .int .i64 st] w (GpPost zs lo hi st w) := by
  obtain ⟨i0, hi0, hz0, hz1, hz2⟩ := info_parts infoRngG
  have HG := Lib.hid (ga_spec a cap zs lo hi st w h hm)
  obtain ⟨g, hg⟩ : ∃ g, gaB zs lo hi st = g := ⟨_, rfl⟩
  have HG2 := Lib.hid hg
  rw [hg] at HG
  cases g
  · have HF := Lib.hid (gOk_1 hg)
    clear hg
    go_enter Try.func21, Try.ntmps21
    go_wp2_with (go_at_call 44; refine HG.out.mono ?_; rintro e w' ⟨rfl, rfl⟩)
    go_ret2
    exact gp_no HF.out _ _ ((Keep.refl _).alloc _)
  obtain ⟨hsq, ⟨hlo, hhi⟩, hlh, hst0, hst1⟩ := gaB_facts hg
  have hl12 := (sq_facts hsq).2.2
  have HR := Lib.hid (fun (i : Nat) (hi' : i < zs.length) W (k : Keep w W) => gr_spec a cap zs lo hi st i W (h.keep k) hg hi')
  clear hg hsq
  go_enter Try.func21, Try.ntmps21
  go_wp2_with (go_at_call 44; refine HG.out.mono ?_; rintro e w' ⟨rfl, rfl⟩)
  go_loopw [10, 11, 12] (fun u i r wr => ∃ (k : Nat) (x : Option Addr) (cx : Nat), k ≤ zs.length ∧ i = .int .i64 k ∧ u = .slice x k cx ∧ Hid (∀ j, j < k → gL zs lo st j ≤ gH zs hi st j) ∧ Hid (OwnU wr w.heap.size (.slice x k cx) (gRp zs lo hi st k)) ∧ Keep w wr) (fun _ i _ _ => zs.length - (intOf i).toNat)
  case atStart => exact ⟨0, _, _, by omega, rfl, rfl, Lib.hid (fun j hj => absurd hj (by omega)), Lib.hid (OwnU.made w), (Keep.refl w).alloc _⟩
  case round =>
    obtain ⟨k, x, cx, hk, rfl, rfl, HA, HO, hK⟩ := hrel
    have hsz := hK.size
    by_cases hlt : k < zs.length
    case' neg =>
      obtain rfl : k = zs.length := by omega
      have HF := Lib.hid (gp_own HO.out (gOk_3 HG2.out HA.out) rfl (Nat.le_refl _) hK)
      go_wp2
      go_ret2
      exact HF.out
    have HC := Lib.hid (HR.out k hlt _ hK)
    have HS := Lib.hid (gRp_succ zs lo hi st k)
    by_cases hb : gL zs lo st k ≤ gH zs hi st k
    case' neg =>
      have HF := Lib.hid (gOk_2 hlt (show gH zs hi st k < gL zs lo st k by omega))
      have d : decide (gH zs hi st k < gL zs lo st k) = true := decide_eq_true (by omega)
      generalize gL zs lo st k = p at *
      generalize gH zs hi st k = q at *
      go_wp2_with fail
      refine HC.out.mono ?_
      rintro e w1 ⟨rfl, k1⟩
      go_wp2
      go_ret2
      exact gp_no HF.out _ _ (((hK.trans k1).alloc _).alloc _)
    have HA2 : Hid (∀ j, j < k + 1 → gL zs lo st j ≤ gH zs hi st j) := Lib.hid (fun j hj => by
      by_cases e : j = k
      · rw [e]; exact hb
      · exact HA.out j (by omega))
    have d : decide (gH zs hi st k < gL zs lo st k) = false := decide_eq_false (by omega)
    generalize gL zs lo st k = p at *
    generalize gH zs hi st k = q at *
    go_wp2_with fail
    refine HC.out.mono ?_
    rintro e w1 ⟨rfl, k1⟩
    have hl := gRp_len zs lo hi st k
    have hO1 := HO.out.keep k1
    have hown : w1.ownsRow w.heap.size 31 2 (.slice x k cx) k (flatU (gRp zs lo hi st k)) := by
      have h9 := hO1
      unfold OwnU at h9
      rwa [hl] at h9
    have hK1 := hK.trans k1
    have hsz1 := hK1.size
    clear hO1 hl
    generalize gRp zs lo hi st k = L at *
    go_wp2_with (at_builtin; refine wpList_append_own _ rfl _ _ 27 rfl w.heap.size 31 i0 (.agg #[.int .i64 0, .int .i64 0]) 2 16 Try.underlying27 hi0 hz0 hz1 hz2 rfl (by decide) _ _ _ rfl ((hown.alloc _).alloc _) ⟨w1.heap.size + 1, 0, none⟩ 1 1 (uc (p, q)) rfl rfl ?c1a ?c2a ?c3a ?c4a ?c5a ?_)
    case c1a => exact newsU_one ⟨by first | (go_simp; done) | (go_simp; rfl), by first | (go_simp; done) | (go_simp; rfl)⟩
    case c2a => exact uc_one _
    case c3a => unfold maxLen; omega
    case c4a => omega
    case c5a => first | omega | (simp; omega)
    intro v' w4 hown' hgrow hnil
    have hrow : ∀ g', _ = some g' → w.heap.size ≤ g' := fun g' hg => (hown.lt g' hg).1
    have HN : Hid (w4.ownsRow w.heap.size 31 2 v' (k + 1) (flatU (gRp zs lo hi st (k + 1)))) := Lib.hid (by rw [HS.out, flatU_app, flatU_one]; exact hown')
    have HK2 := Lib.hid ((Below.grown ((hK1.alloc (.cells #[.int .i64 p, .int .i64 q] 31)).alloc (.cells #[.int .i64 p, .int .i64 q] 31)) hgrow ((hK1.alloc _).alloc _).size (fun q hq => (hown.lt q hq).1)) : Keep w w4)
    obtain ⟨g', c', rfl, hbg, hlg⟩ := hown'.form (by omega)
    have HN2 : Hid (OwnU w4 w.heap.size (.slice (some ⟨g', 0, none⟩) (k + 1) c') (gRp zs lo hi st (k + 1))) := Lib.hid (by unfold OwnU; rw [gRp_len]; exact HN.out)
    clear hown' hgrow hnil hown hrow HN
    go_wp2
    go_roundw
    case rel => exact ⟨k + 1, some ⟨g', 0, none⟩, c', by omega, by go_num, rfl, HA2, HN2, HK2.out⟩
    case measure => simp [intOf]; omega
end Go.Proofs.Ytmndlghadgccbab
