/- P67: ranges are as tight as possible. -/
import Derived.Test.YtmndlghadgccbabDrGp
import Derived.Test.YtmndlghadgccbabGl
import Derived.Test.YtmndlghadgccbabGq
import Derived.Test.YtmndlghadgccbabGf
import Derived.Test.YtmndlghadgccbabGc
import Derived.Test.YtmndlghadgccbabLw
import Derived.Test.YtmndlghadgccbabFr
import Derived.LoopTactic
import Derived.IntWalk
namespace Go.Proofs.Ytmndlghadgccbab
open Go.RowKit
set_option linter.unusedVariables false

set_option maxRecDepth 100000 in
set_option maxHeartbeats 6400000 in
theorem walk_FnFillTight (a0 : Option Addr) (len0 cap0 : Nat) (z0 : List Int) (w : World) (w0 : IsRow .u8 w a0 len0 cap0 z0) :
    Calls Try.prog 4 #[.slice a0 len0 cap0] w fun e w' => e = .returned (.bool true) ∧ Below w.heap.size w w' := by
  have ha := code_of_row w0
  obtain ⟨hl0, hm0⟩ := ha.1
  unfold maxLen at hm0
  clear w0
  by_cases h : len0 ≤ 1048576
  case' neg =>
    have hd : decide (1048576 < (len0 : Int)) = true := by simp; omega
    go_enter Try.func4, Try.ntmps4
    go_wp2
    go_ret
    exact ⟨rfl, Below.refl _ _⟩
  have hd : decide (1048576 < (len0 : Int)) = false := by simp; omega
  go_enter Try.func4, Try.ntmps4
  go_wp2_with fail
  refine (drawFillOf a0 len0 cap0 _ ha).mono ?_
  rintro e w1 ⟨a, c, zs, lo, hi, st, rfl, hl13, hcap, hB, hL1, hlo, hhi, hst, k1⟩
  clear ha hB
  go_wp2_with fail
  refine (fi_impl a c zs lo hi st _ hL1 (by omega)).mono ?_
  rintro e w2 ⟨p2, q2, rfl, hq2, hF2, k2⟩
  go_wp2_with fail
  refine (fi_spec a c zs lo hi st _ (hL1.keep k2) (by omega)).mono ?_
  rintro e w3 ⟨p3, q3, rfl, hq3, hF3, k3⟩
  have K3 : Keep w w3 := (k1.trans k2).trans k3
  have hL := (hL1.keep k2).keep k3
  have hR2 := hF2.rr.keep k3
  have hR3 := hF3.rr
  clear hF2 hF3 hL1 k1 k2 k3
  rcases Bool.eq_false_or_eq_true (gOk zs lo hi st) with hs | hs
  case' inr =>
    rw [gRL_no hs] at hR2 hR3 ⊢
    rw [hs]
    have HSm := Lib.hid (fun W (k : Keep w3 W) => sG_same p2 p3 q2 q3 0 [] W (hR2.keep k) (hR3.keep k) rfl (by omega))
    clear hs hR2 hR3 hq2 hq3
    go_wp2_with fail
    refine (HSm.out _ (Keep.refl _)).mono ?_
    rintro e w4 ⟨rfl, k4⟩
    go_wp2_with fail
    refine (HSm.out _ k4).mono ?_
    rintro e w5 ⟨rfl, k5⟩
    go_wp2
    go_ret
    exact ⟨rfl, (K3.trans k4).trans k5⟩
  rw [gRL_yes hs] at hR2 hR3 hq2 hq3 ⊢
  rw [gRl_len] at hq2 hq3
  rw [hs, gRl_len]
  have HOK := Lib.hid hs
  obtain ⟨hga, hle⟩ := gOk_facts hs
  obtain ⟨hsq, ⟨hlo', hhi'⟩, hlh, hst0, hst1⟩ := gaB_facts hga
  obtain ⟨hl1, hl12⟩ := (sq_facts hsq).2
  have HLE := Lib.hid hle
  have HSm := Lib.hid (fun W (k : Keep w3 W) => sG_same p2 p3 q2 q3 zs.length _ W (hR2.keep k) (hR3.keep k) (gRl_len zs lo hi st) (by omega))
  have HO0 := Lib.hid hR2
  clear hs hga hle hsq hR2 hR3
  go_wp2_with fail
  refine (HSm.out _ (Keep.refl _)).mono ?_
  rintro e w4 ⟨rfl, k4⟩
  have HSm4 := Lib.hid (HSm.out w4 k4)
  have K4 : Keep w w4 := K3.trans k4
  have HL := Lib.hid (hL.keep k4)
  have HO := Lib.hid (HO0.out.keep k4)
  clear HSm HO0 hL K3 k4
  obtain ⟨b2, o2, rfl, hb2, hoc⟩ := HO.out.all (by rw [gRl_len]; omega)
  have HOC : Hid (∀ i, i < zs.length → At2 w4 b2 (o2 + i * 2) (gL zs lo st i, gH zs hi st i)) := Lib.hid (fun i hi' => by
    have := hoc i (by rw [gRl_len]; exact hi')
    rwa [gRl_at hi'] at this)
  clear hoc
  obtain ⟨i0, hi0, hz0, hz1, hz2⟩ := info_parts infoIntL
  have HF1 := Lib.hid (fun g cc W (k : Keep w4 W) (h2 : Ls W (some ⟨g, 0, none⟩) (loL zs lo st)) => ff_impl a (some ⟨g, 0, none⟩) c cc zs (loL zs lo st) lo hi st W (HL.out.keep k) h2 (by omega) (by rw [loL_len]; omega))
  have HF2 := Lib.hid (fun g cc W (k : Keep w4 W) (h2 : Ls W (some ⟨g, 0, none⟩) (hiL zs hi st)) => ff_impl a (some ⟨g, 0, none⟩) c cc zs (hiL zs hi st) lo hi st W (HL.out.keep k) h2 (by omega) (by rw [hiL_len]; omega))
  rw [lo_fits HOK.out, loL_len] at HF1
  rw [hi_fits HOK.out, hiL_len] at HF2
  go_wp2_with fail
  go_loopw [11, 12, 13] (fun u v i wr => ∃ (k g1 c1 g2 c2 : Nat), k ≤ zs.length ∧ i = .int .i64 k ∧ u = .slice (some ⟨g1, 0, none⟩) k c1 ∧ v = .slice (some ⟨g2, 0, none⟩) k c2 ∧ Hid (wr.ownsRow w4.heap.size 3 1 (.slice (some ⟨g1, 0, none⟩) k c1) k (((loL zs lo st).take k).map (Value.int .i64))) ∧ Hid (wr.ownsRow w4.heap.size 3 1 (.slice (some ⟨g2, 0, none⟩) k c2) k (((hiL zs hi st).take k).map (Value.int .i64))) ∧ g1 ≠ g2 ∧ Keep w4 wr) (fun _ _ i _ => zs.length - (intOf i).toNat)
  case atStart =>
    refine ⟨0, w4.heap.size, 0, w4.heap.size + 1, 0, by omega, rfl, rfl, rfl, Lib.hid ?_, Lib.hid ?_, by omega, ((Keep.refl w4).alloc _).alloc _⟩
    · exact World.ownsRow.alloc (World.ownsRow_made w4 #[] 0 (Nat.le_refl _) (by unfold maxLen; omega) rfl) _
    · have := World.ownsRow_made (w4.alloc (.cells #[] 3)) (e := 3) (size := 1) (base := w4.heap.size) #[] 0 (by simp) (by unfold maxLen; omega) rfl
      simpa using this
  case round =>
    obtain ⟨k, g1, c1, g2, c2, hk, rfl, rfl, rfl, HA, HB, hne, hK⟩ := hrel
    have hsz := hK.size
    by_cases hlt : k < zs.length
    case' neg =>
      obtain rfl : k = zs.length := by omega
      have HLa : Hid (Ls wr (some ⟨g1, 0, none⟩) (loL zs lo st)) := Lib.hid (by
        have h1 := HA.out
        rw [List.take_of_length_le (by rw [loL_len]; exact Nat.le_refl _)] at h1
        exact (Ls.own h1).2)
      have HLb : Hid (Ls wr (some ⟨g2, 0, none⟩) (hiL zs hi st)) := Lib.hid (by
        have h1 := HB.out
        rw [List.take_of_length_le (by rw [hiL_len]; exact Nat.le_refl _)] at h1
        exact (Ls.own h1).2)
      clear HA HB
      go_wp2_with fail
      refine (HF1.out g1 c1 _ hK HLa.out).mono ?_
      rintro e w7 ⟨rfl, k7⟩
      go_wp2_with fail
      refine (HF2.out g2 c2 _ (hK.trans k7) (HLb.out.keep k7)).mono ?_
      rintro e w8 ⟨rfl, k8⟩
      go_wp2
      go_ret
      exact ⟨rfl, ((K4.trans hK).trans k7).trans k8⟩
    obtain ⟨c0, c1x⟩ := HOC.out k hlt
    have d0 : wr.cell? ⟨b2, o2 + k * 2, none⟩ = some (.int .i64 (gL zs lo st k)) := hK.cell c0
    have d1 : wr.cell? ⟨b2, o2 + k * 2 + 1, none⟩ = some (.int .i64 (gH zs hi st k)) := hK.cell c1x
    have HS1 : Hid ((loL zs lo st).take (k + 1) = (loL zs lo st).take k ++ [gL zs lo st k]) := Lib.hid (by
      rw [List.take_succ_eq_append_getElem (by rw [loL_len]; exact hlt)]; congr 2
      simp [loL])
    have HS2 : Hid ((hiL zs hi st).take (k + 1) = (hiL zs hi st).take k ++ [gH zs hi st k]) := Lib.hid (by
      rw [List.take_succ_eq_append_getElem (by rw [hiL_len]; exact hlt)]; congr 2
      simp [hiL])
    have k0 : (0 : Int) ≤ (k : Int) := by omega
    have kz : (k : Int) < (zs.length : Int) := by omega
    have HC1 : Hid (w4.cell? ⟨b2, o2 + k * 2 + 1, none⟩ = some (.int .i64 (gH zs hi st k))) := Lib.hid c1x
    clear c0 c1x
    generalize gL zs lo st k = x at *
    generalize gH zs hi st k = y at *
    have howna : wr.ownsRow w4.heap.size 3 1 _ _ _ := HA.out
    go_wp2_with (at_builtin; go_loud (refine wpList_append_lies _ rfl _ _ 23 rfl w4.heap.size 3 i0 (.int .i64 0) 1 8 Try.underlying23 hi0 hz0 hz1 hz2 rfl (by decide) _ _ _ rfl (howna.alloc _) ⟨wr.heap.size, 0, none⟩ 1 1 [.int .i64 x] rfl rfl ?c1a ?c2a (by decide) ?c3a ?c4a ?c5a (wr.heap.size + 1) ?c6a ?_))
    try case c1a =>
      intro j u hj
      match j, hj with
      | 0, hj => simp at hj; subst hj; simp [Addr.add]
    case c2a => first | rfl | (intro u hu; simp at hu; subst hu; rfl)
    case c3a => unfold maxLen; omega
    case c4a => omega
    case c5a => first | omega | (simp; omega)
    try case c6a => first | rfl | (simp; done)
    intro g1' c1' w5 hown' hgrow hlies hlg

    have HA2 : Hid (w5.ownsRow w4.heap.size 3 1 (.slice (some ⟨g1', 0, none⟩) (k + 1) c1') (k + 1) (((loL zs lo st).take (k + 1)).map (Value.int .i64))) := Lib.hid (by rw [HS1.out]; simpa using hown')
    have hg2 := (HB.out.lt g2 rfl)
    have hg1 := (HA.out.lt g1 rfl)
    have hne1 : g1' ≠ g2 := by
      rcases hlies with e | e
      · have e : g1 = g1' := by simpa [Value.ownBlock] using e
        omega
      · omega
    have HB1 : Hid (w5.ownsRow w4.heap.size 3 1 (.slice (some ⟨g2, 0, none⟩) k c2) k (((hiL zs hi st).take k).map (Value.int .i64))) := Lib.hid (World.ownsRow.kept (HB.out.alloc _) hgrow (.inr (by simp [Value.ownBlock]; omega)))
    have hK5 : Keep w4 w5 := Below.grown (hK.alloc (.cells #[.int .i64 x] 3)) hgrow (hK.alloc (.cells #[.int .i64 x] 3)).size (fun q hq => (howna.lt q hq).1)
    have hg1' := (HA2.out.lt g1' rfl)
    have hg2' := (HB1.out.lt g2 rfl)
    have hsz5 := hK5.size
    have e1 : w5.cell? ⟨b2, o2 + k * 2 + 1, none⟩ = some (.int .i64 y) := hK5.cell HC1.out
    clear hown' hgrow hlies hlg howna
    have hownb : w5.ownsRow w4.heap.size 3 1 _ _ _ := HB1.out
    go_wp2_with (at_builtin; go_loud (refine wpList_append_lies _ rfl _ _ 23 rfl w4.heap.size 3 i0 (.int .i64 0) 1 8 Try.underlying23 hi0 hz0 hz1 hz2 rfl (by decide) _ _ _ rfl (hownb.alloc _) ⟨w5.heap.size, 0, none⟩ 1 1 [.int .i64 y] rfl rfl ?c1b ?c2b (by decide) ?c3b ?c4b ?c5b (w5.heap.size + 1) ?c6b ?_))
    try case c1b =>
      intro j u hj
      match j, hj with
      | 0, hj => simp at hj; subst hj; simp [Addr.add]
    case c2b => first | rfl | (intro u hu; simp at hu; subst hu; rfl)
    case c3b => unfold maxLen; omega
    case c4b => omega
    case c5b => first | omega | (simp; omega)
    try case c6b => first | rfl | (simp; done)
    intro g2' c2' w6 hown' hgrow hlies hlg

    have HB2 : Hid (w6.ownsRow w4.heap.size 3 1 (.slice (some ⟨g2', 0, none⟩) (k + 1) c2') (k + 1) (((hiL zs hi st).take (k + 1)).map (Value.int .i64))) := Lib.hid (by rw [HS2.out]; simpa using hown')
    have hne2 : g1' ≠ g2' := by
      rcases hlies with e | e
      · have e : g2 = g2' := by simpa [Value.ownBlock] using e
        omega
      · omega
    have HA3 : Hid (w6.ownsRow w4.heap.size 3 1 (.slice (some ⟨g1', 0, none⟩) (k + 1) c1') (k + 1) (((loL zs lo st).take (k + 1)).map (Value.int .i64))) := Lib.hid (World.ownsRow.kept (HA2.out.alloc _) hgrow (.inr (by simp [Value.ownBlock]; omega)))
    have hK6 : Keep w4 w6 := Below.grown (hK5.alloc (.cells #[.int .i64 y] 3)) hgrow (hK5.alloc (.cells #[.int .i64 y] 3)).size (fun q hq => (hownb.lt q hq).1)
    clear hown' hgrow hlies hlg hownb
    go_wp2
    go_roundw
    case rel => exact ⟨k + 1, g1', c1', g2', c2', by omega, by go_num, rfl, rfl, HA3, HB2, hne2, hK6⟩
    case measure => simp [intOf]; omega
end Go.Proofs.Ytmndlghadgccbab
