/- P70: more values leave less. -/
import Derived.Test.YtmndlghadgccbabDrGp
import Derived.Test.YtmndlghadgccbabGl
import Derived.Test.YtmndlghadgccbabGq
import Derived.Test.YtmndlghadgccbabGf
import Derived.Test.YtmndlghadgccbabGc
import Derived.Test.YtmndlghadgccbabLw
import Derived.Test.YtmndlghadgccbabFr
import Derived.LoopTactic
import Derived.IntWalk
namespace Go.Proofs.Ytmndlghadgccbab
open Go.RowKit
set_option linter.unusedVariables false

set_option maxRecDepth 100000 in
set_option maxHeartbeats 6400000 in
theorem walk_FnFillMore (a0 : Option Addr) (len0 cap0 : Nat) (z0 : List Int) (a1 : Option Addr) (len1 cap1 : Nat) (z1 : List Int) (w : World) (w0 : IsRow .u8 w a0 len0 cap0 z0) (w1 : IsRow .u8 w a1 len1 cap1 z1) :
    Calls Try.prog 7 #[.slice a0 len0 cap0, .slice a1 len1 cap1] w fun e w' => e = .returned (.bool true) ∧ Below w.heap.size w w' := by
  have ha := code_of_row w0
  obtain ⟨hl0, hm0⟩ := ha.1
  unfold maxLen at hm0
  clear w0
  have ha1 := code_of_row w1
  obtain ⟨hl1', hm1'⟩ := ha1.1
  unfold maxLen at hm1'
  clear w1 ha1
  by_cases h : len0 ≤ 1048576
  case' neg =>
    have hd : decide (1048576 < (len0 : Int)) = true := by simp; omega
    go_enter Try.func7, Try.ntmps7
    go_wp2
    go_ret
    exact ⟨rfl, Below.refl _ _⟩
  have hd : decide (1048576 < (len0 : Int)) = false := by simp; omega
  by_cases h1 : len1 ≤ 1048576
  case' neg =>
    have hd1 : decide (1048576 < (len1 : Int)) = true := by simp; omega
    go_enter Try.func7, Try.ntmps7
    go_wp2
    go_ret
    exact ⟨rfl, Below.refl _ _⟩
  have hd1 : decide (1048576 < (len1 : Int)) = false := by simp; omega
  go_enter Try.func7, Try.ntmps7
  go_wp2_with fail
  refine (drawFillOf a0 len0 cap0 _ ha).mono ?_
  rintro e w1 ⟨a, c, zs, lo, hi, st, rfl, hl13, hcap, hB, hL1, hlo, hhi, hst, k1⟩
  clear ha hB
  go_wp2_with fail
  refine (fi_impl a c zs lo hi st _ hL1 (by omega)).mono ?_
  rintro e w2 ⟨p2, q2, rfl, hq2, hF2, k2⟩
  go_wp2_with fail
  refine (fi_spec a c zs lo hi st _ (hL1.keep k2) (by omega)).mono ?_
  rintro e w3 ⟨p3, q3, rfl, hq3, hF3, k3⟩
  have K3 : Keep w w3 := (k1.trans k2).trans k3
  have hL := (hL1.keep k2).keep k3
  have hR2 := hF2.rr.keep k3
  have hR3 := hF3.rr
  clear hF2 hF3 hL1 k1 k2 k3
  rcases Bool.eq_false_or_eq_true (gOk zs lo hi st) with hs | hs
  case' inr =>
    rw [gRL_no hs] at hR2 hR3 ⊢
    rw [hs]
    have HSm := Lib.hid (fun W (k : Keep w3 W) => sG_same p2 p3 q2 q3 0 [] W (hR2.keep k) (hR3.keep k) rfl (by omega))
    clear hs hR2 hR3 hq2 hq3
    go_wp2_with fail
    refine (HSm.out _ (Keep.refl _)).mono ?_
    rintro e w4 ⟨rfl, k4⟩
    go_wp2_with fail
    refine (HSm.out _ k4).mono ?_
    rintro e w5 ⟨rfl, k5⟩
    go_wp2
    go_ret
    exact ⟨rfl, (K3.trans k4).trans k5⟩
  rw [gRL_yes hs] at hR2 hR3 hq2 hq3 ⊢
  rw [gRl_len] at hq2 hq3
  rw [hs, gRl_len]
  have HOK := Lib.hid hs
  obtain ⟨hga, hle⟩ := gOk_facts hs
  obtain ⟨hsq, ⟨hlo', hhi'⟩, hlh, hst0, hst1⟩ := gaB_facts hga
  obtain ⟨hl1, hl12⟩ := (sq_facts hsq).2
  have HLE := Lib.hid hle
  have HSm := Lib.hid (fun W (k : Keep w3 W) => sG_same p2 p3 q2 q3 zs.length _ W (hR2.keep k) (hR3.keep k) (gRl_len zs lo hi st) (by omega))
  have HO0 := Lib.hid hR2
  clear hs hga hle hsq hR2 hR3
  go_wp2_with fail
  refine (HSm.out _ (Keep.refl _)).mono ?_
  rintro e w4 ⟨rfl, k4⟩
  have HSm4 := Lib.hid (HSm.out w4 k4)
  have K4 : Keep w w4 := K3.trans k4
  have HL := Lib.hid (hL.keep k4)
  have HO := Lib.hid (HO0.out.keep k4)
  clear HSm HO0 hL K3 k4
  obtain ⟨b2, o2, rfl, hb2, hoc⟩ := HO.out.all (by rw [gRl_len]; omega)
  have HOC : Hid (∀ i, i < zs.length → At2 w4 b2 (o2 + i * 2) (gL zs lo st i, gH zs hi st i)) := Lib.hid (fun i hi' => by
    have := hoc i (by rw [gRl_len]; exact hi')
    rwa [gRl_at hi'] at this)
  clear hoc
  obtain ⟨i0, hi0, hz0, hz1, hz2⟩ := info_parts infoIntL
  obtain ⟨u, hu⟩ : ∃ u : Nat, u = len1 % zs.length := ⟨_, rfl⟩
  have hu1 : u < zs.length := by rw [hu]; exact Nat.mod_lt len1 (by omega)
  have hmod : Int.tmod (len1 : Int) (zs.length : Int) = (u : Int) := by
    have h9 := Int.ofNat_tmod len1 zs.length
    rw [← hu] at h9
    exact h9.symm
  clear hu
  have q0 : (0 : Int) ≤ (u : Int) := by omega
  have q1 : (u : Int) < (zs.length : Int) := by omega
  have hne : ((zs.length : Int) == 0) = false := beq_eq_false_iff_ne.2 (by omega)
  have hne2 : ¬ (zs.length : Int) = 0 := by omega
  obtain ⟨hok6, hin⟩ := g_more HOK.out hu1
  have HM := Lib.hid (And.intro hok6 hin)
  have HYl : Hid ((zs.set u (gL zs lo st u)).length = zs.length) := Lib.hid (by simp)
  clear hok6 hin
  obtain ⟨bz, oz, rfl, hbz, hzc⟩ := HL.out.all (by omega)
  have HZC := Lib.hid hzc
  clear hzc
  have hown := World.ownsRow_made (base := w4.heap.size) (e := 3) (size := 1) w4 #[] 0 (Nat.le_refl _) (by unfold maxLen; omega) rfl
  go_wp2_with (at_builtin; refine wpList_append_own _ rfl _ _ 23 rfl w4.heap.size 3 i0 (.int .i64 0) 1 8 Try.underlying23 hi0 hz0 hz1 hz2 rfl (by decide) _ _ _ rfl hown ⟨bz, oz, none⟩ zs.length c (zs.map (Value.int .i64)) rfl ?la ?ca ?ka ?ma ?ba ?sa ?_)
  case la => first | done | (simp; done) | (simp; omega)
  case ca =>
    intro j u hj
    have hlt : j < zs.length := by
      have := (List.getElem?_eq_some_iff.1 hj).1; simpa using this
    have h1 := (((Keep.refl w4).alloc (.cells #[] 3)).cell (HZC.out j hlt))
    have hu : u = .int .i64 (zs.getD j 0) := by
      simp [hlt] at hj; rw [← hj]; simp [List.getD_eq_getElem?_getD, hlt]
    subst hu
    by_cases h0 : j = 0
    · subst h0; simpa [Addr.add] using h1
    · simpa [Addr.add, h0] using h1
  case ka => first | (intro u hu; rfl) | (intro u hu; simp at hu; obtain ⟨x, hx, rfl⟩ := hu; rfl)
  case ma => unfold maxLen; omega
  case ba => omega
  case sa => first | omega | (simp; try omega)
  intro v' w5 hown' hgrow hnil
  try rw [Nat.zero_add] at hown'
  try rw [List.nil_append] at hown'
  obtain ⟨g, cc, rfl, hbg, hlg⟩ := hown'.form (by omega)
  obtain ⟨⟨_, hcc⟩, hwr, _, _⟩ := wr_ownL hown'
  have HW := Lib.hid hwr
  have K5 : Keep w4 w5 := (Below.grown ((Keep.refl w4).alloc (.cells #[] 3)) hgrow ((Keep.refl w4).alloc (.cells #[] 3)).size (fun q hq => (hown.lt q hq).1) : Keep w4 w5)
  clear hown' hgrow hnil hown hwr
  obtain ⟨cu, fu⟩ := HW.out u hu1
  have oc : w5.cell? ⟨b2, o2 + u * 2, none⟩ = some (.int .i64 (gL zs lo st u)) := K5.cell (HOC.out u hu1).s
  have HWs : Hid (Wr (w5.setCell ⟨g, u, none⟩ (.int .i64 (gL zs lo st u))) g (zs.set u (gL zs lo st u))) := Lib.hid (HW.out.set hu1 _)
  have K6 : Keep w4 (w5.setCell ⟨g, u, none⟩ (.int .i64 (gL zs lo st u))) := K5.setCell hbg _
  generalize zs.set u (gL zs lo st u) = ys at *
  generalize gL zs lo st u = gu at *
  generalize zs.getD u 0 = zu at cu
  obtain ⟨W, hWd⟩ : ∃ W, W = w5.setCell ⟨g, u, none⟩ (.int .i64 gu) := ⟨_, rfl⟩
  rw [← hWd] at HWs K6
  have HWd := Lib.hid hWd
  clear hWd
  have HFI := Lib.hid (fi_impl (some ⟨g, 0, none⟩) cc ys lo hi st W HWs.out.ls (by rw [HYl.out]; omega))
  rw [HYl.out] at HFI
  go_wp2_with fail
  rw [← HWd.out]
  refine HFI.out.mono ?_
  rintro e w6 ⟨p6, q6, rfl, hq6, hF6, k6⟩
  have HR6 := Lib.hid hF6.rr
  rw [gRL_yes HM.out.1] at HR6 hq6 ⊢
  rw [gRl_len, HYl.out] at hq6
  rw [HM.out.1, gRl_len, HYl.out]
  clear hF6 HFI
  obtain ⟨b6, o6, rfl, hb6, hoc6⟩ := HR6.out.all (by rw [gRl_len, HYl.out]; omega)
  have HC6 : Hid (∀ i, i < zs.length → At2 w6 b6 (o6 + i * 2) (gL ys lo st i, gH ys hi st i)) := Lib.hid (fun i hi' => by
    have := hoc6 i (by rw [gRl_len, HYl.out]; exact hi')
    rwa [gRl_at (by rw [HYl.out]; exact hi')] at this)
  clear hoc6 cu fu oc
  go_wp2_with fail
  go_loopw [17] (fun i wr => ∃ k : Nat, k ≤ zs.length ∧ i = .int .i64 k ∧ Keep w6 wr) (fun i _ => zs.length - (intOf i).toNat)
  case atStart => exact ⟨0, by omega, rfl, Keep.refl _⟩
  case round =>
    obtain ⟨k, hk, rfl, hK⟩ := hrel
    by_cases hlt : k < zs.length
    case' neg =>
      obtain rfl : k = zs.length := by omega
      go_wp2
      go_ret
      exact ⟨rfl, ((K4.trans K6).trans k6).trans hK⟩
    obtain ⟨c0, c1⟩ := HOC.out k hlt
    obtain ⟨f0, f1⟩ := HC6.out k hlt
    have hs := HM.out.2 k hlt
    have d0 : wr.cell? ⟨b2, o2 + k * 2, none⟩ = some (.int .i64 (gL zs lo st k)) := hK.cell (k6.cell (K6.cell c0))
    have d1 : wr.cell? ⟨b2, o2 + k * 2 + 1, none⟩ = some (.int .i64 (gH zs hi st k)) := hK.cell (k6.cell (K6.cell c1))
    have m0 : wr.cell? ⟨b6, o6 + k * 2, none⟩ = some (.int .i64 (gL ys lo st k)) := hK.cell f0
    have m1 : wr.cell? ⟨b6, o6 + k * 2 + 1, none⟩ = some (.int .i64 (gH ys hi st k)) := hK.cell f1
    have k0 : (0 : Int) ≤ (k : Int) := by omega
    have kz : (k : Int) < (zs.length : Int) := by omega
    clear c0 c1 f0 f1
    generalize gL zs lo st k = x at *
    generalize gH zs hi st k = y at *
    generalize gL ys lo st k = x6 at *
    generalize gH ys hi st k = y6 at *
    have e1 : decide (x6 < x) = false := decide_eq_false (by omega)
    have e2 : decide (y < y6) = false := decide_eq_false (by omega)
    go_wp2_with fail
    go_quiet (fail)
    go_wp2
    go_roundw
    case rel => exact ⟨k + 1, by omega, by go_num, hK.drewN _⟩
    case measure => simp [intOf]; omega
end Go.Proofs.Ytmndlghadgccbab
