/- P161: a changed value is found where it is. -/
import Derived.Test.YtaggciojccoidaaDoorDrCh
import Derived.Test.YtaggciojccoidaaDoorCl
import Derived.Test.YtaggciojccoidaaDoorTah
import Derived.Test.YtaggciojccoidaaDoorKl
import Derived.Test.YtaggciojccoidaaDoorFr
import Derived.IntWalk
import Derived.Deep.QuietTactic
import Derived.BigQuiet
import Derived.Deep.RegionHeld3
namespace Go.Proofs.YtaggciojccoidaaDoor
open Go.RowKit
set_option linter.unusedVariables false

theorem stB_set {rs : List R4} (h : stB rs = true) {u : Nat} (hu : u < rs.length) (r : R4) : stB (rs.set u r) = rB r := by
  obtain ⟨h1, h2⟩ := stB_facts h
  have h3 : (rs.set u r).all rB = rB r := by
    rw [Bool.eq_iff_iff, List.all_eq_true]
    constructor
    · exact fun h => h r (List.mem_of_getElem? (i := u) (by simp [hu]))
    · intro hr x hx
      rcases List.mem_or_eq_of_mem_set hx with h | h
      · exact List.all_eq_true.1 h1 x h
      · rw [h]; exact hr
  unfold stB
  rw [h3, List.length_set, decide_eq_true h2]
  first | simp | (rw [Bool.and_true]) | (rw [Bool.true_and])
theorem wrR_setV {w : World} {g : Nat} {ys : List R4} (h : WrR w g ys) {k : Nat} (hk : k < ys.length) (v : Int) : WrR (w.setCell ⟨g, k * 4 + 3, none⟩ (.int .i64 v)) g (ys.set k (rS (ys.getD k r0), rD (ys.getD k r0), rK (ys.getD k r0), v)) := by
  intro j hj
  rw [List.length_set] at hj
  obtain ⟨⟨a0, a1, a2, a3⟩, ⟨f0, f1, f2, f3⟩⟩ := h j hj
  refine ⟨?_, ⟨by simpa using f0, by simpa using f1, by simpa using f2, by simpa using f3⟩⟩
  by_cases e : j = k
  · subst e
    have e2 : (ys.set j (rS (ys.getD j r0), rD (ys.getD j r0), rK (ys.getD j r0), v)).getD j r0 = (rS (ys.getD j r0), rD (ys.getD j r0), rK (ys.getD j r0), v) := by simp [List.getD_eq_getElem?_getD, hj]
    rw [e2]
    refine ⟨?_, ?_, ?_, World.cell?_setCell_same _ _ _ a3⟩
    · rw [World.cell?_setCell_other _ _ _ _ (by intro h; simp only [Addr.mk.injEq] at h; omega)]; exact a0
    · rw [World.cell?_setCell_other _ _ _ _ (by intro h; simp only [Addr.mk.injEq] at h; omega)]; exact a1
    · rw [World.cell?_setCell_other _ _ _ _ (by intro h; simp only [Addr.mk.injEq] at h; omega)]; exact a2
  · have e2 : (ys.set k (rS (ys.getD k r0), rD (ys.getD k r0), rK (ys.getD k r0), v)).getD j r0 = ys.getD j r0 := by
      have : k ≠ j := fun h => e h.symm
      simp [List.getD_eq_getElem?_getD, this]
    rw [e2]
    refine ⟨?_, ?_, ?_, ?_⟩
    · rw [World.cell?_setCell_other _ _ _ _ (by intro h; simp only [Addr.mk.injEq] at h; omega)]; exact a0
    · rw [World.cell?_setCell_other _ _ _ _ (by intro h; simp only [Addr.mk.injEq] at h; omega)]; exact a1
    · rw [World.cell?_setCell_other _ _ _ _ (by intro h; simp only [Addr.mk.injEq] at h; omega)]; exact a2
    · rw [World.cell?_setCell_other _ _ _ _ (by intro h; simp only [Addr.mk.injEq] at h; omega)]; exact a3
set_option maxRecDepth 100000 in
set_option maxHeartbeats 6400000 in
theorem walk_FnChainDamage (a0 : Option Addr) (len0 cap0 : Nat) (z0 : List Int) (a1 : Option Addr) (len1 cap1 : Nat) (z1 : List Int) (w : World) (w0 : IsRow .u8 w a0 len0 cap0 z0) (w1 : IsRow .u8 w a1 len1 cap1 z1) (T : TabsH w) :
    Calls Tryd.prog 6 #[.slice a0 len0 cap0, .slice a1 len1 cap1] w fun e w' => e = .returned (.bool true) ∧ Below w.heap.size w w' := by
  have HT := Lib.hid T
  clear T
  have ha := code_of_row w0
  obtain ⟨hl0, hm0⟩ := ha.1
  unfold maxLen at hm0
  clear w0
  have ha1 := code_of_row w1
  obtain ⟨hl1', hm1'⟩ := ha1.1
  unfold maxLen at hm1'
  clear w1 ha1
  by_cases h : len0 ≤ 1048576
  case' neg =>
    have hd : decide (1048576 < (len0 : Int)) = true := by simp; omega
    go_enter Tryd.func6, Tryd.ntmps6
    go_wp2
    go_ret
    exact ⟨rfl, Below.refl _ _⟩
  have hd : decide (1048576 < (len0 : Int)) = false := by simp; omega
  by_cases h1 : len1 ≤ 1048576
  case' neg =>
    have hd1 : decide (1048576 < (len1 : Int)) = true := by simp; omega
    go_enter Tryd.func6, Tryd.ntmps6
    go_wp2
    go_ret
    exact ⟨rfl, Below.refl _ _⟩
  have hd1 : decide (1048576 < (len1 : Int)) = false := by simp; omega
  go_enter Tryd.func6, Tryd.ntmps6
  obtain ⟨i0, hi, hz0, hz1, hz2⟩ := info_parts infoRep
  go_wp2_with fail
  refine (drawChainOf a0 len0 cap0 _ ha).mono ?_
  rintro e w1 ⟨gg, c, rs, rfl, hl, hcl, hF, k1⟩
  clear ha
  have hL1 := hF.rs
  have hz := chL_len (rs := rs)
  have HT1 := Lib.hid (HT.out.keep k1)
  go_wp2_with fail
  refine (ch_impl _ c rs _ hL1 (by omega) HT1.out.1).mono ?_
  rintro e w2 ⟨p, q, rfl, hq, hF2, k2⟩
  go_wp2_with fail
  refine (ch_spec _ c rs _ (hL1.keep k2) (by omega)).mono ?_
  rintro e w3 ⟨p3, q3, rfl, hq3, hF3, k3⟩
  have K3 : Keep w1 w3 := k2.trans k3
  have hO := hF2.ls.keep k3
  have hW := hF3.ls
  go_wp2_with fail
  refine (sI_same p p3 q q3 (chL rs) _ hO hW (by omega)).mono ?_
  rintro e w4 ⟨rfl, k4⟩
  go_wp2_with fail
  refine (sv_spec _ c rs _ ((hL1.keep K3).keep k4) (by omega)).mono ?_
  rintro e w5 ⟨rfl, k5⟩
  have K5 : Keep w1 w5 := (K3.trans k4).trans k5
  have KF := k1.trans K5
  have hO5 := (hO.keep k4).keep k5
  have hW5 := (hW.keep k4).keep k5
  have hL5 := Lib.hid (hL1.keep K5)
  have HT5 := Lib.hid (HT1.out.keep K5)
  clear hF hF2 hF3 k2 k3 k4 k5 hO hW hL1 K3 K5 k1 HT1
  rcases Bool.eq_false_or_eq_true (stB rs) with hs | hs
  case' inr =>
    rw [hs]
    clear hs
    generalize chL rs = L at *
    go_wp2_with fail
    refine (sI_same p p3 q q3 L _ hO5 hW5 (by omega)).mono ?_
    rintro e w7 ⟨rfl, k7⟩
    go_wp2
    go_ret
    exact ⟨rfl, KF.trans k7⟩
  have HSB := Lib.hid hs
  rw [hs]
  have HLn : Hid ((chL rs).length = rs.length) := Lib.hid (by rw [chL_yes hs, chP_len])
  by_cases h0 : rs.length = 0
  · have d0 : ((rs.length : Int) == 0) = true := by simp [h0]
    replace h0 := Lib.hid h0
    clear hs HLn HSB
    generalize chL rs = L at *
    go_wp2_with fail
    refine (sI_same p p3 q q3 L _ hO5 hW5 (by omega)).mono ?_
    rintro e w7 ⟨rfl, k7⟩
    go_wp2
    go_ret
    exact ⟨rfl, KF.trans k7⟩
  have d0 : ((rs.length : Int) == 0) = false := beq_eq_false_iff_ne.2 (by omega)
  have hpz : 0 < rs.length := by omega
  obtain ⟨u, hu⟩ : ∃ u : Nat, u = len1 % rs.length := ⟨_, rfl⟩
  have hu1 : u < rs.length := by rw [hu]; exact Nat.mod_lt len1 hpz
  have hmod : Int.tmod (len1 : Int) (rs.length : Int) = (u : Int) := by
    have h9 := Int.ofNat_tmod len1 rs.length
    rw [← hu] at h9
    exact h9.symm
  clear hu h0
  have hne2 : ¬ (rs.length : Int) = 0 := by omega
  have q0 : (0 : Int) ≤ (u : Int) := by omega
  have q1 : (u : Int) < (rs.length : Int) := by omega
  have HO5 := Lib.hid hO5
  have HCL : Hid (chL rs = chP rs rs.length) := Lib.hid (chL_yes hs)
  have hrb := rall_at (stB_facts hs).1 hu1
  clear hO5 hW5 hs
  have hown := World.ownsRow_made (base := w5.heap.size) (e := 32) (size := 4) w5 #[] 0 (Nat.le_refl _) (by unfold maxLen; omega) rfl
  have HR3 := hL5.out.alloc (.cells #[] 32)
  go_wp2_with (at_builtin; refine wpList_append_own _ rfl _ _ 23 rfl w5.heap.size 32 i0 (.agg #[.int .i64 0, .int .i64 0, .int .i64 0, .int .i64 0]) 4 32 Tryd.underlying23 hi hz0 hz1 hz2 rfl (by decide) _ _ _ rfl hown ⟨gg, 0, none⟩ rs.length c (flatR rs) rfl ?la ?ca ?ka ?ma ?ba ?sa ?_)
  case la => exact flatR_len rs
  case ca => exact news_rs HR3
  case ka => exact flat_one
  case ma => unfold maxLen; omega
  case ba => omega
  case sa => first | omega | (simp; try omega)
  intro v' w6 hown' hgrow hnil
  try rw [Nat.zero_add] at hown'
  try rw [List.nil_append] at hown'
  obtain ⟨g', c', rfl, hbg, hlg⟩ := hown'.form hpz
  have HW := Lib.hid (wrR_own hown' rfl)
  have K6 : Keep w5 w6 := (Below.grown ((Keep.refl w5).alloc (.cells #[] 32)) hgrow ((Keep.refl w5).alloc (.cells #[] 32)).size (fun q hq => (hown.lt q hq).1))
  clear hown' hgrow hnil hown HR3
  obtain ⟨⟨x0, x1, x2, x3⟩, ⟨y0, y1, y2, y3⟩⟩ := HW.out u hu1
  have HNS : Hid (∀ v, stB (rs.set u (rS (rs.getD u r0), rD (rs.getD u r0), rK (rs.getD u r0), v)) = rOk (rS (rs.getD u r0)) (rD (rs.getD u r0)) (rK (rs.getD u r0)) v) := Lib.hid (fun v => stB_set HSB.out hu1 _)
  have HWV := Lib.hid (fun v => wrR_setV HW.out hu1 v)
  have HGD : Hid (∀ r, (rs.set u r).getD u r0 = r) := Lib.hid (fun r => by simp [List.getD_eq_getElem?_getD, hu1])
  have hrok : rOk (rS (rs.getD u r0)) (rD (rs.getD u r0)) (rK (rs.getD u r0)) (rV (rs.getD u r0)) = true := hrb
  clear hrb
  generalize rS (rs.getD u r0) = s at *
  generalize rD (rs.getD u r0) = dd at *
  generalize rK (rs.getD u r0) = t at *
  generalize rV (rs.getD u r0) = v at *
  have hvb := rOk_bd hrok
  have hkl := fun W => kl_impl t W
  by_cases hv : v = kHi t
  · have dv : (v == kHi t) = true := beq_iff_eq.2 hv
    replace hv := Lib.hid hv
    generalize kLo t = lo at *
    generalize kHi t = hi' at *
    generalize kOk t = ok at *
    go_wp2_with fail
    refine (hkl _).mono ?_
    rintro e w7 ⟨rfl, rfl⟩
    go_wp2
    go_ret
    exact ⟨rfl, KF.trans K6⟩
  have dv : (v == kHi t) = false := beq_eq_false_iff_ne.2 hv
  have hst : stB (rs.set u (s, dd, t, v + 1)) = true := by
    rw [HNS.out]
    simp only [rOk, inB, Bool.and_eq_true, decide_eq_true_eq] at hrok ⊢
    refine ⟨hrok.1, ?_⟩
    omega
  obtain ⟨YS, hYS⟩ : ∃ YS, rs.set u (s, dd, t, v + 1) = YS := ⟨_, rfl⟩
  have HYL : Hid (YS.length = rs.length) := Lib.hid (by rw [← hYS]; simp)
  have HCY : Hid (chL YS = chP YS rs.length) := Lib.hid (by rw [← HYL.out]; exact chL_yes (by rw [← hYS]; exact hst))
  have HDAM : Hid ((chP rs rs.length).getD u 0 ≠ (chP YS rs.length).getD u 0 → ckV YS (chP rs rs.length) = (u : Int)) := Lib.hid (fun hd => by rw [← hYS] at hd ⊢; exact ck_set hst hu1 hd)
  have hwv := HWV.out (v + 1)
  rw [hYS] at hwv
  have hvw : IntKind.i64.wrap (v + 1) = v + 1 := IntWalk.i64_in _ (by omega)
  obtain ⟨W7, hW7⟩ : ∃ W7, W7 = w6.setCell ⟨g', u * 4 + 3, none⟩ (.int .i64 (v + 1)) := ⟨_, rfl⟩
  rw [← hW7] at hwv
  have K7 : Keep w5 W7 := by rw [hW7]; exact K6.setCell hbg _
  have HE7 := Lib.hid hW7
  have HCI := Lib.hid (ch_impl (some ⟨g', 0, none⟩) c' YS W7 hwv.rs (by rw [HYL.out]; omega) (HT5.out.keep K7).1)
  have HPL : Hid ((chP YS rs.length).length = rs.length) := Lib.hid (chP_len _ _)
  have HPL2 : Hid ((chP rs rs.length).length = rs.length) := Lib.hid (chP_len _ _)
  rw [HCY.out, HYL.out] at HCI
  rw [HCL.out] at HO5
  have HCK0 := Lib.hid (fun W (k : Keep W7 W) => ck_impl (some ⟨g', 0, none⟩) c' YS p q (chP rs rs.length) W (hwv.rs.keep k) (by rw [HYL.out]; omega) (HO5.out.keep (K7.trans k)) (by rw [HPL2.out]; omega) (HT5.out.keep (K7.trans k)))
  have HOP := Lib.hid (HO5.out.keep K7)
  rw [HYL.out, HPL2.out] at HCK0
  rw [HLn.out]
  have KW : Keep w W7 := KF.trans K7
  clear hst hYS hwv hW7 HNS HWV HGD hrok HCL HO5 HCY hv hvb
  generalize kLo t = lo at *
  generalize kHi t = hi' at *
  generalize kOk t = ok at *
  obtain ⟨Lp, hLp⟩ : ∃ Lp, chP rs rs.length = Lp := ⟨_, rfl⟩
  rw [hLp] at HDAM HCK0 HOP HPL2
  obtain ⟨Ly, hLy⟩ : ∃ Ly, chP YS rs.length = Ly := ⟨_, rfl⟩
  rw [hLy] at HDAM HCI HPL
  clear hLp hLy HSB HLn
  generalize ckV YS Lp = V at *
  have deq : ((Ly.length : Int) == (rs.length : Int)) = true := by have := HPL.out; simp; omega
  go_wp2_with fail
  refine (hkl _).mono ?_
  rintro e w7 ⟨rfl, rfl⟩
  go_wp2_with fail
  rw [← HE7.out]
  refine HCI.out.mono ?_
  rintro e w8 ⟨p8, q8, rfl, hq8, hF8, k8⟩
  obtain ⟨b1, o1, rfl, c1⟩ := ls_lenC hF8.ls (show u < Ly.length by rw [HPL.out]; exact hu1)
  obtain ⟨b2, o2, rfl, c2⟩ := ls_lenC (HOP.out.keep k8) (show u < Lp.length by rw [HPL2.out]; exact hu1)
  have HCK := Lib.hid (fun W (k : Keep w8 W) => HCK0.out W (k8.trans k))
  have u3 : (u : Int) < (Ly.length : Int) := by have := HPL.out; omega
  clear hF8 HCI HCK0 HOP x0 x1 x2 x3 y0 y1 y2 y3 hkl
  by_cases he : Ly.getD u 0 = Lp.getD u 0
  · have de : (Ly.getD u 0 == Lp.getD u 0) = true := beq_iff_eq.2 he
    rw [he] at c1 de
    clear he HDAM
    generalize Lp.getD u 0 = x at c1 c2 de
    go_wp2_with fail
    try go_quiet (fail)
    try go_wp2
    all_goals go_ret
    all_goals exact ⟨by first | rfl | exact retB (by simp), by first | exact (KW.trans k8).drewN _ | exact KW.trans k8⟩
  · have de : (Ly.getD u 0 == Lp.getD u 0) = false := beq_eq_false_iff_ne.2 he
    have HV : V = (u : Int) := HDAM.out (fun h => he h.symm)
    subst HV
    clear he HDAM
    generalize Lp.getD u 0 = x at c2 de
    generalize Ly.getD u 0 = y at c1 de
    go_wp2_with fail
    go_region_held3 (fun w' => Keep w8 w' ∧ w'.cell? ⟨b1, o1 + u, none⟩ = some (.int .i64 y) ∧ w'.cell? ⟨b2, o2 + u, none⟩ = some (.int .i64 x))
      ((go_split_ands; refine (fun hK => ⟨hK, hK.cell c1, hK.cell c2⟩ : Keep w8 _ → _) ?_; (repeat' (first | with_reducible assumption | with_reducible exact Keep.refl _ | with_reducible refine Keep.drew ?_ | with_reducible refine Keep.alloc ?_ _))))
      (first
        | (go_at_call 16; go_split_ands; refine (HCK.out _ (by (repeat' (first | with_reducible assumption | with_reducible exact Keep.refl _ | with_reducible refine Keep.drew ?_ | with_reducible refine Keep.alloc ?_ _)))).mono ?_; rintro e w' ⟨rfl, hk⟩; go_split_ands; have hK : Keep w8 w' := Keep.trans (by (repeat' (first | with_reducible assumption | with_reducible exact Keep.refl _ | with_reducible refine Keep.drew ?_ | with_reducible refine Keep.alloc ?_ _))) hk))
    all_goals
      go_wp2
      go_ret
      exact ⟨by first | rfl | exact retB (by simp), (KW.trans k8).trans hK⟩
end Go.Proofs.YtaggciojccoidaaDoor
