/- P79: earlier cuts come first. -/
import Derived.Test.YtpgdbhafdnfhcaaDrBe
import Derived.Test.YtpgdbhafdnfhcaaBi
import Derived.Test.YtpgdbhafdnfhcaaBp
import Derived.Test.YtpgdbhafdnfhcaaBl
import Derived.Test.YtpgdbhafdnfhcaaLw
import Derived.Test.YtpgdbhafdnfhcaaFr
import Derived.IntWalk
namespace Go.Proofs.Ytpgdbhafdnfhcaa
open Go.RowKit
set_option linter.unusedVariables false

set_option maxRecDepth 100000 in
set_option maxHeartbeats 6400000 in
theorem walk_FnBestOrder (a0 : Option Addr) (len0 cap0 : Nat) (z0 : List Int) (a1 : Option Addr) (len1 cap1 : Nat) (z1 : List Int) (w : World) (w0 : IsRow .u8 w a0 len0 cap0 z0) (w1 : IsRow .u8 w a1 len1 cap1 z1) :
    Calls Try.prog 7 #[.slice a0 len0 cap0, .slice a1 len1 cap1] w fun e w' => e = .returned (.bool true) ∧ Below w.heap.size w w' := by
  have ha := code_of_row w0
  obtain ⟨hl0, hm0⟩ := ha.1
  unfold maxLen at hm0
  clear w0
  have ha1 := code_of_row w1
  obtain ⟨hl1', hm1'⟩ := ha1.1
  unfold maxLen at hm1'
  clear w1 ha1
  by_cases h : len0 ≤ 1048576
  case' neg =>
    have hd : decide (1048576 < (len0 : Int)) = true := by simp; omega
    go_enter Try.func7, Try.ntmps7
    go_wp2
    go_ret
    exact ⟨rfl, Below.refl _ _⟩
  have hd : decide (1048576 < (len0 : Int)) = false := by simp; omega
  by_cases h1 : len1 ≤ 1048576
  case' neg =>
    have hd1 : decide (1048576 < (len1 : Int)) = true := by simp; omega
    go_enter Try.func7, Try.ntmps7
    go_wp2
    go_ret
    exact ⟨rfl, Below.refl _ _⟩
  have hd1 : decide (1048576 < (len1 : Int)) = false := by simp; omega
  go_enter Try.func7, Try.ntmps7
  obtain ⟨i0, hi, hz0, hz1, hz2⟩ := info_parts infoIntO
  go_wp2_with fail
  refine (drawCutsBest a0 len0 cap0 _ ha).mono ?_
  rintro e w1 ⟨a, ca, zs, price, rfl, ⟨hl11, hca⟩, hL1, ⟨hx0, hx1⟩, k1⟩
  clear ha
  go_wp2_with fail
  refine (cb_impl a ca zs price _ hL1 (by omega) hca).mono ?_
  rintro e w2 ⟨p, q, rfl, hq, hF2, k2⟩
  go_wp2_with fail
  refine (cb_spec a ca zs price _ (hL1.keep k2) (by omega) hca).mono ?_
  rintro e w3 ⟨p3, q3, rfl, hq3, hF3, k3⟩
  have K3 : Keep w1 w3 := k2.trans k3
  have hO := hF2.ls.keep k3
  have hW := hF3.ls
  have hL := hL1.keep K3
  have KF := k1.trans K3
  clear hF2 hF3 k2 k3 hL1 K3 k1
  rcases Bool.eq_false_or_eq_true (cbOk zs price) with hs | hs
  case' inr =>
    have hz : (cbL zs price).length ≤ 0 := Nat.le_of_eq (congrArg List.length (cbL_no hs))
    generalize cbL zs price = L at *
    rw [hs]
    clear hs
    go_wp2_with fail
    refine (sI_eq p p3 q q3 L _ hO hW (by omega)).mono ?_
    rintro e w5 ⟨rfl, k5⟩
    go_wp2_with fail
    refine (sI_eq p p3 q q3 L _ (hO.keep k5) (hW.keep k5) (by omega)).mono ?_
    rintro e w7 ⟨rfl, k7⟩
    go_wp2
    go_ret
    exact ⟨rfl, (KF.trans k5).trans k7⟩
  obtain ⟨c1, c2, ⟨c3, c4⟩, c5, c6⟩ := cb_cost hs
  have hpos : Hid (∀ k, k < (cbL zs price).length → ctB ((cbL zs price).set k ((cbL zs price).getD k 0 - 1)) zs.length = true → ccV zs (cbL zs price) price < ccV zs ((cbL zs price).set k ((cbL zs price).getD k 0 - 1)) price) := Lib.hid (fun k hk hv => cb_order hs hk hv)
  have HCV := Lib.hid (fun W (k : Keep w3 W) (x : Option Addr) (cx : Nat) (ys : List Int) (hx : Ls W x ys) (h7 : ys.length ≤ 7) => cv_impl x cx ys zs.length W hx (by omega))
  have HCC := Lib.hid (fun W (k : Keep w3 W) (x : Option Addr) (c : Nat) (ys : List Int) (hx : Ls W x ys) (h7 : ys.length ≤ 7) => cc_impl a x ca c zs ys price W (hL.keep k) hx hca (by omega) (by omega))
  have hgb : Hid (∀ x ∈ cbL zs price, 1 ≤ x ∧ x < 8) := Lib.hid (fun x hx => by have h1 := c6.2 x hx; obtain ⟨_, ⟨_, l8⟩, _⟩ := cbOk_facts hs; omega)
  rw [hs]
  clear hs c1 c2 c3 c4 c6 hL
  generalize cbL zs price = L at *
  by_cases h0 : L.length = 0
  · have d0 : ((L.length : Int) == 0) = true := by simp [h0]
    replace h0 := Lib.hid h0
    go_wp2_with fail
    refine (sI_eq p p3 q q3 L _ hO hW (by omega)).mono ?_
    rintro e w4 ⟨rfl, k4⟩
    go_wp2_with fail
    refine (sI_eq p p3 q q3 L _ (hO.keep k4) (hW.keep k4) (by omega)).mono ?_
    rintro e w7 ⟨rfl, k7⟩
    go_wp2
    go_ret
    exact ⟨rfl, (KF.trans k4).trans k7⟩
  have d0 : ((L.length : Int) == 0) = false := beq_eq_false_iff_ne.2 (by omega)
  have hpz : 0 < L.length := by omega
  obtain ⟨u, hu⟩ : ∃ u : Nat, u = len1 % L.length := ⟨_, rfl⟩
  have hu1 : u < L.length := by rw [hu]; exact Nat.mod_lt len1 (by omega)
  have hmod : Int.tmod (len1 : Int) (L.length : Int) = (u : Int) := by
    have h9 := Int.ofNat_tmod len1 L.length
    rw [← hu] at h9
    exact h9.symm
  clear hu
  have q0 : (0 : Int) ≤ (u : Int) := by omega
  have q1 : (u : Int) < (L.length : Int) := by omega
  have hne2 : ¬ (L.length : Int) = 0 := by omega
  have HP := Lib.hid (hpos.out u hu1)
  have hbu := hgb.out _ (getD_mem hu1)
  clear hpos h0 hgb
  go_wp2_with fail
  refine (sI_eq p p3 q q3 L _ hO hW (by omega)).mono ?_
  rintro e w4 ⟨rfl, k4⟩
  obtain ⟨b, off, rfl, hb, hc⟩ := (hO.keep k4).all hpz
  have HO4 := Lib.hid (hO.keep k4)
  have hown := World.ownsRow_made (base := w4.heap.size) (e := 3) (size := 1) w4 #[] 0 (Nat.le_refl _) (by unfold maxLen; omega) rfl
  go_wp2_with (at_builtin; refine wpList_append_own _ rfl _ _ 43 rfl w4.heap.size 3 i0 (.int .i64 0) 1 8 Try.underlying43 hi hz0 hz1 hz2 rfl (by decide) _ _ _ rfl hown ⟨b, off, none⟩ L.length q (L.map (Value.int .i64)) rfl ?la ?ca ?ka ?ma ?ba ?sa ?_)
  case la => first | done | (simp; done) | (simp; omega)
  case ca =>
    intro j u hj
    have hlt : j < L.length := by
      have := (List.getElem?_eq_some_iff.1 hj).1; simpa using this
    have h1 := (((Keep.refl w4).alloc (.cells #[] 3)).cell (hc j hlt))
    have hu : u = .int .i64 (L.getD j 0) := by
      simp [hlt] at hj; rw [← hj]; simp [List.getD_eq_getElem?_getD, hlt]
    subst hu
    by_cases h0 : j = 0
    · subst h0; simpa [Addr.add] using h1
    · simpa [Addr.add, h0] using h1
  case ka => first | (intro u hu; rfl) | (intro u hu; simp at hu; obtain ⟨x, hx, rfl⟩ := hu; rfl)
  case ma => unfold maxLen; omega
  case ba => omega
  case sa => first | omega | (simp; try omega)
  intro v' w5 hown' hgrow hnil
  try rw [Nat.zero_add] at hown'
  try rw [List.nil_append] at hown'
  obtain ⟨g, cc, rfl, hbg, hlg⟩ := hown'.form (by omega)
  obtain ⟨⟨_, hcc⟩, hwr, _, _⟩ := wr_ownL hown'
  have K5 : Keep w4 w5 := (Below.grown ((Keep.refl w4).alloc (.cells #[] 3)) hgrow ((Keep.refl w4).alloc (.cells #[] 3)).size (fun q hq => (hown.lt q hq).1) : Keep w4 w5)
  obtain ⟨cu, fu⟩ := hwr u hu1
  obtain ⟨y, hy⟩ : ∃ y, L.getD u 0 = y := ⟨_, rfl⟩
  rw [hy] at cu hbu HP
  have hyw : IntKind.i64.wrap (y - 1) = y - 1 := IntWalk.i64_in _ (by omega)
  have HWs : Hid (Wr (w5.setCell ⟨g, u, none⟩ (.int .i64 (y - 1))) g (L.set u (y - 1))) := Lib.hid (hwr.set hu1 (y - 1))
  have K6 : Keep w4 (w5.setCell ⟨g, u, none⟩ (.int .i64 (y - 1))) := K5.setCell hbg _
  have HYL : Hid ((L.set u (y - 1)).length = L.length) := Lib.hid (by simp)
  clear hown' hgrow hnil hown hwr hc hy
  generalize L.set u (y - 1) = ys at HP HWs HYL
  obtain ⟨W, hWd⟩ : ∃ W, W = w5.setCell ⟨g, u, none⟩ (.int .i64 (y - 1)) := ⟨_, rfl⟩
  rw [← hWd] at HWs K6
  have HWd := Lib.hid hWd
  clear hWd
  have HCV2 := Lib.hid (HCV.out W (k4.trans K6) (some ⟨g, 0, none⟩) cc ys HWs.out.ls (by rw [HYL.out]; omega))
  have HC1 := Lib.hid (fun W' (k : Keep W W') => HCC.out W' ((k4.trans K6).trans k) (some ⟨g, 0, none⟩) cc ys (HWs.out.ls.keep k) (by rw [HYL.out]; omega))
  have HC2 := Lib.hid (fun W' (k : Keep W W') => HCC.out W' ((k4.trans K6).trans k) (some ⟨b, off, none⟩) q L ((HO4.out.keep K6).keep k) (by omega))
  rw [HYL.out] at HCV2 HC1
  have KW : Keep w W := (KF.trans k4).trans K6
  rcases Bool.eq_false_or_eq_true (ctB ys zs.length) with hv | hv
  · have hgt := HP.out hv
    have dgt : decide (ccV zs L price < ccV zs ys price) = true := decide_eq_true hgt
    rw [hv] at HCV2
    clear hv HP hgt
    generalize ccV zs L price = n1 at *
    generalize ccV zs ys price = n2 at *
    go_wp2_with fail
    rw [← HWd.out]
    refine HCV2.out.mono ?_
    rintro e w7 ⟨rfl, rfl⟩
    go_wp2_with fail
    refine (HC1.out _ (Keep.refl _)).mono ?_
    rintro e w8 ⟨rfl, k8⟩
    go_wp2_with fail
    refine (HC2.out _ k8).mono ?_
    rintro e w9 ⟨rfl, k9⟩
    go_wp2
    go_ret
    exact ⟨rfl, (KW.trans k8).trans k9⟩
  · rw [hv] at HCV2
    go_wp2_with fail
    rw [← HWd.out]
    refine HCV2.out.mono ?_
    rintro e w7 ⟨rfl, rfl⟩
    go_wp2
    go_ret
    exact ⟨rfl, KW⟩
end Go.Proofs.Ytpgdbhafdnfhcaa
