/- P59: sites may be missing. -/
import Derived.Test.YtaghgapkjdkkfabDrSj
import Derived.Test.YtaghgapkjdkkfabSi
import Derived.Test.YtaghgapkjdkkfabFr
import Derived.IntWalk
import Derived.Deep.RegionLaw
namespace Go.Proofs.Ytaghgapkjdkkfab
open Go.RowKit
set_option linter.unusedVariables false

theorem si_sS {ts : List R3} (h : siB ts = true) {k : Nat} (hk : k + 1 < ts.length) : tS (ts.getD k t0) < tS (ts.getD (k + 1) t0) := by
  have := si_at h hk
  simp only [stp, Bool.and_eq_true, Bool.or_eq_true, decide_eq_true_eq, Nat.add_sub_cancel] at this
  rcases this.2 with h | h
  · omega
  · exact h
theorem part_at (ts : List R3) (u : Nat) (hu : u < ts.length) (i : Nat) : (ts.take u ++ ts.drop (u + 1)).getD i t0 = if i < u then ts.getD i t0 else ts.getD (i + 1) t0 := by
  have hl : (ts.take u).length = u := by rw [List.length_take]; omega
  by_cases h : i < u
  · rw [if_pos h, List.getD_eq_getElem?_getD, List.getElem?_append_left (by omega), List.getElem?_take_of_lt h, List.getD_eq_getElem?_getD]
  · rw [if_neg h, List.getD_eq_getElem?_getD, List.getElem?_append_right (by omega), hl, List.getElem?_drop, List.getD_eq_getElem?_getD, show u + 1 + (i - u) = i + 1 by omega]
theorem si_part {ts : List R3} {u : Nat} (h : siB ts = true) (hu : u < ts.length) : siB (ts.take u ++ ts.drop (u + 1)) = true := by
  have hl : (ts.take u ++ ts.drop (u + 1)).length = ts.length - 1 := by rw [List.length_append, List.length_take, List.length_drop]; omega
  have h6 := si_len h
  have hB : ∀ i, i < ts.length → tB (ts.getD i t0) = true := fun i hi => by
    have := si_at h hi
    simp only [stp, Bool.and_eq_true] at this
    exact this.1
  refine si_yes (fun i hi => ?_) (by omega)
  rw [hl] at hi
  unfold stp
  rw [part_at ts u hu, part_at ts u hu]
  have h1 : tB (if i < u then ts.getD i t0 else ts.getD (i + 1) t0) = true := by split <;> exact hB _ (by omega)
  rw [h1]
  simp only [Bool.true_and, Bool.or_eq_true, decide_eq_true_eq]
  by_cases h0 : i = 0
  · exact .inl h0
  · right
    obtain ⟨j, rfl⟩ : ∃ j, i = j + 1 := ⟨i - 1, by omega⟩
    rw [Nat.add_sub_cancel]
    by_cases c1 : j + 1 < u
    · rw [if_pos (by omega), if_pos c1]; exact si_sS h (by omega)
    · rw [if_neg c1]
      by_cases c2 : j < u
      · rw [if_pos c2]; exact Int.lt_trans (si_sS h (by omega)) (si_sS h (by omega))
      · rw [if_neg c2]; exact si_sS h (by omega)
theorem si_twice {ts : List R3} {u : Nat} (hu : u < ts.length) : siB (ts.take (u + 1) ++ ts.drop u) = false := by
  have hl : (ts.take (u + 1)).length = u + 1 := by rw [List.length_take]; omega
  refine si_no (k := u + 1) (by rw [List.length_append, hl, List.length_drop]; omega) ?_
  have e1 : (ts.take (u + 1) ++ ts.drop u).getD (u + 1) t0 = ts.getD u t0 := by
    rw [List.getD_eq_getElem?_getD, List.getElem?_append_right (by omega), hl, List.getElem?_drop, List.getD_eq_getElem?_getD, show u + (u + 1 - (u + 1)) = u by omega]
  have e2 : (ts.take (u + 1) ++ ts.drop u).getD u t0 = ts.getD u t0 := by
    rw [List.getD_eq_getElem?_getD, List.getElem?_append_left (by omega), List.getElem?_take_of_lt (by omega), List.getD_eq_getElem?_getD]
  rw [stp, Nat.add_sub_cancel, e1, e2]
  simp
theorem ss_drop {w : World} {g : Nat} {ts : List R3} (h : Ss w (some ⟨g, 0, none⟩) ts) (j : Nat) (hj : j ≤ ts.length) : Ss w (some ⟨g, j * 3, none⟩) (ts.drop j) := by
  rcases h with h | ⟨b, off, he, hb, hc⟩
  · subst h; left; simp
  · injection he with he
    injection he with h1 h2 _
    subst h1; subst h2
    refine .inr ⟨g, j * 3, rfl, hb, fun i hi => ?_⟩
    rw [List.length_drop] at hi
    have e : (ts.drop j).getD i t0 = ts.getD (j + i) t0 := by simp [List.getD_eq_getElem?_getD]
    rw [e, show j * 3 + i * 3 = 0 + (j + i) * 3 by omega]
    exact hc (j + i) (by omega)
theorem ownS_ss {w : World} {base n : Nat} {v : Value} {ts : List R3} (h : w.ownsRow base 30 3 v n (flatS ts)) (hn : n = ts.length) : ∃ a c, v = .slice a n c ∧ Ss w a ts := by
  subst hn
  obtain ⟨a, c, hv, _, hs⟩ := OwnS.slice (show OwnS w base v ts from h)
  exact ⟨a, c, hv, hs⟩
theorem step_app_own {P : Program} {w : World} {ops : Array Oper} {o : Oper} {a : Act} {K : Act → World → Prop} {Q : Exit → Act → World → Prop} {E : Prop} (hgd : o.guard = none) (s x : Operand) (t : TypeId)
    (ho : o.op = .call { callee := .builtin .append, args := #[s, x], argTypes := #[t, t] })
    (base : Nat) (e : TypeId) (i : TypeInfo) (z : Value) (size bytes : Nat) (ht : P.underlying t = some (.slice e)) (hi : P.info? e = some i) (hz : i.zero = some z)
    (hsize : i.size = size) (hby : i.bytes = bytes) (hzs : z.cells.size = size) (hsz : 0 < size)
    (v : Value) (n : Nat) (xs : List Value) (hs : a.eval s = v) (hown : w.ownsRow base e size v n xs)
    (ad : Addr) (m c : Nat) (news : List Value) (hx : a.eval x = .slice (some ad) m c) (hl : news.length = m * size) (hnews : ∀ j u, news[j]? = some u → w.cell? (ad.add j) = some u) (h1 : ∀ u ∈ news, u.oneCell' = true)
    (h63 : n + m ≤ maxLen) (hbytes : (n + m) * bytes ≤ 140737488355328) (hbase : base ≤ w.heap.size)
    (h : ∀ v' w', w'.ownsRow base e size v' (n + m) (xs ++ news) → w.grownBy w' v.ownBlock → K (a.put o.dst v') w') :
    if Region.wanted o (yielded ops a.tmps) = true then Oper.wp P o a w K Q else E := by
  have hw : Region.wanted o (yielded ops a.tmps) = true := by simp [Region.wanted, hgd]
  rw [if_pos hw]
  exact wp_append_own w s x t ho base e i z size bytes ht hi hz hsize hby hzs hsz v n xs hs hown ad m c news hx hl hnews h1 h63 hbytes hbase fun v' w' h2 h3 _ => h v' w' h2 h3
set_option maxRecDepth 100000 in
set_option maxHeartbeats 6400000 in
theorem walk_FnSitesPart (a0 : Option Addr) (len0 cap0 : Nat) (z0 : List Int) (a1 : Option Addr) (len1 cap1 : Nat) (z1 : List Int) (w : World) (w0 : IsRow .u8 w a0 len0 cap0 z0) (w1 : IsRow .u8 w a1 len1 cap1 z1) :
    Calls Try.prog 10 #[.slice a0 len0 cap0, .slice a1 len1 cap1] w fun e w' => e = .returned (.bool true) ∧ Below w.heap.size w w' := by
  have ha := code_of_row w0
  obtain ⟨hl0, hm0⟩ := ha.1
  unfold maxLen at hm0
  clear w0
  have ha1 := code_of_row w1
  obtain ⟨hl1', hm1'⟩ := ha1.1
  unfold maxLen at hm1'
  clear w1 ha1
  by_cases h : len0 ≤ 1048576
  case' neg =>
    have hd : decide (1048576 < (len0 : Int)) = true := by simp; omega
    go_enter Try.func10, Try.ntmps10
    go_wp2
    go_ret
    exact ⟨rfl, Below.refl _ _⟩
  have hd : decide (1048576 < (len0 : Int)) = false := by simp; omega
  by_cases h1 : len1 ≤ 1048576
  case' neg =>
    have hd1 : decide (1048576 < (len1 : Int)) = true := by simp; omega
    go_enter Try.func10, Try.ntmps10
    go_wp2
    go_ret
    exact ⟨rfl, Below.refl _ _⟩
  have hd1 : decide (1048576 < (len1 : Int)) = false := by simp; omega
  obtain ⟨i0, hi, hz0, hz1, hz2⟩ := info_parts infoSiteD
  go_enter Try.func10, Try.ntmps10
  go_wp2_with fail
  refine (drawSitesValid a0 len0 cap0 _ ha).mono ?_
  rintro e wd ⟨g, c, ts, rfl, hl, hcl, hL, kd⟩
  clear ha
  have HI := Lib.hid (fun W (k : Keep wd W) => si_impl (some ⟨g, 0, none⟩) c ts W (hL.keep k) (by omega))
  have HJ := Lib.hid (fun W (k : Keep wd W) => si_spec (some ⟨g, 0, none⟩) c ts W (hL.keep k) (by omega))
  rcases Bool.eq_false_or_eq_true (siB ts) with hs | hs
  case' inr =>
    rw [hs] at HI HJ
    clear hs
    go_wp2_with fail
    refine (HI.out _ (Keep.refl _)).mono ?_
    rintro e w2 ⟨rfl, k2⟩
    go_wp2_with fail
    refine (HJ.out _ k2).mono ?_
    rintro e w3 ⟨rfl, k3⟩
    go_wp2
    go_ret
    exact ⟨rfl, (kd.trans k2).trans k3⟩
  have HS := Lib.hid hs
  rw [hs] at HI HJ
  clear hs
  go_wp2_with fail
  refine (HI.out _ (Keep.refl _)).mono ?_
  rintro e w2 ⟨rfl, k2⟩
  go_wp2_with fail
  refine (HJ.out _ k2).mono ?_
  rintro e w4 ⟨rfl, k3⟩
  have K4 : Keep w w4 := (kd.trans k2).trans k3
  have hL4 := (hL.keep k2).keep k3
  clear hL kd k2 k3 HI HJ
  by_cases hn : ts.length = 0
  · have hne : ((ts.length : Int) == 0) = true := beq_iff_eq.2 (by omega)
    replace hn := Lib.hid hn
    go_wp2
    go_ret
    exact ⟨rfl, K4⟩
  have hne : ((ts.length : Int) == 0) = false := beq_eq_false_iff_ne.2 (by omega)
  have hne2 : ¬ (ts.length : Int) = 0 := by omega
  obtain ⟨u, hu⟩ : ∃ u : Nat, u = len1 % ts.length := ⟨_, rfl⟩
  have hu1 : u < ts.length := by rw [hu]; exact Nat.mod_lt len1 (by omega)
  have hmod : Int.tmod (len1 : Int) (ts.length : Int) = (u : Int) := by
    have h9 := Int.ofNat_tmod len1 ts.length
    rw [← hu] at h9
    exact h9.symm
  clear hu hn
  have hwr : IntKind.i64.wrap ((u : Int) + 1) = (u : Int) + 1 := IntWalk.i64_in _ ⟨by omega, by omega⟩
  have q0 : (0 : Int) ≤ (u : Int) := by omega
  have q1 : (u : Int) ≤ (c : Int) := by omega
  have q2 : (0 : Int) ≤ (u : Int) + 1 := by omega
  have q3 : (u : Int) + 1 ≤ (ts.length : Int) := by omega
  have q4 : (u : Int) < (ts.length : Int) := by omega
  have q5 : (u : Int) ≤ (u : Int) + 1 := by omega
  have q6 : (u : Int) + 1 ≤ (c : Int) := by omega
  have q7 : (u : Int) ≤ (ts.length : Int) := by omega
  have qcu : ¬ c = u := by omega
  have HT := Lib.hid (hL4.take u)
  have HTl : Hid ((ts.take u).length = u) := Lib.hid (by rw [List.length_take]; omega)
  have HT1 := Lib.hid (hL4.take (u + 1))
  have HT1l : Hid ((ts.take (u + 1)).length = u + 1) := Lib.hid (by rw [List.length_take]; omega)
  have HD0 := Lib.hid (ss_drop hL4 u (by omega))
  have HD0l : Hid ((ts.drop u).length = ts.length - u) := Lib.hid (by rw [List.length_drop])
  have HDl : Hid ((ts.drop (u + 1)).length = ts.length - (u + 1)) := Lib.hid (by rw [List.length_drop])
  have HX : Hid (siB (ts.take u ++ ts.drop (u + 1)) = true) := Lib.hid (si_part HS.out hu1)
  have HXl : Hid ((ts.take u ++ ts.drop (u + 1)).length = u + (ts.length - (u + 1))) := Lib.hid (by rw [List.length_append, HTl.out, HDl.out])
  have HY : Hid (siB (ts.take (u + 1) ++ ts.drop u) = false) := Lib.hid (si_twice hu1)
  have HYl : Hid ((ts.take (u + 1) ++ ts.drop u).length = (u + 1) + (ts.length - u)) := Lib.hid (by rw [List.length_append, HT1l.out, HD0l.out])
  by_cases hcu : c = u + 1
  · subst hcu
    have HD : Hid (Ss w4 (some ⟨g, 0, none⟩) (ts.drop (u + 1))) := Lib.hid (.inl (List.eq_nil_of_length_eq_zero (by rw [HDl.out]; omega)))
    go_wp2_with fail
    go_region_law (first
      | (refine step_app_own rfl _ _ _ rfl w4.heap.size 30 i0 _ 3 24 Try.underlying23 hi hz0 hz1 hz2 rfl (by decide) (.slice (some ⟨w4.heap.size, 0, none⟩) 0 0) 0 [] rfl (World.ownsRow_made (base := w4.heap.size) (e := 30) (size := 3) w4.drew #[] 0 (Keep.refl w4).drew.size (by unfold maxLen; omega) rfl) ⟨g, 0, none⟩ u _ (flatS (ts.take u)) rfl ((flatS_len _).trans (by rw [HTl.out])) (news_ss (HT.out.keep ((Keep.refl w4).drew.alloc (.cells #[] 30)))) flatS_cells (by unfold maxLen; omega) (by omega) ((Keep.refl w4).drew.alloc (.cells #[] 30)).size ?_
         intro v1 wN hown1 hgrow1
         have hKN : Keep w4 wN := Below.grown ((Keep.refl w4).drew.alloc (.cells #[] 30)) hgrow1 ((Keep.refl w4).drew.alloc (.cells #[] 30)).size (fun q hq => ((World.ownsRow_made (base := w4.heap.size) (e := 30) (size := 3) w4.drew #[] 0 (Keep.refl w4).drew.size (by unfold maxLen; omega) rfl).lt q hq).1)
         have ho : wN.ownsRow w4.heap.size 30 3 v1 u (flatS (ts.take u)) := by simpa using hown1
         clear hown1 hgrow1)
      | (refine step_app_own rfl _ _ _ rfl w4.heap.size 30 i0 _ 3 24 Try.underlying23 hi hz0 hz1 hz2 rfl (by decide) _ u (flatS (ts.take u)) rfl ho ⟨g, 0, none⟩ 0 _ (flatS (ts.drop (u + 1))) rfl ((flatS_len _).trans (by rw [HDl.out]; try omega)) (news_ss (HD.out.keep hKN)) flatS_cells (by unfold maxLen; omega) (by omega) hKN.size ?_
         intro v2 wF hown2 hgrow2
         have HFKx : Hid (Keep w4 wF) := Lib.hid (Below.grown hKN hgrow2 hKN.size (fun q hq => (ho.lt q hq).1))
         have HFOx : Hid (wF.ownsRow w4.heap.size 30 3 v2 (u + (ts.length - (u + 1))) (flatS (ts.take u ++ ts.drop (u + 1)))) := Lib.hid (by rw [flatS_app, show u + (ts.length - (u + 1)) = u + 0 by omega]; exact hown2)
         clear hown2 hgrow2))
    all_goals
      obtain ⟨ax, cx, rfl, hRX⟩ := ownS_ss HFOx.out HXl.out.symm
      have hL5 := hL4.keep HFKx.out
      have K5 : Keep w wF := K4.trans HFKx.out
      have HT5 := Lib.hid (HT1.out.keep HFKx.out)
      have HD5 := Lib.hid (HD0.out.keep HFKx.out)
      have HRX := Lib.hid hRX
      clear HFOx HFKx hRX
      go_wp2_with fail
      go_region_law (first
        | (refine step_app_own rfl _ _ _ rfl wF.heap.size 30 i0 _ 3 24 Try.underlying23 hi hz0 hz1 hz2 rfl (by decide) (.slice (some ⟨wF.heap.size, 0, none⟩) 0 0) 0 [] rfl (World.ownsRow_made (base := wF.heap.size) (e := 30) (size := 3) wF.drew #[] 0 (Keep.refl wF).drew.size (by unfold maxLen; omega) rfl) ⟨g, 0, none⟩ (u + 1) _ (flatS (ts.take (u + 1))) rfl ((flatS_len _).trans (by rw [HT1l.out])) (news_ss (HT5.out.keep ((Keep.refl wF).drew.alloc (.cells #[] 30)))) flatS_cells (by unfold maxLen; omega) (by omega) ((Keep.refl wF).drew.alloc (.cells #[] 30)).size ?_
           intro v1 wN hown1 hgrow1
           have hKN : Keep wF wN := Below.grown ((Keep.refl wF).drew.alloc (.cells #[] 30)) hgrow1 ((Keep.refl wF).drew.alloc (.cells #[] 30)).size (fun q hq => ((World.ownsRow_made (base := wF.heap.size) (e := 30) (size := 3) wF.drew #[] 0 (Keep.refl wF).drew.size (by unfold maxLen; omega) rfl).lt q hq).1)
           have ho : wN.ownsRow wF.heap.size 30 3 v1 (u + 1) (flatS (ts.take (u + 1))) := by simpa using hown1
           clear hown1 hgrow1)
        | (refine step_app_own rfl _ _ _ rfl wF.heap.size 30 i0 _ 3 24 Try.underlying23 hi hz0 hz1 hz2 rfl (by decide) _ (u + 1) (flatS (ts.take (u + 1))) rfl ho ⟨g, u * 3, none⟩ (ts.length - u) _ (flatS (ts.drop u)) rfl ((flatS_len _).trans (by rw [HD0l.out]; try omega)) (news_ss (HD5.out.keep hKN)) flatS_cells (by unfold maxLen; omega) (by omega) hKN.size ?_
           intro v2 wG hown2 hgrow2
           have HFKy : Hid (Keep wF wG) := Lib.hid (Below.grown hKN hgrow2 hKN.size (fun q hq => (ho.lt q hq).1))
           have HFOy : Hid (wG.ownsRow wF.heap.size 30 3 v2 ((u + 1) + (ts.length - u)) (flatS (ts.take (u + 1) ++ ts.drop u))) := Lib.hid (by rw [flatS_app, show (u + 1) + (ts.length - u) = (u + 1) + (ts.length - u) by omega]; exact hown2)
           clear hown2 hgrow2))
      all_goals
        clear hwr hmod q0 q1 q2 q3 q4 q5 q6 q7 hne hne2
        obtain ⟨ay, cy, rfl, hRY⟩ := ownS_ss HFOy.out HYl.out.symm
        have HS1 := Lib.hid (si_impl ax cx _ wG (HRX.out.keep HFKy.out) (by rw [HXl.out]; omega))
        rw [HX.out, HXl.out] at HS1
        try rw [show u + (ts.length - (u + 1)) = u by omega] at HS1
        have k9 := HFKy.out
        go_wp2_with fail
        refine HS1.out.mono ?_
        rintro e w9 ⟨rfl, k10⟩
        have HS2 := Lib.hid (si_impl ay cy _ w9 (hRY.keep k10) (by rw [HYl.out]; omega))
        rw [HY.out, HYl.out] at HS2
        go_wp2_with fail
        refine HS2.out.mono ?_
        rintro e w10 ⟨rfl, k11⟩
        go_wp2
        go_ret
        exact ⟨rfl, ((K5.trans k9).trans k10).trans k11⟩
  · have HD := Lib.hid (ss_drop hL4 (u + 1) (by omega))
    go_wp2_with fail
    go_region_law (first
      | (refine step_app_own rfl _ _ _ rfl w4.heap.size 30 i0 _ 3 24 Try.underlying23 hi hz0 hz1 hz2 rfl (by decide) (.slice (some ⟨w4.heap.size, 0, none⟩) 0 0) 0 [] rfl (World.ownsRow_made (base := w4.heap.size) (e := 30) (size := 3) w4.drew #[] 0 (Keep.refl w4).drew.size (by unfold maxLen; omega) rfl) ⟨g, 0, none⟩ u _ (flatS (ts.take u)) rfl ((flatS_len _).trans (by rw [HTl.out])) (news_ss (HT.out.keep ((Keep.refl w4).drew.alloc (.cells #[] 30)))) flatS_cells (by unfold maxLen; omega) (by omega) ((Keep.refl w4).drew.alloc (.cells #[] 30)).size ?_
         intro v1 wN hown1 hgrow1
         have hKN : Keep w4 wN := Below.grown ((Keep.refl w4).drew.alloc (.cells #[] 30)) hgrow1 ((Keep.refl w4).drew.alloc (.cells #[] 30)).size (fun q hq => ((World.ownsRow_made (base := w4.heap.size) (e := 30) (size := 3) w4.drew #[] 0 (Keep.refl w4).drew.size (by unfold maxLen; omega) rfl).lt q hq).1)
         have ho : wN.ownsRow w4.heap.size 30 3 v1 u (flatS (ts.take u)) := by simpa using hown1
         clear hown1 hgrow1)
      | (refine step_app_own rfl _ _ _ rfl w4.heap.size 30 i0 _ 3 24 Try.underlying23 hi hz0 hz1 hz2 rfl (by decide) _ u (flatS (ts.take u)) rfl ho ⟨g, (u + 1) * 3, none⟩ (ts.length - (u + 1)) _ (flatS (ts.drop (u + 1))) rfl ((flatS_len _).trans (by rw [HDl.out]; try omega)) (news_ss (HD.out.keep hKN)) flatS_cells (by unfold maxLen; omega) (by omega) hKN.size ?_
         intro v2 wF hown2 hgrow2
         have HFKx : Hid (Keep w4 wF) := Lib.hid (Below.grown hKN hgrow2 hKN.size (fun q hq => (ho.lt q hq).1))
         have HFOx : Hid (wF.ownsRow w4.heap.size 30 3 v2 (u + (ts.length - (u + 1))) (flatS (ts.take u ++ ts.drop (u + 1)))) := Lib.hid (by rw [flatS_app, show u + (ts.length - (u + 1)) = u + (ts.length - (u + 1)) by omega]; exact hown2)
         clear hown2 hgrow2))
    all_goals
      obtain ⟨ax, cx, rfl, hRX⟩ := ownS_ss HFOx.out HXl.out.symm
      have hL5 := hL4.keep HFKx.out
      have K5 : Keep w wF := K4.trans HFKx.out
      have HT5 := Lib.hid (HT1.out.keep HFKx.out)
      have HD5 := Lib.hid (HD0.out.keep HFKx.out)
      have HRX := Lib.hid hRX
      clear HFOx HFKx hRX
      go_wp2_with fail
      go_region_law (first
        | (refine step_app_own rfl _ _ _ rfl wF.heap.size 30 i0 _ 3 24 Try.underlying23 hi hz0 hz1 hz2 rfl (by decide) (.slice (some ⟨wF.heap.size, 0, none⟩) 0 0) 0 [] rfl (World.ownsRow_made (base := wF.heap.size) (e := 30) (size := 3) wF.drew #[] 0 (Keep.refl wF).drew.size (by unfold maxLen; omega) rfl) ⟨g, 0, none⟩ (u + 1) _ (flatS (ts.take (u + 1))) rfl ((flatS_len _).trans (by rw [HT1l.out])) (news_ss (HT5.out.keep ((Keep.refl wF).drew.alloc (.cells #[] 30)))) flatS_cells (by unfold maxLen; omega) (by omega) ((Keep.refl wF).drew.alloc (.cells #[] 30)).size ?_
           intro v1 wN hown1 hgrow1
           have hKN : Keep wF wN := Below.grown ((Keep.refl wF).drew.alloc (.cells #[] 30)) hgrow1 ((Keep.refl wF).drew.alloc (.cells #[] 30)).size (fun q hq => ((World.ownsRow_made (base := wF.heap.size) (e := 30) (size := 3) wF.drew #[] 0 (Keep.refl wF).drew.size (by unfold maxLen; omega) rfl).lt q hq).1)
           have ho : wN.ownsRow wF.heap.size 30 3 v1 (u + 1) (flatS (ts.take (u + 1))) := by simpa using hown1
           clear hown1 hgrow1)
        | (refine step_app_own rfl _ _ _ rfl wF.heap.size 30 i0 _ 3 24 Try.underlying23 hi hz0 hz1 hz2 rfl (by decide) _ (u + 1) (flatS (ts.take (u + 1))) rfl ho ⟨g, u * 3, none⟩ (ts.length - u) _ (flatS (ts.drop u)) rfl ((flatS_len _).trans (by rw [HD0l.out]; try omega)) (news_ss (HD5.out.keep hKN)) flatS_cells (by unfold maxLen; omega) (by omega) hKN.size ?_
           intro v2 wG hown2 hgrow2
           have HFKy : Hid (Keep wF wG) := Lib.hid (Below.grown hKN hgrow2 hKN.size (fun q hq => (ho.lt q hq).1))
           have HFOy : Hid (wG.ownsRow wF.heap.size 30 3 v2 ((u + 1) + (ts.length - u)) (flatS (ts.take (u + 1) ++ ts.drop u))) := Lib.hid (by rw [flatS_app, show (u + 1) + (ts.length - u) = (u + 1) + (ts.length - u) by omega]; exact hown2)
           clear hown2 hgrow2))
      all_goals
        clear hwr hmod q0 q1 q2 q3 q4 q5 q6 q7 hne hne2
        obtain ⟨ay, cy, rfl, hRY⟩ := ownS_ss HFOy.out HYl.out.symm
        have HS1 := Lib.hid (si_impl ax cx _ wG (HRX.out.keep HFKy.out) (by rw [HXl.out]; omega))
        rw [HX.out, HXl.out] at HS1
        skip
        have k9 := HFKy.out
        go_wp2_with fail
        refine HS1.out.mono ?_
        rintro e w9 ⟨rfl, k10⟩
        have HS2 := Lib.hid (si_impl ay cy _ w9 (hRY.keep k10) (by rw [HYl.out]; omega))
        rw [HY.out, HYl.out] at HS2
        go_wp2_with fail
        refine HS2.out.mono ?_
        rintro e w10 ⟨rfl, k11⟩
        go_wp2
        go_ret
        exact ⟨rfl, ((K5.trans k9).trans k10).trans k11⟩
end Go.Proofs.Ytaghgapkjdkkfab
