/- P41: reports may be missing. -/
import Derived.Test.YtkapnbfjpglblabDrSa
import Derived.Test.YtkapnbfjpglblabFr
import Derived.IntWalk
import Derived.Deep.RegionLaw
namespace Go.Proofs.Ytkapnbfjpglblab
open Go.RowKit
set_option linter.unusedVariables false

theorem infoRepP : (Try.prog.info? 25).map (fun i => (i.zero, i.size, i.bytes)) = some (some (.agg #[.int .i64 0, .int .i64 0, .int .i64 0, .int .i64 0]), 4, 32) := by kernel_rfl
theorem rs_drop {w : World} {g : Nat} {rs : List R4} (h : Rs w (some ⟨g, 0, none⟩) rs) (j : Nat) (hj : j ≤ rs.length) : Rs w (some ⟨g, j * 4, none⟩) (rs.drop j) := by
  rcases h with h | ⟨b, off, he, hb, h⟩
  · subst h; exact .inl (by simp)
  · injection he with he
    injection he with h1 h2 _
    subst h1
    subst h2
    refine .inr ⟨g, j * 4, rfl, hb, fun i hi => ?_⟩
    rw [List.length_drop] at hi
    have h3 := h (j + i) (by omega)
    have e : (rs.drop j).getD i r0 = rs.getD (j + i) r0 := by simp [List.getD_eq_getElem?_getD]
    rw [e]
    have e2 : j * 4 + i * 4 = 0 + (j + i) * 4 := by omega
    rw [e2]; exact h3
theorem wrR_kind {w : World} {g j : Nat} {rs : List R4} (h : WrR w g rs) (hj : j < rs.length) :
    WrR (w.setCell ⟨g, j * 4 + 2, none⟩ (.int .i64 0)) g (rs.set j (rS (rs.getD j r0), rD (rs.getD j r0), 0, rV (rs.getD j r0))) := by
  intro i hi
  rw [List.length_set] at hi
  obtain ⟨h1, h2⟩ := h i hi
  refine ⟨?_, ⟨by rw [World.frozen?_setCell]; exact h2.f0, by rw [World.frozen?_setCell]; exact h2.f1, by rw [World.frozen?_setCell]; exact h2.f2, by rw [World.frozen?_setCell]; exact h2.f3⟩⟩
  by_cases e : i = j
  · subst e
    have e2 : (rs.set i (rS (rs.getD i r0), rD (rs.getD i r0), 0, rV (rs.getD i r0))).getD i r0 = (rS (rs.getD i r0), rD (rs.getD i r0), 0, rV (rs.getD i r0)) := by simp [List.getD_eq_getElem?_getD, hj]
    rw [e2]
    exact ⟨(World.cell?_setCell_other _ _ _ _ (by simp)).trans h1.s, (World.cell?_setCell_other _ _ _ _ (by simp)).trans h1.d, World.cell?_setCell_same _ _ _ h1.k, (World.cell?_setCell_other _ _ _ _ (by simp)).trans h1.v⟩
  · have e2 : (rs.set j (rS (rs.getD j r0), rD (rs.getD j r0), 0, rV (rs.getD j r0))).getD i r0 = rs.getD i r0 := by
      have e3 : j ≠ i := fun h => e h.symm
      simp [List.getD_eq_getElem?_getD, e3]
    rw [e2]
    exact ⟨(World.cell?_setCell_other _ _ _ _ (by intro h; simp only [Addr.mk.injEq] at h; omega)).trans h1.s, (World.cell?_setCell_other _ _ _ _ (by intro h; simp only [Addr.mk.injEq] at h; omega)).trans h1.d, (World.cell?_setCell_other _ _ _ _ (by intro h; simp only [Addr.mk.injEq] at h; omega)).trans h1.k, (World.cell?_setCell_other _ _ _ _ (by intro h; simp only [Addr.mk.injEq] at h; omega)).trans h1.v⟩
theorem own_rs {w : World} {base n : Nat} {v : Value} {ys : List R4} (h : w.ownsRow base 25 4 v n (flatR ys)) (hn : n = ys.length) : ∃ a c, v = .slice a n c ∧ Rs w a ys := by
  have h0 := h
  rcases h.2 with ⟨rfl, rfl⟩ | ⟨g, cap, cur, rfl, _⟩
  · exact ⟨none, 0, rfl, .inl (List.eq_nil_of_length_eq_zero hn.symm)⟩
  · exact ⟨_, cap, rfl, (wrR_own h0 hn).rs⟩
theorem app_own_p {P : Program} {w : World} {ops : Array Oper} {rest : List Oper} {o : Oper} {a : Act} {Q : Exit → Act → World → Prop} (hw : Region.wanted o (yielded ops a.tmps) = true) (s x : Operand) (t : TypeId)
    (ho : o.op = .call { callee := .builtin .append, args := #[s, x], argTypes := #[t, t] })
    (base : Nat) (e : TypeId) (i : TypeInfo) (z : Value) (size bytes : Nat) (ht : P.underlying t = some (.slice e)) (hi : P.info? e = some i) (hz : i.zero = some z)
    (hsize : i.size = size) (hby : i.bytes = bytes) (hzs : z.cells.size = size) (hsz : 0 < size)
    (v : Value) (n : Nat) (xs : List Value) (hs : a.eval s = v) (hown : w.ownsRow base e size v n xs)
    (ad : Addr) (m c : Nat) (news : List Value) (hx : a.eval x = .slice (some ad) m c) (hl : news.length = m * size) (hnews : ∀ j u, news[j]? = some u → w.cell? (ad.add j) = some u) (h1 : ∀ u ∈ news, u.oneCell' = true)
    (h63 : n + m ≤ maxLen) (hbytes : (n + m) * bytes ≤ 140737488355328) (hbase : base ≤ w.heap.size)
    (h : ∀ v' w', w'.ownsRow base e size v' (n + m) (xs ++ news) → w.grownBy w' v.ownBlock → wpList P ops Q rest (a.put o.dst v') w') : wpList P ops Q (o :: rest) a w :=
  wpList_step fun K hK => by
    rw [if_pos hw]
    exact wp_append_own w s x t ho base e i z size bytes ht hi hz hsize hby hzs hsz v n xs hs hown ad m c news hx hl hnews h1 h63 hbytes hbase fun v' w' h2 h3 _ => hK _ _ (h v' w' h2 h3)
theorem stB_part {rs : List R4} {u : Nat} (h : stB rs = true) : stB (rs.take u ++ rs.drop (u + 1)) = true := by
  obtain ⟨h1, h2⟩ := stB_facts h
  refine stB_yes ?_ (by simp; omega)
  rw [List.all_eq_true] at h1 ⊢
  intro r hr
  rw [List.mem_append] at hr
  rcases hr with hr | hr
  · exact h1 r (List.mem_of_mem_take hr)
  · exact h1 r (List.mem_of_mem_drop hr)
theorem stB_kind {rs : List R4} {u : Nat} (hu : u < rs.length) (s d v : Int) : stB (rs.set u (s, d, 0, v)) = false := by
  refine stB_bad ?_
  refine rall_not _ _ u (by simpa using hu) ?_
  have e : (rs.set u (s, d, 0, v)).getD u r0 = (s, d, 0, v) := by simp [List.getD_eq_getElem?_getD, hu]
  rw [e]
  simp [rB, rOk, rK, kOk]

set_option maxRecDepth 100000 in
set_option maxHeartbeats 3200000 in
theorem walk_FnStorePart (a0 : Option Addr) (len0 cap0 : Nat) (z0 : List Int) (a1 : Option Addr) (len1 cap1 : Nat) (z1 : List Int) (w : World) (w0 : IsRow .u8 w a0 len0 cap0 z0) (w1 : IsRow .u8 w a1 len1 cap1 z1) :
    Calls Try.prog 10 #[.slice a0 len0 cap0, .slice a1 len1 cap1] w fun e w' => e = .returned (.bool true) ∧ Below w.heap.size w w' := by
  have ha := code_of_row w0
  obtain ⟨hl0, hm0⟩ := ha.1
  unfold maxLen at hm0
  clear w0
  have ha1 := code_of_row w1
  obtain ⟨hl1, hm1⟩ := ha1.1
  unfold maxLen at hm1
  clear w1 ha1
  by_cases h : len0 ≤ 1048576
  case' neg =>
    have hd : decide (1048576 < (len0 : Int)) = true := by simp; omega
    go_enter Try.func10, Try.ntmps10
    go_wp2
    go_ret
    exact ⟨rfl, Below.refl _ _⟩
  have hd : decide (1048576 < (len0 : Int)) = false := by simp; omega
  by_cases h1 : len1 ≤ 1048576
  case' neg =>
    have hd1 : decide (1048576 < (len1 : Int)) = true := by simp; omega
    go_enter Try.func10, Try.ntmps10
    go_wp2
    go_ret
    exact ⟨rfl, Below.refl _ _⟩
  have hd1 : decide (1048576 < (len1 : Int)) = false := by simp; omega
  obtain ⟨i0, hi, hz0, hz1, hz2⟩ := info_parts infoRepP
  go_enter Try.func10, Try.ntmps10
  go_wp2_with fail
  refine (drawStoreValid a0 len0 cap0 _ ha).mono ?_
  rintro e wd ⟨g, c, rs, rfl, hl, hcl, hF, kd⟩
  have hL := hF.rs
  clear ha hF
  rcases Bool.eq_false_or_eq_true (stB rs) with hs | hs
  case' inr =>
    replace hs := Lib.hid hs
    go_wp2_with fail
    refine (sv_impl _ c rs _ hL (by omega)).mono ?_
    rintro e w2 ⟨he, k2⟩
    rw [hs.out] at he
    subst he
    go_wp2_with fail
    refine (sv_spec _ c rs _ (hL.keep k2) (by omega)).mono ?_
    rintro e w3 ⟨he, k3⟩
    rw [hs.out] at he
    subst he
    go_wp2
    go_ret
    exact ⟨rfl, (kd.trans k2).trans k3⟩
  replace hs := Lib.hid hs
  go_wp2_with fail
  refine (sv_impl _ c rs _ hL (by omega)).mono ?_
  rintro e w2 ⟨he, k2⟩
  rw [hs.out] at he
  subst he
  go_wp2_with fail
  refine (sv_spec _ c rs _ (hL.keep k2) (by omega)).mono ?_
  rintro e w4 ⟨he, k3⟩
  rw [hs.out] at he
  subst he
  have K4 : Keep w w4 := (kd.trans k2).trans k3
  have hL4 := (hL.keep k2).keep k3
  clear hL kd k2 k3
  by_cases hn : rs.length = 0
  · have hne : ((rs.length : Int) == 0) = true := by simp; exact List.eq_nil_of_length_eq_zero hn
    replace hn := Lib.hid hn
    go_wp2
    go_ret
    exact ⟨rfl, K4⟩
  have hne : ((rs.length : Int) == 0) = false := by simp; intro h9; rw [h9] at hn; exact hn rfl
  have hne2 : ¬ (rs.length : Int) = 0 := by omega
  obtain ⟨u, hu⟩ : ∃ u : Nat, u = len1 % rs.length := ⟨_, rfl⟩
  have hu1 : u < rs.length := by rw [hu]; exact Nat.mod_lt len1 (by omega)
  have hmod : Int.tmod (len1 : Int) (rs.length : Int) = (u : Int) := by
    have h9 := Int.ofNat_tmod len1 rs.length
    rw [← hu] at h9
    exact h9.symm
  clear hu hn
  have hwr : IntKind.i64.wrap ((u : Int) + 1) = (u : Int) + 1 := IntWalk.i64_in _ ⟨by omega, by omega⟩
  have q0 : (0 : Int) ≤ (u : Int) := by omega
  have q1 : (u : Int) ≤ (c : Int) := by omega
  have q2 : (0 : Int) ≤ (u : Int) + 1 := by omega
  have q3 : (u : Int) + 1 ≤ (rs.length : Int) := by omega
  have q4 : (u : Int) < (rs.length : Int) := by omega
  have q5 : (u : Int) ≤ (u : Int) + 1 := by omega
  have HT := Lib.hid (hL4.take u)
  have HTl : Hid ((rs.take u).length = u) := Lib.hid (by rw [List.length_take]; omega)
  have HDl : Hid ((rs.drop (u + 1)).length = rs.length - (u + 1)) := Lib.hid (by rw [List.length_drop])
  have HX : Hid (stB (rs.take u ++ rs.drop (u + 1)) = true) := Lib.hid (stB_part hs.out)
  have HXl : Hid ((rs.take u ++ rs.drop (u + 1)).length = u + (rs.length - (u + 1))) := Lib.hid (by rw [List.length_append, HTl.out, HDl.out])
  have HYn : Hid (∀ s d v, stB (rs.set u (s, d, 0, v)) = false) := Lib.hid (fun s d v => stB_kind hu1 s d v)
  by_cases hcu : c = u + 1
  · subst hcu
    have HD : Hid (Rs w4 (some ⟨g, 0, none⟩) (rs.drop (u + 1))) := Lib.hid (.inl (List.eq_nil_of_length_eq_zero (by rw [HDl.out]; omega)))
    go_wp2_with fail
    go_region_law (first
      | (refine step_app_own rfl _ _ _ rfl w4.heap.size 25 i0 _ 4 32 Try.underlying23 hi hz0 hz1 hz2 rfl (by decide) (.slice (some ⟨w4.heap.size, 0, none⟩) 0 0) 0 [] rfl (World.ownsRow_made (base := w4.heap.size) (e := 25) (size := 4) w4.drew #[] 0 (Keep.refl w4).drew.size (by unfold maxLen; omega) rfl) ⟨g, 0, none⟩ u _ (flatR (rs.take u)) rfl ((flatR_len _).trans (by rw [HTl.out])) (news_rs (HT.out.keep ((Keep.refl w4).drew.alloc (.cells #[] 25)))) flat_one (by unfold maxLen; omega) (by omega) ((Keep.refl w4).drew.alloc (.cells #[] 25)).size ?_
         intro v1 wN hown1 hgrow1
         have hKN : Keep w4 wN := Below.grown ((Keep.refl w4).drew.alloc (.cells #[] 25)) hgrow1 ((Keep.refl w4).drew.alloc (.cells #[] 25)).size (fun q hq => ((World.ownsRow_made (base := w4.heap.size) (e := 25) (size := 4) w4.drew #[] 0 (Keep.refl w4).drew.size (by unfold maxLen; omega) rfl).lt q hq).1)
         have ho : wN.ownsRow w4.heap.size 25 4 v1 u (flatR (rs.take u)) := by simpa using hown1
         clear hown1 hgrow1)
      | (refine step_app_own rfl _ _ _ rfl w4.heap.size 25 i0 _ 4 32 Try.underlying23 hi hz0 hz1 hz2 rfl (by decide) _ u (flatR (rs.take u)) rfl ho ⟨g, 0, none⟩ 0 _ (flatR (rs.drop (u + 1))) rfl ((flatR_len _).trans (by rw [HDl.out]; try omega)) (news_rs (HD.out.keep hKN)) flat_one (by unfold maxLen; omega) (by omega) hKN.size ?_
         intro v2 wF hown2 hgrow2
         have HFK : Hid (Keep w4 wF) := Lib.hid (Below.grown hKN hgrow2 hKN.size (fun q hq => (ho.lt q hq).1))
         have HFO : Hid (wF.ownsRow w4.heap.size 25 4 v2 (u + (rs.length - (u + 1))) (flatR (rs.take u ++ rs.drop (u + 1)))) := Lib.hid (by rw [flatR_app, show u + (rs.length - (u + 1)) = u + 0 by omega]; exact hown2)
         clear hown2 hgrow2))
    all_goals
      clear hwr hmod q0 q1 q2 q3 q4 q5 hne hne2
      obtain ⟨ax, cx, rfl, hRX⟩ := own_rs HFO.out HXl.out.symm
      have hL5 := hL4.keep HFK.out
      have hown := World.ownsRow_made (base := wF.heap.size) (e := 25) (size := 4) wF #[] 0 (Nat.le_refl _) (by unfold maxLen; omega) rfl
      have HR6 := hL5.alloc (.cells #[] 25)
      have K5 : Keep w wF := K4.trans HFK.out
      clear HFO
      go_wp2_with (at_builtin; (refine app_own_p rfl _ _ 23 rfl wF.heap.size 25 i0 (.agg #[.int .i64 0, .int .i64 0, .int .i64 0, .int .i64 0]) 4 32 Try.underlying23 hi hz0 hz1 hz2 rfl (by decide) _ _ _ rfl hown ⟨g, 0, none⟩ rs.length _ (flatR rs) rfl (flatR_len rs) (news_rs HR6) flat_one (by unfold maxLen; omega) (by omega) (by simp) ?_))
      intro v' w7 hown' hgrow
      have k7 : Keep wF w7 := Below.grown ((Keep.refl wF).alloc (.cells #[] 25)) hgrow ((Keep.refl wF).alloc (.cells #[] 25)).size (fun q hq => (hown.lt q hq).1)
      have ho7 : w7.ownsRow wF.heap.size 25 4 v' rs.length (flatR rs) := by simpa using hown'
      clear hown' hgrow hown HR6 hi hz0 hz1 hz2
      obtain ⟨gy, cy, rfl, hby, hly⟩ := ho7.form (by omega)
      have hWy := wrR_own ho7 rfl
      obtain ⟨⟨_, _, t2, _⟩, ⟨_, _, ff, _⟩⟩ := hWy u hu1
      have HW := Lib.hid (wrR_kind hWy hu1)
      have HYs := Lib.hid (HYn.out (rS (rs.getD u r0)) (rD (rs.getD u r0)) (rV (rs.getD u r0)))
      have HYl : Hid ((rs.set u (rS (rs.getD u r0), rD (rs.getD u r0), 0, rV (rs.getD u r0))).length = rs.length) := Lib.hid (by simp)
      generalize rs.set u (rS (rs.getD u r0), rD (rs.getD u r0), 0, rV (rs.getD u r0)) = ys at HW HYs HYl
      generalize rK (rs.getD u r0) = kd at t2
      have k8 : Keep wF (w7.setCell ⟨gy, u * 4 + 2, none⟩ (.int .i64 0)) := k7.setCell hby _
      clear ho7 hWy
      have HS1 := Lib.hid (sv_impl ax cx _ _ (hRX.keep k8) (by rw [HXl.out]; omega))
      rw [HX.out, HXl.out, show u + (rs.length - (u + 1)) = u by omega] at HS1
      go_wp2_with fail
      refine HS1.out.mono ?_
      rintro e w9 ⟨rfl, k9⟩
      have HS2 := Lib.hid (sv_impl (some ⟨gy, 0, none⟩) cy ys w9 (HW.out.rs.keep k9) (by rw [HYl.out]; omega))
      rw [HYs.out, HYl.out] at HS2
      go_wp2_with fail
      refine HS2.out.mono ?_
      rintro e w10 ⟨rfl, k10⟩
      go_wp2
      go_ret
      exact ⟨rfl, ((K5.trans k8).trans k9).trans k10⟩
  · have HD := Lib.hid (rs_drop hL4 (u + 1) (by omega))
    go_wp2_with fail
    go_region_law (first
      | (refine step_app_own rfl _ _ _ rfl w4.heap.size 25 i0 _ 4 32 Try.underlying23 hi hz0 hz1 hz2 rfl (by decide) (.slice (some ⟨w4.heap.size, 0, none⟩) 0 0) 0 [] rfl (World.ownsRow_made (base := w4.heap.size) (e := 25) (size := 4) w4.drew #[] 0 (Keep.refl w4).drew.size (by unfold maxLen; omega) rfl) ⟨g, 0, none⟩ u _ (flatR (rs.take u)) rfl ((flatR_len _).trans (by rw [HTl.out])) (news_rs (HT.out.keep ((Keep.refl w4).drew.alloc (.cells #[] 25)))) flat_one (by unfold maxLen; omega) (by omega) ((Keep.refl w4).drew.alloc (.cells #[] 25)).size ?_
         intro v1 wN hown1 hgrow1
         have hKN : Keep w4 wN := Below.grown ((Keep.refl w4).drew.alloc (.cells #[] 25)) hgrow1 ((Keep.refl w4).drew.alloc (.cells #[] 25)).size (fun q hq => ((World.ownsRow_made (base := w4.heap.size) (e := 25) (size := 4) w4.drew #[] 0 (Keep.refl w4).drew.size (by unfold maxLen; omega) rfl).lt q hq).1)
         have ho : wN.ownsRow w4.heap.size 25 4 v1 u (flatR (rs.take u)) := by simpa using hown1
         clear hown1 hgrow1)
      | (refine step_app_own rfl _ _ _ rfl w4.heap.size 25 i0 _ 4 32 Try.underlying23 hi hz0 hz1 hz2 rfl (by decide) _ u (flatR (rs.take u)) rfl ho ⟨g, (u + 1) * 4, none⟩ (rs.length - (u + 1)) _ (flatR (rs.drop (u + 1))) rfl ((flatR_len _).trans (by rw [HDl.out]; try omega)) (news_rs (HD.out.keep hKN)) flat_one (by unfold maxLen; omega) (by omega) hKN.size ?_
         intro v2 wF hown2 hgrow2
         have HFK : Hid (Keep w4 wF) := Lib.hid (Below.grown hKN hgrow2 hKN.size (fun q hq => (ho.lt q hq).1))
         have HFO : Hid (wF.ownsRow w4.heap.size 25 4 v2 (u + (rs.length - (u + 1))) (flatR (rs.take u ++ rs.drop (u + 1)))) := Lib.hid (by rw [flatR_app, show u + (rs.length - (u + 1)) = u + (rs.length - (u + 1)) by omega]; exact hown2)
         clear hown2 hgrow2))
    all_goals
      clear hwr hmod q0 q1 q2 q3 q4 q5 hne hne2
      obtain ⟨ax, cx, rfl, hRX⟩ := own_rs HFO.out HXl.out.symm
      have hL5 := hL4.keep HFK.out
      have hown := World.ownsRow_made (base := wF.heap.size) (e := 25) (size := 4) wF #[] 0 (Nat.le_refl _) (by unfold maxLen; omega) rfl
      have HR6 := hL5.alloc (.cells #[] 25)
      have K5 : Keep w wF := K4.trans HFK.out
      clear HFO
      go_wp2_with (at_builtin; (refine app_own_p rfl _ _ 23 rfl wF.heap.size 25 i0 (.agg #[.int .i64 0, .int .i64 0, .int .i64 0, .int .i64 0]) 4 32 Try.underlying23 hi hz0 hz1 hz2 rfl (by decide) _ _ _ rfl hown ⟨g, 0, none⟩ rs.length _ (flatR rs) rfl (flatR_len rs) (news_rs HR6) flat_one (by unfold maxLen; omega) (by omega) (by simp) ?_))
      intro v' w7 hown' hgrow
      have k7 : Keep wF w7 := Below.grown ((Keep.refl wF).alloc (.cells #[] 25)) hgrow ((Keep.refl wF).alloc (.cells #[] 25)).size (fun q hq => (hown.lt q hq).1)
      have ho7 : w7.ownsRow wF.heap.size 25 4 v' rs.length (flatR rs) := by simpa using hown'
      clear hown' hgrow hown HR6 hi hz0 hz1 hz2
      obtain ⟨gy, cy, rfl, hby, hly⟩ := ho7.form (by omega)
      have hWy := wrR_own ho7 rfl
      obtain ⟨⟨_, _, t2, _⟩, ⟨_, _, ff, _⟩⟩ := hWy u hu1
      have HW := Lib.hid (wrR_kind hWy hu1)
      have HYs := Lib.hid (HYn.out (rS (rs.getD u r0)) (rD (rs.getD u r0)) (rV (rs.getD u r0)))
      have HYl : Hid ((rs.set u (rS (rs.getD u r0), rD (rs.getD u r0), 0, rV (rs.getD u r0))).length = rs.length) := Lib.hid (by simp)
      generalize rs.set u (rS (rs.getD u r0), rD (rs.getD u r0), 0, rV (rs.getD u r0)) = ys at HW HYs HYl
      generalize rK (rs.getD u r0) = kd at t2
      have k8 : Keep wF (w7.setCell ⟨gy, u * 4 + 2, none⟩ (.int .i64 0)) := k7.setCell hby _
      clear ho7 hWy
      have HS1 := Lib.hid (sv_impl ax cx _ _ (hRX.keep k8) (by rw [HXl.out]; omega))
      rw [HX.out, HXl.out] at HS1
      go_wp2_with fail
      refine HS1.out.mono ?_
      rintro e w9 ⟨rfl, k9⟩
      have HS2 := Lib.hid (sv_impl (some ⟨gy, 0, none⟩) cy ys w9 (HW.out.rs.keep k9) (by rw [HYl.out]; omega))
      rw [HYs.out, HYl.out] at HS2
      go_wp2_with fail
      refine HS2.out.mono ?_
      rintro e w10 ⟨rfl, k10⟩
      go_wp2
      go_ret
      exact ⟨rfl, ((K5.trans k8).trans k9).trans k10⟩
end Go.Proofs.Ytkapnbfjpglblab
