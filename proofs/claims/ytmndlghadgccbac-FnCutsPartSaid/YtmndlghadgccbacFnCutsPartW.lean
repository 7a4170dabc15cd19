/- P79: cuts may be left out, a cut may not be twice, nor at the end. -/
import Derived.Test.YtmndlghadgccbacDrCt
import Derived.Test.YtmndlghadgccbacKv
import Derived.Test.YtmndlghadgccbacFr
import Derived.IntWalk
import Derived.Deep.RegionLaw
namespace Go.Proofs.Ytmndlghadgccbac
open Go.RowKit
set_option linter.unusedVariables false

theorem infoIntC : (Try.prog.info? 3).map (fun i => (i.zero, i.size, i.bytes)) = some (some (.int .i64 0), 1, 8) := by kernel_rfl
theorem cut_at (cs : List Int) (u i : Nat) (hu : u < cs.length) : (cs.take u ++ cs.drop (u + 1)).getD i 0 = if i < u then cs.getD i 0 else cs.getD (i + 1) 0 := by
  simp only [List.getD_eq_getElem?_getD, List.getElem?_append, List.length_take, Nat.min_eq_left (Nat.le_of_lt hu)]
  split
  · rw [List.getElem?_take, if_pos (by assumption)]
  · rw [List.getElem?_drop, show u + 1 + (i - u) = i + 1 by omega]
theorem twice_at (cs : List Int) (u i : Nat) (hu : u < cs.length) : (cs.take (u + 1) ++ cs.drop u).getD i 0 = if i < u + 1 then cs.getD i 0 else cs.getD (i - 1) 0 := by
  simp only [List.getD_eq_getElem?_getD, List.getElem?_append, List.length_take, Nat.min_eq_left (show u + 1 ≤ cs.length by omega)]
  split
  · rw [List.getElem?_take, if_pos (by assumption)]
  · rw [List.getElem?_drop, show u + (i - (u + 1)) = i - 1 by omega]
theorem ct_part {cs : List Int} {n : Int} {u : Nat} (h : ctB cs n = true) (hu : u < cs.length) : ctB (cs.take u ++ cs.drop (u + 1)) n = true := by
  obtain ⟨h1, h2⟩ := ctB_facts h
  refine ctB_yes h1 (ctA_all _ fun k hk => ctS_of ?_)
  simp only [List.length_append, List.length_take, List.length_drop] at hk
  rw [ctP, cut_at cs u k hu, cut_at cs u (k - 1) hu]
  have a0 := h2 k (by omega)
  rw [ctP] at a0
  by_cases hku : k < u
  · rw [if_pos hku, if_pos (show k - 1 < u by omega)]
    exact a0
  · rw [if_neg hku]
    have a1 := h2 (k + 1) (by omega)
    rw [ctP, if_neg (by omega), Nat.add_sub_cancel] at a1
    refine ⟨?_, a1.2⟩
    by_cases hk0 : k = 0
    · rw [if_pos hk0] at a0 ⊢; omega
    · rw [if_neg hk0] at a0 ⊢
      by_cases hk1 : k - 1 < u
      · rw [if_pos hk1]; omega
      · rw [if_neg hk1, show k - 1 + 1 = k by omega]; omega
theorem ct_twice {cs : List Int} {n : Int} {u : Nat} (hu : u < cs.length) : ctB (cs.take (u + 1) ++ cs.drop u) n = false := by
  refine ctB_no (k := u + 1) (by simp only [List.length_append, List.length_take, List.length_drop]; omega) (ctS_not (.inl ?_))
  rw [ctP, if_neg (by omega), twice_at cs u _ hu, twice_at cs u _ hu, if_neg (by omega), if_pos (by omega)]
  exact Int.le_refl _
theorem ct_last (cs : List Int) (n : Int) : ctB (cs ++ [n]) n = false := by
  refine ctB_no (k := cs.length) (by simp) (ctS_not (.inr ?_))
  simp [List.getD_eq_getElem?_getD]
theorem ls_take {w : World} {a : Option Addr} {zs : List Int} (h : Ls w a zs) (k : Nat) : Ls w a (zs.take k) := by
  rcases h with h | ⟨b, off, ha, hb, hc⟩
  · left; rw [h]; simp
  · refine .inr ⟨b, off, ha, hb, fun i hi => ?_⟩
    rw [List.length_take] at hi
    rw [hc i (by omega)]
    simp [List.getD_eq_getElem?_getD, show i < k by omega]
theorem ls_drop {w : World} {b off : Nat} {zs : List Int} (h : Ls w (some ⟨b, off, none⟩) zs) (k : Nat) : Ls w (some ⟨b, off + k, none⟩) (zs.drop k) := by
  rcases h with h | ⟨b', off', ha, hb, hc⟩
  · left; rw [h]; simp
  · injection ha with ha
    injection ha with e1 e2 _
    subst e1; subst e2
    refine .inr ⟨b, off + k, rfl, hb, fun i hi => ?_⟩
    rw [List.length_drop] at hi
    rw [show off + k + i = off + (k + i) by omega, hc (k + i) (by omega)]
    simp [List.getD_eq_getElem?_getD]
theorem news_lsC {w : World} {b off : Nat} {zs : List Int} (h : Ls w (some ⟨b, off, none⟩) zs) : ∀ j u, (zs.map (Value.int .i64))[j]? = some u → w.cell? ((⟨b, off, none⟩ : Addr).add j) = some u := by
  intro j u hj
  rw [List.getElem?_map] at hj
  rcases h with h | ⟨b', off', ha, hb, hc⟩
  · rw [h] at hj; simp at hj
  · injection ha with ha
    injection ha with e1 e2 _
    subst e1; subst e2
    by_cases hl : j < zs.length
    · rw [List.getElem?_eq_getElem hl] at hj
      simp at hj
      subst hj
      have h9 := hc j hl
      rw [show zs.getD j 0 = zs[j] by simp [List.getD_eq_getElem?_getD, hl]] at h9
      rcases Nat.eq_zero_or_pos j with h0 | h0
      · subst h0
        rw [Nat.add_zero] at h9
        rw [← h9]; simp [Addr.add]
      · rw [← h9]; simp [Addr.add, show j ≠ 0 by omega]
    · rw [List.getElem?_eq_none (by omega)] at hj
      simp at hj
theorem ints_one {zs : List Int} : ∀ u ∈ zs.map (Value.int .i64), u.oneCell' = true := by
  intro u hu
  obtain ⟨x, _, rfl⟩ := List.mem_map.1 hu
  rfl
theorem own_lsC {w : World} {base n : Nat} {v : Value} {zs : List Int} (h : w.ownsRow base 3 1 v n (zs.map (Value.int .i64))) (hn : n = zs.length) : ∃ a c, v = .slice a n c ∧ Ls w a zs := by
  subst hn
  exact OwnI.ls (show OwnI w base v zs from h)
theorem app_own_p {P : Program} {w : World} {ops : Array Oper} {rest : List Oper} {o : Oper} {a : Act} {Q : Exit → Act → World → Prop} (hw : Region.wanted o (yielded ops a.tmps) = true) (s x : Operand) (t : TypeId)
    (ho : o.op = .call { callee := .builtin .append, args := #[s, x], argTypes := #[t, t] })
    (base : Nat) (e : TypeId) (i : TypeInfo) (z : Value) (size bytes : Nat) (ht : P.underlying t = some (.slice e)) (hi : P.info? e = some i) (hz : i.zero = some z)
    (hsize : i.size = size) (hby : i.bytes = bytes) (hzs : z.cells.size = size) (hsz : 0 < size)
    (v : Value) (n : Nat) (xs : List Value) (hs : a.eval s = v) (hown : w.ownsRow base e size v n xs)
    (ad : Addr) (m c : Nat) (news : List Value) (hx : a.eval x = .slice (some ad) m c) (hl : news.length = m * size) (hnews : ∀ j u, news[j]? = some u → w.cell? (ad.add j) = some u) (h1 : ∀ u ∈ news, u.oneCell' = true)
    (h63 : n + m ≤ maxLen) (hbytes : (n + m) * bytes ≤ 140737488355328) (hbase : base ≤ w.heap.size)
    (h : ∀ v' w', w'.ownsRow base e size v' (n + m) (xs ++ news) → w.grownBy w' v.ownBlock → wpList P ops Q rest (a.put o.dst v') w') : wpList P ops Q (o :: rest) a w :=
  wpList_step fun K hK => by
    rw [if_pos hw]
    exact wp_append_own w s x t ho base e i z size bytes ht hi hz hsize hby hzs hsz v n xs hs hown ad m c news hx hl hnews h1 h63 hbytes hbase fun v' w' h2 h3 _ => hK _ _ (h v' w' h2 h3)
theorem step_app_own {P : Program} {w : World} {ops : Array Oper} {o : Oper} {a : Act} {K : Act → World → Prop} {Q : Exit → Act → World → Prop} {E : Prop} (hgd : o.guard = none) (s x : Operand) (t : TypeId)
    (ho : o.op = .call { callee := .builtin .append, args := #[s, x], argTypes := #[t, t] })
    (base : Nat) (e : TypeId) (i : TypeInfo) (z : Value) (size bytes : Nat) (ht : P.underlying t = some (.slice e)) (hi : P.info? e = some i) (hz : i.zero = some z)
    (hsize : i.size = size) (hby : i.bytes = bytes) (hzs : z.cells.size = size) (hsz : 0 < size)
    (v : Value) (n : Nat) (xs : List Value) (hs : a.eval s = v) (hown : w.ownsRow base e size v n xs)
    (ad : Addr) (m c : Nat) (news : List Value) (hx : a.eval x = .slice (some ad) m c) (hl : news.length = m * size) (hnews : ∀ j u, news[j]? = some u → w.cell? (ad.add j) = some u) (h1 : ∀ u ∈ news, u.oneCell' = true)
    (h63 : n + m ≤ maxLen) (hbytes : (n + m) * bytes ≤ 140737488355328) (hbase : base ≤ w.heap.size)
    (h : ∀ v' w', w'.ownsRow base e size v' (n + m) (xs ++ news) → w.grownBy w' v.ownBlock → K (a.put o.dst v') w') :
    if Region.wanted o (yielded ops a.tmps) = true then Oper.wp P o a w K Q else E := by
  have hw : Region.wanted o (yielded ops a.tmps) = true := by simp [Region.wanted, hgd]
  rw [if_pos hw]
  exact wp_append_own w s x t ho base e i z size bytes ht hi hz hsize hby hzs hsz v n xs hs hown ad m c news hx hl hnews h1 h63 hbytes hbase fun v' w' h2 h3 _ => h v' w' h2 h3
set_option maxRecDepth 100000 in
set_option maxHeartbeats 6400000 in
theorem walk_FnCutsPart (a0 : Option Addr) (len0 cap0 : Nat) (z0 : List Int) (a1 : Option Addr) (len1 cap1 : Nat) (z1 : List Int) (w : World) (w0 : IsRow .u8 w a0 len0 cap0 z0) (w1 : IsRow .u8 w a1 len1 cap1 z1) :
    Calls Try.prog 11 #[.slice a0 len0 cap0, .slice a1 len1 cap1] w fun e w' => e = .returned (.bool true) ∧ Below w.heap.size w w' := by
  have ha := code_of_row w0
  obtain ⟨hl0, hm0⟩ := ha.1
  unfold maxLen at hm0
  clear w0
  have ha1 := code_of_row w1
  obtain ⟨hl1', hm1'⟩ := ha1.1
  unfold maxLen at hm1'
  clear w1 ha1
  by_cases h : len0 ≤ 1048576
  case' neg =>
    have hd : decide (1048576 < (len0 : Int)) = true := by simp; omega
    go_enter Try.func11, Try.ntmps11
    go_wp2
    go_ret
    exact ⟨rfl, Below.refl _ _⟩
  have hd : decide (1048576 < (len0 : Int)) = false := by simp; omega
  by_cases h1 : len1 ≤ 1048576
  case' neg =>
    have hd1 : decide (1048576 < (len1 : Int)) = true := by simp; omega
    go_enter Try.func11, Try.ntmps11
    go_wp2
    go_ret
    exact ⟨rfl, Below.refl _ _⟩
  have hd1 : decide (1048576 < (len1 : Int)) = false := by simp; omega
  obtain ⟨i0, hi, hz0, hz1, hz2⟩ := info_parts infoIntC
  go_enter Try.func11, Try.ntmps11
  go_wp2_with fail
  refine (drawCutsValid a0 len0 cap0 _ ha).mono ?_
  rintro e wd ⟨p, c, ts, n, rfl, hl, hcl, hBt, hL, ⟨hn0, hn1⟩, kd⟩
  clear ha hBt
  have HI := Lib.hid (fun W (k : Keep wd W) => cv_implK p c ts n W (hL.keep k) (by omega))
  have HJ := Lib.hid (fun W (k : Keep wd W) => cv_spec p c ts n W (hL.keep k) (by omega))
  rcases Bool.eq_false_or_eq_true (ctB ts n) with hs | hs
  case' inr =>
    rw [hs] at HI HJ
    clear hs
    go_wp2_with fail
    refine (HI.out _ (Keep.refl _)).mono ?_
    rintro e w2 ⟨rfl, k2⟩
    go_wp2_with fail
    refine (HJ.out _ k2).mono ?_
    rintro e w3 ⟨rfl, k3⟩
    go_wp2
    go_ret
    exact ⟨rfl, (kd.trans k2).trans k3⟩
  have HS := Lib.hid hs
  rw [hs] at HI HJ
  clear hs
  go_wp2_with fail
  refine (HI.out _ (Keep.refl _)).mono ?_
  rintro e w2 ⟨rfl, k2⟩
  go_wp2_with fail
  refine (HJ.out _ k2).mono ?_
  rintro e w4 ⟨rfl, k3⟩
  have K4 : Keep w w4 := (kd.trans k2).trans k3
  have hL4 := (hL.keep k2).keep k3
  clear hL kd k2 k3 HI HJ
  by_cases hn : ts.length = 0
  · have hne : ((ts.length : Int) == 0) = true := beq_iff_eq.2 (by omega)
    replace hn := Lib.hid hn
    go_wp2
    go_ret
    exact ⟨rfl, K4⟩
  have hne : ((ts.length : Int) == 0) = false := beq_eq_false_iff_ne.2 (by omega)
  have hne2 : ¬ (ts.length : Int) = 0 := by omega
  obtain ⟨b, off, rfl, hbl, _⟩ := hL4.at_ (show 0 < ts.length by omega)
  obtain ⟨u, hu⟩ : ∃ u : Nat, u = len1 % ts.length := ⟨_, rfl⟩
  have hu1 : u < ts.length := by rw [hu]; exact Nat.mod_lt len1 (by omega)
  have hmod : Int.tmod (len1 : Int) (ts.length : Int) = (u : Int) := by
    have h9 := Int.ofNat_tmod len1 ts.length
    rw [← hu] at h9
    exact h9.symm
  clear hu hn
  have hwr : IntKind.i64.wrap ((u : Int) + 1) = (u : Int) + 1 := IntWalk.i64_in _ ⟨by omega, by omega⟩
  have q0 : (0 : Int) ≤ (u : Int) := by omega
  have q1 : (u : Int) ≤ (c : Int) := by omega
  have q2 : (0 : Int) ≤ (u : Int) + 1 := by omega
  have q3 : (u : Int) + 1 ≤ (ts.length : Int) := by omega
  have q4 : (u : Int) < (ts.length : Int) := by omega
  have q5 : (u : Int) ≤ (u : Int) + 1 := by omega
  have q6 : (u : Int) + 1 ≤ (c : Int) := by omega
  have q7 : (u : Int) ≤ (ts.length : Int) := by omega
  have qcu : ¬ c = u := by omega
  have HT := Lib.hid (ls_take hL4 u)
  have HTl : Hid ((ts.take u).length = u) := Lib.hid (by rw [List.length_take]; omega)
  have HT1 := Lib.hid (ls_take hL4 (u + 1))
  have HT1l : Hid ((ts.take (u + 1)).length = u + 1) := Lib.hid (by rw [List.length_take]; omega)
  have HD0 := Lib.hid (ls_drop hL4 u)
  have HD0l : Hid ((ts.drop u).length = ts.length - u) := Lib.hid (by rw [List.length_drop])
  have HDl : Hid ((ts.drop (u + 1)).length = ts.length - (u + 1)) := Lib.hid (by rw [List.length_drop])
  have HX : Hid (ctB (ts.take u ++ ts.drop (u + 1)) n = true) := Lib.hid (ct_part HS.out hu1)
  have HXl : Hid ((ts.take u ++ ts.drop (u + 1)).length = u + (ts.length - (u + 1))) := Lib.hid (by rw [List.length_append, HTl.out, HDl.out])
  have HY : Hid (ctB (ts.take (u + 1) ++ ts.drop u) n = false) := Lib.hid (ct_twice hu1)
  have HYl : Hid ((ts.take (u + 1) ++ ts.drop u).length = (u + 1) + (ts.length - u)) := Lib.hid (by rw [List.length_append, HT1l.out, HD0l.out])
  by_cases hcu : c = u + 1
  · subst hcu
    have HD : Hid (Ls w4 (some ⟨b, off, none⟩) (ts.drop (u + 1))) := Lib.hid (.inl (List.eq_nil_of_length_eq_zero (by rw [HDl.out]; omega)))
    go_wp2_with fail
    go_region_law (first
      | (refine step_app_own rfl _ _ _ rfl w4.heap.size 3 i0 _ 1 8 Try.underlying23 hi hz0 hz1 hz2 rfl (by decide) (.slice (some ⟨w4.heap.size, 0, none⟩) 0 0) 0 [] rfl (World.ownsRow_made (base := w4.heap.size) (e := 3) (size := 1) w4.drew #[] 0 (Keep.refl w4).drew.size (by unfold maxLen; omega) rfl) ⟨b, off, none⟩ u _ ((ts.take u).map (Value.int .i64)) rfl (by rw [List.length_map, HTl.out]; try omega) (news_lsC (HT.out.keep ((Keep.refl w4).drew.alloc (.cells #[] 3)))) ints_one (by unfold maxLen; omega) (by omega) ((Keep.refl w4).drew.alloc (.cells #[] 3)).size ?_
         intro v1 wN hown1 hgrow1
         have hKN : Keep w4 wN := Below.grown ((Keep.refl w4).drew.alloc (.cells #[] 3)) hgrow1 ((Keep.refl w4).drew.alloc (.cells #[] 3)).size (fun q hq => ((World.ownsRow_made (base := w4.heap.size) (e := 3) (size := 1) w4.drew #[] 0 (Keep.refl w4).drew.size (by unfold maxLen; omega) rfl).lt q hq).1)
         have ho : wN.ownsRow w4.heap.size 3 1 v1 u ((ts.take u).map (Value.int .i64)) := by simpa using hown1
         clear hown1 hgrow1)
      | (refine step_app_own rfl _ _ _ rfl w4.heap.size 3 i0 _ 1 8 Try.underlying23 hi hz0 hz1 hz2 rfl (by decide) _ u ((ts.take u).map (Value.int .i64)) rfl ho ⟨b, off, none⟩ 0 _ ((ts.drop (u + 1)).map (Value.int .i64)) rfl (by rw [List.length_map, HDl.out]; try omega) (news_lsC (HD.out.keep hKN)) ints_one (by unfold maxLen; omega) (by omega) hKN.size ?_
         intro v2 wF hown2 hgrow2
         have HFKx : Hid (Keep w4 wF) := Lib.hid (Below.grown hKN hgrow2 hKN.size (fun q hq => (ho.lt q hq).1))
         have HFOx : Hid (wF.ownsRow w4.heap.size 3 1 v2 (u + (ts.length - (u + 1))) ((ts.take u ++ ts.drop (u + 1)).map (Value.int .i64))) := Lib.hid (by rw [List.map_append, show u + (ts.length - (u + 1)) = u + 0 by omega]; exact hown2)
         clear hown2 hgrow2))
    all_goals
      obtain ⟨ax, cx, rfl, hRX⟩ := own_lsC HFOx.out HXl.out.symm
      have hL5 := hL4.keep HFKx.out
      have K5 : Keep w wF := K4.trans HFKx.out
      have HT5 := Lib.hid (HT1.out.keep HFKx.out)
      have HD5 := Lib.hid (HD0.out.keep HFKx.out)
      have HRX := Lib.hid hRX
      clear HFOx HFKx hRX
      go_wp2_with fail
      go_region_law (first
        | (refine step_app_own rfl _ _ _ rfl wF.heap.size 3 i0 _ 1 8 Try.underlying23 hi hz0 hz1 hz2 rfl (by decide) (.slice (some ⟨wF.heap.size, 0, none⟩) 0 0) 0 [] rfl (World.ownsRow_made (base := wF.heap.size) (e := 3) (size := 1) wF.drew #[] 0 (Keep.refl wF).drew.size (by unfold maxLen; omega) rfl) ⟨b, off, none⟩ (u + 1) _ ((ts.take (u + 1)).map (Value.int .i64)) rfl (by rw [List.length_map, HT1l.out]; try omega) (news_lsC (HT5.out.keep ((Keep.refl wF).drew.alloc (.cells #[] 3)))) ints_one (by unfold maxLen; omega) (by omega) ((Keep.refl wF).drew.alloc (.cells #[] 3)).size ?_
           intro v1 wN hown1 hgrow1
           have hKN : Keep wF wN := Below.grown ((Keep.refl wF).drew.alloc (.cells #[] 3)) hgrow1 ((Keep.refl wF).drew.alloc (.cells #[] 3)).size (fun q hq => ((World.ownsRow_made (base := wF.heap.size) (e := 3) (size := 1) wF.drew #[] 0 (Keep.refl wF).drew.size (by unfold maxLen; omega) rfl).lt q hq).1)
           have ho : wN.ownsRow wF.heap.size 3 1 v1 (u + 1) ((ts.take (u + 1)).map (Value.int .i64)) := by simpa using hown1
           clear hown1 hgrow1)
        | (refine step_app_own rfl _ _ _ rfl wF.heap.size 3 i0 _ 1 8 Try.underlying23 hi hz0 hz1 hz2 rfl (by decide) _ (u + 1) ((ts.take (u + 1)).map (Value.int .i64)) rfl ho ⟨b, off + u, none⟩ (ts.length - u) _ ((ts.drop u).map (Value.int .i64)) rfl (by rw [List.length_map, HD0l.out]; try omega) (news_lsC (HD5.out.keep hKN)) ints_one (by unfold maxLen; omega) (by omega) hKN.size ?_
           intro v2 wG hown2 hgrow2
           have HFKy : Hid (Keep wF wG) := Lib.hid (Below.grown hKN hgrow2 hKN.size (fun q hq => (ho.lt q hq).1))
           have HFOy : Hid (wG.ownsRow wF.heap.size 3 1 v2 ((u + 1) + (ts.length - u)) ((ts.take (u + 1) ++ ts.drop u).map (Value.int .i64))) := Lib.hid (by rw [List.map_append, show (u + 1) + (ts.length - u) = (u + 1) + (ts.length - u) by omega]; exact hown2)
           clear hown2 hgrow2))
      all_goals
        clear hwr hmod q0 q1 q2 q3 q4 q5 q6 q7 hne hne2
        have hLG := hL5.keep HFKy.out
        obtain ⟨ay, cy, rfl, hRY⟩ := own_lsC HFOy.out HYl.out.symm
        have HS1 := Lib.hid (cv_implK ax cx _ n wG (HRX.out.keep HFKy.out) (by rw [HXl.out]; omega))
        rw [HX.out, HXl.out] at HS1
        try rw [show u + (ts.length - (u + 1)) = u by omega] at HS1
        have k9 := HFKy.out
        go_wp2_with fail
        refine HS1.out.mono ?_
        rintro e w9 ⟨rfl, k10⟩
        have HS2 := Lib.hid (cv_implK ay cy _ n w9 (hRY.keep k10) (by rw [HYl.out]; omega))
        rw [HY.out, HYl.out] at HS2
        go_wp2_with fail
        refine HS2.out.mono ?_
        rintro e w10 ⟨rfl, k11⟩
        have hLx := (hLG.keep k10).keep k11
        have Kx : Keep w w10 := ((K5.trans k9).trans k10).trans k11
        clear HS1 HS2 hLG
        have hown := World.ownsRow_made (base := w10.heap.size) (e := 3) (size := 1) w10 #[] 0 (Nat.le_refl _) (by unfold maxLen; omega) rfl
        have HR6 := hLx.alloc (.cells #[] 3)
        go_wp2_with (at_builtin; (refine app_own_p rfl _ _ 23 rfl w10.heap.size 3 i0 (.int .i64 0) 1 8 Try.underlying23 hi hz0 hz1 hz2 rfl (by decide) _ _ _ rfl hown ⟨b, off, none⟩ ts.length _ (ts.map (Value.int .i64)) rfl (by rw [List.length_map]; omega) (news_lsC HR6) ints_one (by unfold maxLen; omega) (by omega) (by simp) ?_))
        intro v' w7 hown' hgrow
        have k7 : Keep w10 w7 := Below.grown ((Keep.refl w10).alloc (.cells #[] 3)) hgrow ((Keep.refl w10).alloc (.cells #[] 3)).size (fun q hq => (hown.lt q hq).1)
        have ho7 : w7.ownsRow w10.heap.size 3 1 v' ts.length (ts.map (Value.int .i64)) := by simpa using hown'
        have hsz7 := k7.size
        clear hown' hgrow hown HR6
        go_wp2_with (at_builtin; refine app_own_p rfl _ _ 23 rfl w10.heap.size 3 i0 (.int .i64 0) 1 8 Try.underlying23 hi hz0 hz1 hz2 rfl (by decide) _ _ _ rfl (ho7.alloc _) ⟨w7.heap.size, 0, none⟩ 1 1 [.int .i64 n] rfl rfl ?c1a ?c2a ?c3a ?c4a ?c5a ?_)
        try case c1a =>
          intro j u hj
          match j, hj with
          | 0, hj => simp at hj; subst hj; simp [Addr.add]
        try case c2a => first | rfl | (intro u hu; simp at hu; subst hu; rfl)
        case c3a => unfold maxLen; omega
        case c4a => omega
        case c5a => first | omega | (simp; omega)
        intro v8 w8 hown8 hgrow8
        have ho8 : w8.ownsRow w10.heap.size 3 1 v8 (ts.length + 1) ((ts ++ [n]).map (Value.int .i64)) := by simpa using hown8
        have k8 : Keep w10 w8 := Below.grown (k7.alloc (.cells #[.int .i64 n] 3)) hgrow8 (k7.alloc (.cells #[.int .i64 n] 3)).size (fun q hq => (ho7.lt q hq).1)
        obtain ⟨az, cz, rfl, hRZ⟩ := own_lsC ho8 (by simp)
        have HS3 := Lib.hid (cv_implK az cz (ts ++ [n]) n w8 hRZ (by simp; omega))
        rw [ct_last, show (ts ++ [n]).length = ts.length + 1 by simp] at HS3
        clear hown8 hgrow8 ho7 ho8
        go_wp2_with fail
        refine HS3.out.mono ?_
        rintro e w11 ⟨rfl, k12⟩
        go_wp2
        go_ret
        exact ⟨rfl, (Kx.trans k8).trans k12⟩
  · have HD := Lib.hid (ls_drop hL4 (u + 1))
    go_wp2_with fail
    go_region_law (first
      | (refine step_app_own rfl _ _ _ rfl w4.heap.size 3 i0 _ 1 8 Try.underlying23 hi hz0 hz1 hz2 rfl (by decide) (.slice (some ⟨w4.heap.size, 0, none⟩) 0 0) 0 [] rfl (World.ownsRow_made (base := w4.heap.size) (e := 3) (size := 1) w4.drew #[] 0 (Keep.refl w4).drew.size (by unfold maxLen; omega) rfl) ⟨b, off, none⟩ u _ ((ts.take u).map (Value.int .i64)) rfl (by rw [List.length_map, HTl.out]; try omega) (news_lsC (HT.out.keep ((Keep.refl w4).drew.alloc (.cells #[] 3)))) ints_one (by unfold maxLen; omega) (by omega) ((Keep.refl w4).drew.alloc (.cells #[] 3)).size ?_
         intro v1 wN hown1 hgrow1
         have hKN : Keep w4 wN := Below.grown ((Keep.refl w4).drew.alloc (.cells #[] 3)) hgrow1 ((Keep.refl w4).drew.alloc (.cells #[] 3)).size (fun q hq => ((World.ownsRow_made (base := w4.heap.size) (e := 3) (size := 1) w4.drew #[] 0 (Keep.refl w4).drew.size (by unfold maxLen; omega) rfl).lt q hq).1)
         have ho : wN.ownsRow w4.heap.size 3 1 v1 u ((ts.take u).map (Value.int .i64)) := by simpa using hown1
         clear hown1 hgrow1)
      | (refine step_app_own rfl _ _ _ rfl w4.heap.size 3 i0 _ 1 8 Try.underlying23 hi hz0 hz1 hz2 rfl (by decide) _ u ((ts.take u).map (Value.int .i64)) rfl ho ⟨b, off + (u + 1), none⟩ (ts.length - (u + 1)) _ ((ts.drop (u + 1)).map (Value.int .i64)) rfl (by rw [List.length_map, HDl.out]; try omega) (news_lsC (HD.out.keep hKN)) ints_one (by unfold maxLen; omega) (by omega) hKN.size ?_
         intro v2 wF hown2 hgrow2
         have HFKx : Hid (Keep w4 wF) := Lib.hid (Below.grown hKN hgrow2 hKN.size (fun q hq => (ho.lt q hq).1))
         have HFOx : Hid (wF.ownsRow w4.heap.size 3 1 v2 (u + (ts.length - (u + 1))) ((ts.take u ++ ts.drop (u + 1)).map (Value.int .i64))) := Lib.hid (by rw [List.map_append, show u + (ts.length - (u + 1)) = u + (ts.length - (u + 1)) by omega]; exact hown2)
         clear hown2 hgrow2))
    all_goals
      obtain ⟨ax, cx, rfl, hRX⟩ := own_lsC HFOx.out HXl.out.symm
      have hL5 := hL4.keep HFKx.out
      have K5 : Keep w wF := K4.trans HFKx.out
      have HT5 := Lib.hid (HT1.out.keep HFKx.out)
      have HD5 := Lib.hid (HD0.out.keep HFKx.out)
      have HRX := Lib.hid hRX
      clear HFOx HFKx hRX
      go_wp2_with fail
      go_region_law (first
        | (refine step_app_own rfl _ _ _ rfl wF.heap.size 3 i0 _ 1 8 Try.underlying23 hi hz0 hz1 hz2 rfl (by decide) (.slice (some ⟨wF.heap.size, 0, none⟩) 0 0) 0 [] rfl (World.ownsRow_made (base := wF.heap.size) (e := 3) (size := 1) wF.drew #[] 0 (Keep.refl wF).drew.size (by unfold maxLen; omega) rfl) ⟨b, off, none⟩ (u + 1) _ ((ts.take (u + 1)).map (Value.int .i64)) rfl (by rw [List.length_map, HT1l.out]; try omega) (news_lsC (HT5.out.keep ((Keep.refl wF).drew.alloc (.cells #[] 3)))) ints_one (by unfold maxLen; omega) (by omega) ((Keep.refl wF).drew.alloc (.cells #[] 3)).size ?_
           intro v1 wN hown1 hgrow1
           have hKN : Keep wF wN := Below.grown ((Keep.refl wF).drew.alloc (.cells #[] 3)) hgrow1 ((Keep.refl wF).drew.alloc (.cells #[] 3)).size (fun q hq => ((World.ownsRow_made (base := wF.heap.size) (e := 3) (size := 1) wF.drew #[] 0 (Keep.refl wF).drew.size (by unfold maxLen; omega) rfl).lt q hq).1)
           have ho : wN.ownsRow wF.heap.size 3 1 v1 (u + 1) ((ts.take (u + 1)).map (Value.int .i64)) := by simpa using hown1
           clear hown1 hgrow1)
        | (refine step_app_own rfl _ _ _ rfl wF.heap.size 3 i0 _ 1 8 Try.underlying23 hi hz0 hz1 hz2 rfl (by decide) _ (u + 1) ((ts.take (u + 1)).map (Value.int .i64)) rfl ho ⟨b, off + u, none⟩ (ts.length - u) _ ((ts.drop u).map (Value.int .i64)) rfl (by rw [List.length_map, HD0l.out]; try omega) (news_lsC (HD5.out.keep hKN)) ints_one (by unfold maxLen; omega) (by omega) hKN.size ?_
           intro v2 wG hown2 hgrow2
           have HFKy : Hid (Keep wF wG) := Lib.hid (Below.grown hKN hgrow2 hKN.size (fun q hq => (ho.lt q hq).1))
           have HFOy : Hid (wG.ownsRow wF.heap.size 3 1 v2 ((u + 1) + (ts.length - u)) ((ts.take (u + 1) ++ ts.drop u).map (Value.int .i64))) := Lib.hid (by rw [List.map_append, show (u + 1) + (ts.length - u) = (u + 1) + (ts.length - u) by omega]; exact hown2)
           clear hown2 hgrow2))
      all_goals
        clear hwr hmod q0 q1 q2 q3 q4 q5 q6 q7 hne hne2
        have hLG := hL5.keep HFKy.out
        obtain ⟨ay, cy, rfl, hRY⟩ := own_lsC HFOy.out HYl.out.symm
        have HS1 := Lib.hid (cv_implK ax cx _ n wG (HRX.out.keep HFKy.out) (by rw [HXl.out]; omega))
        rw [HX.out, HXl.out] at HS1
        skip
        have k9 := HFKy.out
        go_wp2_with fail
        refine HS1.out.mono ?_
        rintro e w9 ⟨rfl, k10⟩
        have HS2 := Lib.hid (cv_implK ay cy _ n w9 (hRY.keep k10) (by rw [HYl.out]; omega))
        rw [HY.out, HYl.out] at HS2
        go_wp2_with fail
        refine HS2.out.mono ?_
        rintro e w10 ⟨rfl, k11⟩
        have hLx := (hLG.keep k10).keep k11
        have Kx : Keep w w10 := ((K5.trans k9).trans k10).trans k11
        clear HS1 HS2 hLG
        have hown := World.ownsRow_made (base := w10.heap.size) (e := 3) (size := 1) w10 #[] 0 (Nat.le_refl _) (by unfold maxLen; omega) rfl
        have HR6 := hLx.alloc (.cells #[] 3)
        go_wp2_with (at_builtin; (refine app_own_p rfl _ _ 23 rfl w10.heap.size 3 i0 (.int .i64 0) 1 8 Try.underlying23 hi hz0 hz1 hz2 rfl (by decide) _ _ _ rfl hown ⟨b, off, none⟩ ts.length _ (ts.map (Value.int .i64)) rfl (by rw [List.length_map]; omega) (news_lsC HR6) ints_one (by unfold maxLen; omega) (by omega) (by simp) ?_))
        intro v' w7 hown' hgrow
        have k7 : Keep w10 w7 := Below.grown ((Keep.refl w10).alloc (.cells #[] 3)) hgrow ((Keep.refl w10).alloc (.cells #[] 3)).size (fun q hq => (hown.lt q hq).1)
        have ho7 : w7.ownsRow w10.heap.size 3 1 v' ts.length (ts.map (Value.int .i64)) := by simpa using hown'
        have hsz7 := k7.size
        clear hown' hgrow hown HR6
        go_wp2_with (at_builtin; refine app_own_p rfl _ _ 23 rfl w10.heap.size 3 i0 (.int .i64 0) 1 8 Try.underlying23 hi hz0 hz1 hz2 rfl (by decide) _ _ _ rfl (ho7.alloc _) ⟨w7.heap.size, 0, none⟩ 1 1 [.int .i64 n] rfl rfl ?c1a ?c2a ?c3a ?c4a ?c5a ?_)
        try case c1a =>
          intro j u hj
          match j, hj with
          | 0, hj => simp at hj; subst hj; simp [Addr.add]
        try case c2a => first | rfl | (intro u hu; simp at hu; subst hu; rfl)
        case c3a => unfold maxLen; omega
        case c4a => omega
        case c5a => first | omega | (simp; omega)
        intro v8 w8 hown8 hgrow8
        have ho8 : w8.ownsRow w10.heap.size 3 1 v8 (ts.length + 1) ((ts ++ [n]).map (Value.int .i64)) := by simpa using hown8
        have k8 : Keep w10 w8 := Below.grown (k7.alloc (.cells #[.int .i64 n] 3)) hgrow8 (k7.alloc (.cells #[.int .i64 n] 3)).size (fun q hq => (ho7.lt q hq).1)
        obtain ⟨az, cz, rfl, hRZ⟩ := own_lsC ho8 (by simp)
        have HS3 := Lib.hid (cv_implK az cz (ts ++ [n]) n w8 hRZ (by simp; omega))
        rw [ct_last, show (ts ++ [n]).length = ts.length + 1 by simp] at HS3
        clear hown8 hgrow8 ho7 ho8
        go_wp2_with fail
        refine HS3.out.mono ?_
        rintro e w11 ⟨rfl, k12⟩
        go_wp2
        go_ret
        exact ⟨rfl, (Kx.trans k8).trans k12⟩
end Go.Proofs.Ytmndlghadgccbac
