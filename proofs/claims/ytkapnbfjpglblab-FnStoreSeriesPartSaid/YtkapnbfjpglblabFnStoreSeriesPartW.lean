/- P39: a series can be divided. -/
import Derived.Test.YtkapnbfjpglblabDrSs
import Derived.Test.YtkapnbfjpglblabSg
import Derived.Test.YtkapnbfjpglblabFr
namespace Go.Proofs.Ytkapnbfjpglblab
open Go.RowKit
set_option linter.unusedVariables false

theorem app_own_g {P : Program} {w : World} {ops : Array Oper} {rest : List Oper} {o : Oper} {a : Act} {Q : Exit → Act → World → Prop} (hw : Region.wanted o (yielded ops a.tmps) = true) (s x : Operand) (t : TypeId)
    (ho : o.op = .call { callee := .builtin .append, args := #[s, x], argTypes := #[t, t] })
    (base : Nat) (e : TypeId) (i : TypeInfo) (z : Value) (size bytes : Nat) (ht : P.underlying t = Option.some (.slice e)) (hi : P.info? e = Option.some i) (hz : i.zero = Option.some z)
    (hsize : i.size = size) (hby : i.bytes = bytes) (hzs : z.cells.size = size) (hsz : 0 < size)
    (v : Value) (n : Nat) (xs : List Value) (hs : a.eval s = v) (hown : w.ownsRow base e size v n xs)
    (ad : Addr) (m c : Nat) (news : List Value) (hx : a.eval x = .slice (Option.some ad) m c) (hl : news.length = m * size) (hnews : ∀ j u, news[j]? = Option.some u → w.cell? (ad.add j) = Option.some u) (h1 : ∀ u ∈ news, u.oneCell' = true)
    (h63 : n + m ≤ maxLen) (hbytes : (n + m) * bytes ≤ 140737488355328) (hbase : base ≤ w.heap.size)
    (h : ∀ v' w', w'.ownsRow base e size v' (n + m) (xs ++ news) → w.grownBy w' v.ownBlock → wpList P ops Q rest (a.put o.dst v') w') : wpList P ops Q (o :: rest) a w :=
  wpList_step fun K hK => by
    rw [if_pos hw]
    exact wp_append_own w s x t ho base e i z size bytes ht hi hz hsize hby hzs hsz v n xs hs hown ad m c news hx hl hnews h1 h63 hbytes hbase fun v' w' h2 h3 _ => hK _ _ (h v' w' h2 h3)
theorem serN_cons (rs : List R4) (v : Nat) (s t f : Int) (j : Nat) : serN rs v s t f (j + 1) = vN rs s f t v :: serN rs v s t (f + 1) j := by
  simp only [serN, List.range_succ_eq_map, List.map_cons, List.map_map]
  congr 1
  · simp
  · apply List.map_congr_left
    intro i _
    simp only [Function.comp]
    congr 1
    simp; omega
theorem part_facts {rs : List R4} {n s t f m : Int} (h : ssOk rs n s t f m = true) (hm : 2 ≤ m) (hf : ¬ f = 999) :
    ssOk rs n s t f 1 = true ∧ ssOk rs n s t (f + 1) (m - 1) = true ∧ 0 < (ssL rs n s t f 1).length ∧ 0 < (ssL rs n s t (f + 1) (m - 1)).length ∧ ssL rs n s t f 1 ++ ssL rs n s t (f + 1) (m - 1) = ssL rs n s t f m := by
  have h2 := h
  simp only [ssOk, Bool.and_eq_true] at h2
  obtain ⟨hk, ⟨s0, s1⟩, ⟨f0, f1⟩, mm, rfl, _, m12⟩ := saB_facts h2.2
  obtain ⟨_, _, x, rfl, _⟩ := vrB_facts h2.1
  obtain ⟨j, rfl⟩ : ∃ j : Nat, mm = j + 1 := ⟨mm - 1, by omega⟩
  have e : ((j + 1 : Nat) : Int) - 1 = (j : Int) := by omega
  rw [e]
  have o1 : ssOk rs (x : Int) s t f ((1 : Nat) : Int) = true := by
    simp [ssOk, h2.1, saB, hk, inB]; omega
  have o2 : ssOk rs (x : Int) s t (f + 1) (j : Int) = true := by
    simp [ssOk, h2.1, saB, hk, inB]; omega
  have e1 := ssL_yes o1
  have e2 := ssL_yes o2
  have e3 := ssL_yes h
  refine ⟨o1, o2, ?_, ?_, ?_⟩
  · have := congrArg List.length e1
    rw [serN_len] at this
    exact Nat.lt_of_lt_of_eq (by omega) this.symm
  · rw [e2, serN_len]; omega
  · rw [e2, e3, serN_cons]
    refine (congrArg (· ++ serN rs x s t (f + 1) j) e1).trans ?_
    rw [serN_cons]
    simp [serN]
theorem Ls.some {w : World} {a : Option Addr} {zs : List Int} (h : Ls w a zs) (h0 : 0 < zs.length) : ∃ b o, a = Option.some ⟨b, o, none⟩ := by
  obtain ⟨b, o, ha, _, _⟩ := h.at_ h0
  exact ⟨b, o, ha⟩
theorem news_ls {w : World} {b off : Nat} {zs : List Int} (h : Ls w (Option.some ⟨b, off, none⟩) zs) : ∀ j u, (zs.map (Value.int .i64))[j]? = Option.some u → w.cell? ((⟨b, off, none⟩ : Addr).add j) = Option.some u := by
  intro j u hj
  have hl : j < zs.length := by simpa using (List.getElem?_eq_some_iff.1 hj).1
  obtain ⟨b', o', he, _, hc⟩ := h.at_ hl
  injection he with he
  injection he with hb ho _
  subst hb
  subst ho
  rw [Addr.add_lit, hc, ← hj]
  simp [hl, List.getD_eq_getElem?_getD]
theorem fresh_own2 {w : World} {base g n c : Nat} {zs : List Int} (h : w.ownsRow base 3 1 (.slice (Option.some ⟨g, 0, none⟩) n c) n (zs.map (Value.int .i64))) (hn : n = zs.length) : Ls w (Option.some ⟨g, 0, none⟩) zs := by
  subst hn
  by_cases hz : zs = []
  · exact .inl hz
  · refine .inr ⟨g, 0, rfl, (World.ownsRow.lt h g rfl).2, fun i hi => ?_⟩
    rw [Nat.zero_add, World.ownsRow.cellAt h i (by omega)]
    simp [hi, List.getD_eq_getElem?_getD]

set_option maxRecDepth 100000 in
set_option maxHeartbeats 3200000 in
theorem walk_FnStoreSeriesPart (a0 : Option Addr) (len0 cap0 : Nat) (z0 : List Int) (w : World) (w0 : IsRow .u8 w a0 len0 cap0 z0) :
    Calls Try.prog 8 #[.slice a0 len0 cap0] w fun e w' => e = .returned (.bool true) ∧ Below w.heap.size w w' := by
  have ha := code_of_row w0
  obtain ⟨hl0, hm0⟩ := ha.1
  unfold maxLen at hm0
  clear w0
  by_cases h : len0 ≤ 1048576
  case' neg =>
    have hd : decide (1048576 < (len0 : Int)) = true := by simp; omega
    go_enter Try.func8, Try.ntmps8
    go_wp2
    go_ret
    exact ⟨rfl, Below.refl _ _⟩
  have hd : decide (1048576 < (len0 : Int)) = false := by simp; omega
  obtain ⟨i0, hi, hz0, hz1, hz2⟩ := info_parts infoIntS
  go_enter Try.func8, Try.ntmps8
  go_wp2_with fail
  refine (drawStoreSeries a0 len0 cap0 _ ha).mono ?_
  rintro e w1 ⟨g, c, rs, n, s, t, f, m, rfl, hl, hcl, hF, ⟨f0, f1⟩, ⟨m0, m1⟩, k1⟩
  have hL1 := hF.rs
  have hz := ssL_len rs n s t f m
  clear ha hF
  go_wp2_with fail
  refine (ss_impl _ c rs n s t f m _ hL1 (by omega) (by omega)).mono ?_
  rintro e w2 ⟨p, q, rfl, hF2, k2⟩
  go_wp2_with fail
  refine (ss_spec _ c rs n s t f m _ (hL1.keep k2) (by omega) (by omega)).mono ?_
  rintro e w3 ⟨p3, q3, rfl, hF3, k3⟩
  have kk : Keep w w3 := (k1.trans k2).trans k3
  have hL := (hL1.keep k2).keep k3
  have hO := hF2.ls.keep k3
  have hW := hF3.ls
  clear hF2 hF3 hL1
  rcases Bool.eq_false_or_eq_true (ssOk rs n s t f m) with hs | hs
  case' inr =>
    generalize ssL rs n s t f m = L at *
    rw [hs]
    clear hs
    go_wp2_with fail
    refine (sI_same p p3 q q3 L _ hO hW (by omega)).mono ?_
    rintro e w5 ⟨rfl, k5⟩
    go_wp2_with fail
    refine (sI_same p p3 q q3 L _ (hO.keep k5) (hW.keep k5) (by omega)).mono ?_
    rintro e w7 ⟨rfl, k7⟩
    go_wp2
    go_ret
    exact ⟨rfl, (kk.trans k5).trans k7⟩
  by_cases hm2 : m < 2
  · have d2 : decide (m < 2) = true := by simp; omega
    generalize ssL rs n s t f m = L at *
    rw [hs]
    clear hs
    go_wp2_with fail
    refine (sI_same p p3 q q3 L _ hO hW (by omega)).mono ?_
    rintro e w5 ⟨rfl, k5⟩
    go_wp2_with fail
    refine (sI_same p p3 q q3 L _ (hO.keep k5) (hW.keep k5) (by omega)).mono ?_
    rintro e w7 ⟨rfl, k7⟩
    go_wp2
    go_ret
    exact ⟨rfl, (kk.trans k5).trans k7⟩
  have d2 : decide (m < 2) = false := by simp; omega
  by_cases hf9 : f = 999
  · subst hf9
    generalize ssL rs n s t 999 m = L at *
    rw [hs]
    clear hs
    go_wp2_with fail
    refine (sI_same p p3 q q3 L _ hO hW (by omega)).mono ?_
    rintro e w5 ⟨rfl, k5⟩
    go_wp2_with fail
    refine (sI_same p p3 q q3 L _ (hO.keep k5) (hW.keep k5) (by omega)).mono ?_
    rintro e w7 ⟨rfl, k7⟩
    go_wp2
    go_ret
    exact ⟨rfl, (kk.trans k5).trans k7⟩
  have d9 : (f == 999) = false := by simpa using hf9
  have HP := Lib.hid (part_facts hs (by omega) hf9)
  have HZ1 := Lib.hid (ssL_len rs n s t f 1)
  have HZ2 := Lib.hid (ssL_len rs n s t (f + 1) (m - 1))
  rw [hs]
  clear hs
  generalize ssL rs n s t f m = L at *
  go_wp2_with fail
  refine (sI_same p p3 q q3 L _ hO hW (by omega)).mono ?_
  rintro e w4 ⟨rfl, k5⟩
  have hL4 := hL.keep k5
  have hO4 := hO.keep k5
  have K4 : Keep w w4 := kk.trans k5
  clear hL hO hW k1 k2 k3 k5 kk
  go_wp2_with fail
  refine (ss_impl _ c rs n s t f 1 _ hL4 (by omega) (by omega)).mono ?_
  rintro e w5 ⟨pa, qa, he, hFa, ka⟩
  rw [HP.out.1] at he
  subst he
  go_wp2_with fail
  refine (ss_impl _ c rs n s t (f + 1) (m - 1) _ (hL4.keep ka) (by omega) (by omega)).mono ?_
  rintro e w6 ⟨pb, qb, he, hFb, kb⟩
  rw [HP.out.2.1] at he
  subst he
  have hA := hFa.ls.keep kb
  have hB := hFb.ls
  have hO6 := (hO4.keep ka).keep kb
  have K6 : Keep w w6 := (K4.trans ka).trans kb
  have hz1' := HZ1.out
  have hz2' := HZ2.out
  have n1 := HP.out.2.2.1
  have n2 := HP.out.2.2.2.1
  have HPL := Lib.hid HP.out.2.2.2.2
  clear HP hFa hFb hL4 hO4 K4 ka kb
  generalize ssL rs n s t f 1 = LA at *
  generalize ssL rs n s t (f + 1) (m - 1) = LB at *
  obtain ⟨ga, oa, rfl⟩ := hA.some n1
  obtain ⟨gb, ob, rfl⟩ := hB.some n2
  have hown := World.ownsRow_made (base := w6.heap.size) (e := 3) (size := 1) w6 #[] 0 (Nat.le_refl _) (by unfold maxLen; omega) rfl
  have kA : Keep w6 (w6.alloc (.cells #[] 3)) := (Keep.refl w6).alloc _
  go_wp2_with (at_builtin; go_loud (refine app_own_g rfl _ _ 40 rfl w6.heap.size 3 i0 (.int .i64 0) 1 8 Try.underlying40 hi hz0 hz1 hz2 rfl (by decide) _ _ _ rfl hown ⟨ga, oa, none⟩ LA.length qa (LA.map (Value.int .i64)) rfl ?la ?ca ?ka ?ma ?ba ?sa ?_))
  case la => simp
  case ca => exact news_ls (hA.keep kA)
  case ka => intro u hu; simp at hu; obtain ⟨z, _, rfl⟩ := hu; rfl
  case ma => unfold maxLen; omega
  case ba => omega
  case sa => first | omega | exact k7.size | (simp; try omega)
  intro v5 w7 hown7 hgrow7
  have k7 : Keep w6 w7 := Below.grown kA hgrow7 kA.size (fun q hq => (hown.lt q hq).1)
  have ho7 : w7.ownsRow w6.heap.size 3 1 v5 LA.length (LA.map (Value.int .i64)) := by simpa using hown7
  clear hown7 hgrow7 hown kA
  go_wp2_with (at_builtin; go_loud (refine app_own_g rfl _ _ 40 rfl w6.heap.size 3 i0 (.int .i64 0) 1 8 Try.underlying40 hi hz0 hz1 hz2 rfl (by decide) _ _ _ rfl ho7 ⟨gb, ob, none⟩ LB.length qb (LB.map (Value.int .i64)) rfl ?lb ?cb ?kb ?mb ?bb ?sb ?_))
  case lb => simp
  case cb => exact news_ls (hB.keep k7)
  case kb => intro u hu; simp at hu; obtain ⟨z, _, rfl⟩ := hu; rfl
  case mb => unfold maxLen; omega
  case bb => omega
  case sb => first | omega | exact k7.size | (simp; try omega)
  intro v6 w8 hown8 hgrow8
  have k8 : Keep w6 w8 := Below.grown k7 hgrow8 k7.size (fun q hq => (ho7.lt q hq).1)
  have ho8 : w8.ownsRow w6.heap.size 3 1 v6 (LA.length + LB.length) ((LA ++ LB).map (Value.int .i64)) := by rw [List.map_append]; exact hown8
  obtain ⟨g', c', rfl, hbg, hlg⟩ := ho8.form (by omega)
  have HLL : Hid (LA.length + LB.length = L.length) := Lib.hid (by rw [← HPL.out, List.length_append])
  have hN := (fresh_own2 ho8 (by simp) : Ls w8 (some ⟨g', 0, none⟩) (LA ++ LB))
  rw [HPL.out] at hN
  clear hown8 hgrow8 ho7 ho8 hA hB
  rw [HLL.out]
  go_wp2_with fail
  refine (sI_same _ p c' q L _ hN (hO6.keep k8) (by omega)).mono ?_
  rintro e w9 ⟨rfl, k9⟩
  go_wp2
  go_ret
  exact ⟨rfl, (K6.trans k8).trans k9⟩
end Go.Proofs.Ytkapnbfjpglblab
