/- A report added to a store: the model's function. -/
import Derived.Test.YtnemdnidlbekbaaGreatDoorSa
import Derived.Deep.AppendLies
import Derived.Deep.RegionLaw
namespace Go.Proofs.YtnemdnidlbekbaaGreatDoor
open Go.RowKit
set_option linter.unusedVariables false

/-- append onto a row of one's own, as a step of a region that draws its order; the source may be empty. -/
theorem step_app_own {P : Program} {w : World} {ops : Array Oper} {o : Oper} {a : Act} {K : Act → World → Prop} {Q : Exit → Act → World → Prop} {E : Prop} (hgd : o.guard = none) (s x : Operand) (t : TypeId)
    (ho : o.op = .call { callee := .builtin .append, args := #[s, x], argTypes := #[t, t] })
    (base : Nat) (e : TypeId) (i : TypeInfo) (z : Value) (size bytes : Nat) (ht : P.underlying t = some (.slice e)) (hi : P.info? e = some i) (hz : i.zero = some z)
    (hsize : i.size = size) (hby : i.bytes = bytes) (hzs : z.cells.size = size) (hsz : 0 < size)
    (v : Value) (n : Nat) (xs : List Value) (hs : a.eval s = v) (hown : w.ownsRow base e size v n xs)
    (ad : Addr) (m c : Nat) (news : List Value) (hx : a.eval x = .slice (some ad) m c) (hl : news.length = m * size) (hnews : ∀ j u, news[j]? = some u → w.cell? (ad.add j) = some u) (h1 : ∀ u ∈ news, u.oneCell' = true)
    (h63 : n + m ≤ maxLen) (hbytes : (n + m) * bytes ≤ 140737488355328) (hbase : base ≤ w.heap.size)
    (h : ∀ v' w', w'.ownsRow base e size v' (n + m) (xs ++ news) → w.grownBy w' v.ownBlock → K (a.put o.dst v') w') :
    if Region.wanted o (yielded ops a.tmps) = true then Oper.wp P o a w K Q else E := by
  have hw : Region.wanted o (yielded ops a.tmps) = true := by simp [Region.wanted, hgd]
  rw [if_pos hw]
  exact wp_append_own w s x t ho base e i z size bytes ht hi hz hsize hby hzs hsz v n xs hs hown ad m c news hx hl hnews h1 h63 hbytes hbase fun v' w' h2 h3 _ => h v' w' h2 h3

theorem newsB {w w' : World} {n : Nat} {row : Option Nat} {s d k v : Int} (hg : w.grownBy w' row) (hc : ∀ j : Nat, w.cell? ⟨n, j, none⟩ = (#[.int .i64 s, .int .i64 d, .int .i64 k, .int .i64 v] : Array Value)[j]?) (hlt : n < w.heap.size) (hne : some n ≠ row) :
    ∀ j u, (rc (s, d, k, v))[j]? = some u → w'.cell? ((⟨n, 0, none⟩ : Addr).add j) = some u := by
  intro j u hj
  rw [Addr.add_lit, Nat.zero_add, hg.cell_far ⟨n, j, none⟩ hlt hne, hc j, ← hj]
  simp [rc, rS, rD, rK, rV]
theorem newsN (w : World) {s d k v : Int} :
    ∀ j u, (rc (s, d, k, v))[j]? = some u → (w.alloc (.cells #[.int .i64 s, .int .i64 d, .int .i64 k, .int .i64 v] 54)).cell? ((⟨w.heap.size, 0, none⟩ : Addr).add j) = some u := by
  intro j u hj
  rw [Addr.add_lit, Nat.zero_add, World.cell?_alloc_new, ← hj]
  simp [rc, rS, rD, rK, rV]

set_option maxRecDepth 100000 in
set_option maxHeartbeats 4000000 in
theorem sad_spec (b off cap : Nat) (rs : List R4) (s d k v : Int) (w : World) (h : Rs w (some ⟨b, off, none⟩) rs) (hm : rs.length ≤ 4611686018427387904) (hc : rs.length ≤ cap) :
    Calls Tryz.prog 41 #[.slice (some ⟨b, off, none⟩) rs.length cap, .agg #[.int .i64 s, .int .i64 d, .int .i64 k, .int .i64 v]] w (AdPost rs (s, d, k, v) w) := by
  rcases Bool.eq_false_or_eq_true (stB rs) with hs | hs
  case' inr =>
    have H := Lib.hid (adL_no (rs := rs) (r := (s, d, k, v)) (by rw [hs]; rfl))
    go_enter Tryz.func41, Tryz.ntmps41
    go_wp2_with (go_at_call 61; refine (sv_spec _ cap rs _ (h.alloc _) hm).mono ?_; rintro e w1 ⟨he, k1⟩; rw [hs] at he; subst he)
    go_ret2
    exact ⟨_, 0, by rw [H.out.1, H.out.2]; rfl, by rw [H.out.1]; simp, .inl H.out.1, (((Keep.refl w).alloc _).trans k1).alloc _⟩
  have hl := (stB_facts hs).2
  have HS := Lib.hid hs
  clear hs
  rcases Bool.eq_false_or_eq_true (rOk s d k v) with hr | hr
  case' inr =>
    have H := Lib.hid (adL_no (rs := rs) (r := (s, d, k, v)) (by rw [HS.out]; exact hr))
    have HR := Lib.hid hr
    clear hr
    go_enter Tryz.func41, Tryz.ntmps41
    go_wp2_with (go_at_call 61; refine (sv_spec _ cap rs _ (h.alloc _) hm).mono ?_; rintro e w1 ⟨he, k1⟩; rw [HS.out] at he; subst he; have n0 := k1.new 0 (v := .int .i64 s) rfl; have n1 := k1.new 1 (v := .int .i64 d) rfl; have n2 := k1.new 2 (v := .int .i64 k) rfl; have n3 := k1.new 3 (v := .int .i64 v) rfl)
    go_wp2_with (go_at_call 42; refine (rv_spec s d k v _).mono ?_; rintro e w2 ⟨he, k2⟩; rw [HR.out] at he; subst he)
    go_ret2
    exact ⟨_, 0, by rw [H.out.1, H.out.2]; rfl, by rw [H.out.1]; simp, .inl H.out.1, ((((Keep.refl w).alloc _).trans k1).trans k2).alloc _⟩
  have HR := Lib.hid hr
  have HSR : Hid ((stB rs && rB (s, d, k, v)) = true) := Lib.hid (by rw [HS.out]; exact hr)
  obtain ⟨i0, hi, hz0, hz1, hz2⟩ := info_parts infoRep
  clear hr
  by_cases h40 : rs.length = 40
  · have H := Lib.hid (adL_full HSR.out h40)
    replace h40 := Lib.hid h40
    go_enter Tryz.func41, Tryz.ntmps41
    go_wp2_with fail
    refine (sv_spec _ cap rs _ (h.alloc _) hm).mono ?_
    rintro e w1 ⟨he, k1⟩
    rw [HS.out] at he
    subst he
    have n0 := k1.new 0 (v := .int .i64 s) rfl
    have n1 := k1.new 1 (v := .int .i64 d) rfl
    have n2 := k1.new 2 (v := .int .i64 k) rfl
    have n3 := k1.new 3 (v := .int .i64 v) rfl
    go_wp2_with fail
    refine (rv_spec s d k v _).mono ?_
    rintro e w2 ⟨he, hk2⟩
    rw [HR.out] at he
    subst he
    have k2 : Keep w1 w2 := hk2
    have m0 := k2.cell n0
    have m1 := k2.cell n1
    have m2 := k2.cell n2
    have m3 := k2.cell n3
    have k12 := ((Keep.refl w).alloc (.cells #[.int .i64 s, .int .i64 d, .int .i64 k, .int .i64 v] 54)).trans (k1.trans k2)
    have HR2 := Lib.hid (h.keep k12)
    clear n0 n1 n2 n3
    have d40 : decide (40 ≤ (rs.length : Int)) = true := by have := h40.out; simp; omega
    have hown := World.ownsRow_made (base := w2.heap.size) (e := 54) (size := 4) w2 #[] 0 (Nat.le_refl _) (by unfold maxLen; omega) rfl
    have HR3 := HR2.out.alloc (.cells #[] 54)
    go_wp2_with (at_builtin; refine wpList_append_own _ rfl _ _ 32 rfl w2.heap.size 54 i0 (.agg #[.int .i64 0, .int .i64 0, .int .i64 0, .int .i64 0]) 4 32 Tryz.underlying32 hi hz0 hz1 hz2 rfl (by decide) _ _ _ rfl hown ⟨b, off, none⟩ rs.length cap (flatR rs) rfl ?la ?ca ?ka ?ma ?ba ?sa ?_)
    case la => exact flatR_len rs
    case ca => exact news_rs HR3
    case ka => exact flat_one
    case ma => unfold maxLen; omega
    case ba => omega
    case sa => first | omega | (simp; try omega)
    intro v' w5 hown' hgrow hnil
    try rw [Nat.zero_add] at hown'
    try rw [List.nil_append] at hown'
    obtain ⟨g', c', rfl, hbg, hlg⟩ := hown'.form (by have := h40.out; omega)
    have HW := Lib.hid (wrR_own hown' rfl)
    have hcp := own_cap hown'
    have HK2 := Lib.hid ((Below.grown ((Keep.refl w2).alloc (.cells #[] 54)) hgrow ((Keep.refl w2).alloc (.cells #[] 54)).size (fun q hq => (hown.lt q hq).1)) : Keep w2 w5)
    clear hown' hgrow hnil hown HR3
    go_wp2
    go_ret2
    have hs2 := k12.size
    exact ⟨g', c', by rw [H.out.1, H.out.2]; rfl, by rw [H.out.1]; exact hcp, .inr ⟨g', rfl, Nat.le_trans hs2 hbg, hlg, by rw [H.out.1]; exact HW.out⟩, k12.trans HK2.out⟩
  · have H := Lib.hid (adL_yes HSR.out (by omega : rs.length < 40))
    have h39 : rs.length < 40 := by omega
    go_enter Tryz.func41, Tryz.ntmps41
    go_wp2_with fail
    refine (sv_spec _ cap rs _ (h.alloc _) hm).mono ?_
    rintro e w1 ⟨he, k1⟩
    rw [HS.out] at he
    subst he
    have n0 := k1.new 0 (v := .int .i64 s) rfl
    have n1 := k1.new 1 (v := .int .i64 d) rfl
    have n2 := k1.new 2 (v := .int .i64 k) rfl
    have n3 := k1.new 3 (v := .int .i64 v) rfl
    go_wp2_with fail
    refine (rv_spec s d k v _).mono ?_
    rintro e w2 ⟨he, hk2⟩
    rw [HR.out] at he
    subst he
    have k2 : Keep w1 w2 := hk2
    have m0 := k2.cell n0
    have m1 := k2.cell n1
    have m2 := k2.cell n2
    have m3 := k2.cell n3
    have k12 := ((Keep.refl w).alloc (.cells #[.int .i64 s, .int .i64 d, .int .i64 k, .int .i64 v] 54)).trans (k1.trans k2)
    have HR2 := Lib.hid (h.keep k12)
    clear n0 n1 n2 n3
    have d40 : decide (40 ≤ (rs.length : Int)) = false := by simp; omega
    have hsw : w.heap.size < w2.heap.size := World.block_lt_of_cell? w2 _ m0
    go_wp2_with fail
    have HOC : Hid (((w2.drew.alloc (.cells #[.int .i64 s, .int .i64 d, .int .i64 k, .int .i64 v] 54)).alloc (.cells #[] 54)).ownsRow w2.heap.size 54 4 (.slice (some ⟨w2.heap.size + 1, 0, none⟩) 0 0) 0 []) := Lib.hid (by
      have h1 := (World.ownsRow_made (base := w2.heap.size) (e := 54) (size := 4) (w2.drew.alloc (.cells #[.int .i64 s, .int .i64 d, .int .i64 k, .int .i64 v] 54)) #[] 0 ((Keep.refl w2).drew.alloc (.cells #[.int .i64 s, .int .i64 d, .int .i64 k, .int .i64 v] 54)).size (by unfold maxLen; omega) rfl)
      rw [show (w2.drew.alloc (.cells #[.int .i64 s, .int .i64 d, .int .i64 k, .int .i64 v] 54)).heap.size = w2.heap.size + 1 by simp] at h1
      exact h1)
    go_region_law (first
      | (refine step_app_own rfl _ _ _ rfl w2.heap.size 54 i0 _ 4 32 Tryz.underlying32 hi hz0 hz1 hz2 rfl (by decide) (.slice (some ⟨w2.heap.size, 0, none⟩) 0 0) 0 [] rfl (World.ownsRow_made (base := w2.heap.size) (e := 54) (size := 4) w2.drew #[] 0 (Keep.refl w2).drew.size (by unfold maxLen; omega) rfl) ⟨b, off, none⟩ rs.length cap (flatR rs) rfl (flatR_len rs) (news_rs (HR2.out.keep ((Keep.refl w2).drew.alloc (.cells #[] 54)))) flat_one (by unfold maxLen; omega) (by omega) ((Keep.refl w2).drew.alloc (.cells #[] 54)).size ?_
         intro v1 wN hown1 hgrow1
         have hKN : Keep w2 wN := Below.grown ((Keep.refl w2).drew.alloc (.cells #[] 54)) hgrow1 ((Keep.refl w2).drew.alloc (.cells #[] 54)).size (fun q hq => ((World.ownsRow_made (base := w2.heap.size) (e := 54) (size := 4) w2.drew #[] 0 (Keep.refl w2).drew.size (by unfold maxLen; omega) rfl).lt q hq).1)
         have x0 := hKN.cell m0
         have x1 := hKN.cell m1
         have x2 := hKN.cell m2
         have x3 := hKN.cell m3
         have ho : wN.ownsRow w2.heap.size 54 4 v1 rs.length (flatR rs) := by simpa using hown1
         clear hown1 hgrow1)
      | (refine step_app_own rfl _ _ _ rfl w2.heap.size 54 i0 _ 4 32 Tryz.underlying32 hi hz0 hz1 hz2 rfl (by decide) (.slice (some ⟨w2.heap.size, 0, none⟩) 0 0) 0 [] rfl ((World.ownsRow_made (base := w2.heap.size) (e := 54) (size := 4) w2.drew #[] 0 (Keep.refl w2).drew.size (by unfold maxLen; omega) rfl).alloc (.cells #[.int .i64 s, .int .i64 d, .int .i64 k, .int .i64 v] 54)) ⟨b, off, none⟩ rs.length cap (flatR rs) rfl (flatR_len rs) (news_rs (HR2.out.keep (((Keep.refl w2).drew.alloc (.cells #[] 54)).alloc (.cells #[.int .i64 s, .int .i64 d, .int .i64 k, .int .i64 v] 54)))) flat_one (by unfold maxLen; omega) (by omega) (((Keep.refl w2).drew.alloc (.cells #[] 54)).alloc (.cells #[.int .i64 s, .int .i64 d, .int .i64 k, .int .i64 v] 54)).size ?_
         intro v1 wN hown1 hgrow1
         have hKN : Keep w2 wN := Below.grown (((Keep.refl w2).drew.alloc (.cells #[] 54)).alloc (.cells #[.int .i64 s, .int .i64 d, .int .i64 k, .int .i64 v] 54)) hgrow1 (((Keep.refl w2).drew.alloc (.cells #[] 54)).alloc (.cells #[.int .i64 s, .int .i64 d, .int .i64 k, .int .i64 v] 54)).size (fun q hq => (((World.ownsRow_made (base := w2.heap.size) (e := 54) (size := 4) w2.drew #[] 0 (Keep.refl w2).drew.size (by unfold maxLen; omega) rfl).alloc (.cells #[.int .i64 s, .int .i64 d, .int .i64 k, .int .i64 v] 54)).lt q hq).1)
         have x0 := hKN.cell m0
         have x1 := hKN.cell m1
         have x2 := hKN.cell m2
         have x3 := hKN.cell m3
         have ho : wN.ownsRow w2.heap.size 54 4 v1 rs.length (flatR rs) := by simpa using hown1
         have hBk : ∀ j u, (rc (s, d, k, v))[j]? = some u → wN.cell? ((⟨w2.heap.size + 1, 0, none⟩ : Addr).add j) = some u := newsB hgrow1 (fun j => by
           have h1 := World.cell?_alloc_new (w2.drew.alloc (.cells #[] 54)) #[.int .i64 s, .int .i64 d, .int .i64 k, .int .i64 v] 54 j
           rw [show (w2.drew.alloc (.cells #[] 54)).heap.size = w2.heap.size + 1 by simp] at h1
           exact h1) (by simp) (by simp [Value.ownBlock])
         clear hown1 hgrow1)
      | (refine step_app_own rfl _ _ _ rfl w2.heap.size 54 i0 _ 4 32 Tryz.underlying32 hi hz0 hz1 hz2 rfl (by decide) _ rs.length (flatR rs) rfl (ho.alloc (.cells #[.int .i64 s, .int .i64 d, .int .i64 k, .int .i64 v] 54)) ⟨wN.heap.size, 0, none⟩ 1 1 (rc (s, d, k, v)) rfl rfl (newsN wN) (rc_one _) (by unfold maxLen; omega) (by omega) (hKN.alloc (.cells #[.int .i64 s, .int .i64 d, .int .i64 k, .int .i64 v] 54)).size ?_
         intro v2 wF hown2 hgrow2
         have HFK : Hid (Keep w2 wF) := Lib.hid (Below.grown (hKN.alloc (.cells #[.int .i64 s, .int .i64 d, .int .i64 k, .int .i64 v] 54)) hgrow2 (hKN.alloc (.cells #[.int .i64 s, .int .i64 d, .int .i64 k, .int .i64 v] 54)).size (fun q hq => ((ho.alloc (.cells #[.int .i64 s, .int .i64 d, .int .i64 k, .int .i64 v] 54)).lt q hq).1))
         have HFO : Hid (wF.ownsRow w2.heap.size 54 4 v2 (rs.length + 1) (flatR (rs ++ [(s, d, k, v)]))) := Lib.hid (by rw [flatR_app, flatR_one]; exact hown2)
         clear hown2 hgrow2)
      | (refine step_app_own rfl _ _ _ rfl w2.heap.size 54 i0 _ 4 32 Tryz.underlying32 hi hz0 hz1 hz2 rfl (by decide) _ rs.length (flatR rs) rfl ho ⟨_, 0, none⟩ 1 1 (rc (s, d, k, v)) rfl rfl hBk (rc_one _) (by unfold maxLen; omega) (by omega) hKN.size ?_
         intro v2 wF hown2 hgrow2
         have HFK : Hid (Keep w2 wF) := Lib.hid (Below.grown hKN hgrow2 hKN.size (fun q hq => (ho.lt q hq).1))
         have HFO : Hid (wF.ownsRow w2.heap.size 54 4 v2 (rs.length + 1) (flatR (rs ++ [(s, d, k, v)]))) := Lib.hid (by rw [flatR_app, flatR_one]; exact hown2)
         clear hown2 hgrow2)
      | (refine step_app_own rfl _ _ _ rfl w2.heap.size 54 i0 _ 4 32 Tryz.underlying32 hi hz0 hz1 hz2 rfl (by decide) (.slice (some ⟨w2.heap.size + 1, 0, none⟩) 0 0) 0 [] rfl HOC.out ⟨b, off, none⟩ rs.length cap (flatR rs) rfl (flatR_len rs) (news_rs (HR2.out.keep (((Keep.refl w2).drew.alloc (.cells #[.int .i64 s, .int .i64 d, .int .i64 k, .int .i64 v] 54)).alloc (.cells #[] 54)))) flat_one (by unfold maxLen; omega) (by omega) (((Keep.refl w2).drew.alloc (.cells #[.int .i64 s, .int .i64 d, .int .i64 k, .int .i64 v] 54)).alloc (.cells #[] 54)).size ?_
         intro v1 wN hown1 hgrow1
         have hKN : Keep w2 wN := Below.grown (((Keep.refl w2).drew.alloc (.cells #[.int .i64 s, .int .i64 d, .int .i64 k, .int .i64 v] 54)).alloc (.cells #[] 54)) hgrow1 (((Keep.refl w2).drew.alloc (.cells #[.int .i64 s, .int .i64 d, .int .i64 k, .int .i64 v] 54)).alloc (.cells #[] 54)).size (fun q hq => (HOC.out.lt q hq).1)
         have x0 := hKN.cell m0
         have x1 := hKN.cell m1
         have x2 := hKN.cell m2
         have x3 := hKN.cell m3
         have ho : wN.ownsRow w2.heap.size 54 4 v1 rs.length (flatR rs) := by simpa using hown1
         have hBk : ∀ j u, (rc (s, d, k, v))[j]? = some u → wN.cell? ((⟨w2.heap.size, 0, none⟩ : Addr).add j) = some u := newsB hgrow1 (fun j =>
           (World.cell?_of_block (w := w2.drew.alloc (.cells #[.int .i64 s, .int .i64 d, .int .i64 k, .int .i64 v] 54)) (w' := (w2.drew.alloc (.cells #[.int .i64 s, .int .i64 d, .int .i64 k, .int .i64 v] 54)).alloc (.cells #[] 54)) (a := ⟨w2.heap.size, j, none⟩) (RowKit.Below.heap_alloc _ _ _ (by simp))).trans (World.cell?_alloc_new w2.drew _ _ j)) (by first | (simp; done) | (simp; omega)) (by simp [Value.ownBlock])
         clear hown1 hgrow1))
    all_goals
      obtain ⟨g', c', rfl, hbg, hlg⟩ := HFO.out.form (by omega)
      have HW := Lib.hid (wrR_own HFO.out (by simp))
      have hcp := own_cap HFO.out
      have hs2 := k12.size
      go_wp2
      go_ret2
      exact ⟨g', c', by rw [H.out.1, H.out.2, List.length_append]; rfl, by rw [H.out.1, List.length_append]; exact hcp, .inr ⟨g', rfl, Nat.le_trans hs2 hbg, hlg, by rw [H.out.1]; exact HW.out⟩, k12.trans HFK.out⟩
end Go.Proofs.YtnemdnidlbekbaaGreatDoor
