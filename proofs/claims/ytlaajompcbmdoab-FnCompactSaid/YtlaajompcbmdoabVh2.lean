/- slices.Compact at a slice of ints of the call's own; histories: the program answers 'hsL'. -/
import Derived.Test.YtlaajompcbmdoabVw
import Derived.Test.YtlaajompcbmdoabVk
import Derived.Test.YtlaajompcbmdoabSg
import Derived.Test.YtlaajompcbmdoabOi
import Derived.Test.YtlaajompcbmdoabShelf
import Derived.Test.YtlaajompcbmdoabSa
import Derived.Test.YtlaajompcbmdoabRd
import Derived.Sort.OwnSortedInts
import Derived.Deep.RegionHeld3
import Derived.Outline
import Derived.LoopTactic
namespace Go.Proofs.Ytlaajompcbmdoab
open Go.RowKit
set_option linter.unusedVariables false

open Go.Lib Go.Sort in
theorem compact_any (g c : Nat) (zs : List Int) (w : World) (h : Wr w g zs) (h0 : 0 < zs.length) (hm : zs.length ≤ 1048576) (hc : zs.length ≤ c) :
    Calls Try.prog 50 #[.slice (some ⟨g, 0, none⟩) zs.length c] w fun e w' => e = .returned (.slice (some ⟨g, 0, none⟩) (Lib.compact zs).length c) ∧ Wr w' g (Lib.compact zs) ∧ Only g w w' := by
  have hH : Holds (Value.int .i64) w g 0 zs.toArray := by
    intro i hi
    have hi' : i < zs.length := by simpa using hi
    obtain ⟨c1, f1⟩ := h i hi'
    rw [Nat.zero_add]
    refine ⟨?_, f1⟩
    rw [c1]
    congr 2
    rw [getElem!_pos _ i hi]
    simp [List.getD_eq_getElem?_getD, hi']
  have hlen : (Lib.compact zs).length ≤ zs.length := by
    unfold Lib.compact Lib.compactUpTo
    rw [List.length_map]
    exact Nat.le_trans (List.length_filter_le _ _) (by simp)
  refine (Try.slices_Compact_int g 0 c zs w hH (by omega) hc).mono ?_
  rintro e w' ⟨rfl, q, rfl⟩
  refine ⟨rfl, ?_, ?_⟩
  · have hA : Holds (Value.int .i64) (Sort.ahead w q) g 0 zs.toArray := holds_ahead _ w q g 0 _ hH
    have h2 := holds_putRow (Value.int .i64) (Sort.ahead w q) g 0 zs.toArray (Lib.compact zs ++ List.replicate (zs.length - (Lib.compact zs).length) 0).toArray hA (by simp; omega)
    intro j hj
    obtain ⟨c1, f1⟩ := h2 j (by simp; omega)
    rw [Nat.zero_add] at c1 f1
    refine ⟨?_, f1⟩
    rw [c1]
    congr 2
    rw [getElem!_pos _ j (by simp; omega)]
    simp [List.getElem_append_left hj, List.getD_eq_getElem?_getD, hj]
  · have hO := Go.grownBy_sortedI (w := w) (g := g) (n := q) (os := #[]) (Lib.compact zs ++ List.replicate (zs.length - (Lib.compact zs).length) 0).toArray
    have e : grow (putRow (Value.int .i64) (Sort.ahead w q) g 0 (Lib.compact zs ++ List.replicate (zs.length - (Lib.compact zs).length) 0).toArray) #[] = putRow (Value.int .i64) (Sort.ahead w q) g 0 (Lib.compact zs ++ List.replicate (zs.length - (Lib.compact zs).length) 0).toArray := by simp [grow]; rfl
    rw [e] at hO
    exact hO
set_option maxRecDepth 100000 in
set_option maxHeartbeats 4000000 in
theorem hs_impl (a : Option Addr) (cap : Nat) (rs : List R4) (s d t : Int) (w : World) (h : Rs w a rs) (hm : rs.length ≤ 1048576) :
    Calls Try.prog 19 #[.slice a rs.length cap, .agg #[.int .i64 s, .int .i64 d, .int .i64 t]] w (FrPostO (hsL rs s d t) w) := by
  rcases Bool.eq_false_or_eq_true (stB rs) with hs | hs
  case' inr =>
    have H : Hid (hsL rs s d t = []) := Lib.hid (hsL_no hs s d t)
    go_enter Try.func19, Try.ntmps19
    go_wp2_with fail
    refine (sv_impl a cap rs _ (h.alloc _) (by omega)).mono ?_
    rintro e w1 ⟨he, k1⟩
    rw [hs] at he
    subst he
    go_wp2
    go_ret
    exact ⟨none, 0, by rw [H.out]; rfl, .inl H.out, ((Keep.refl w).alloc _).trans k1⟩
  have hl := (stB_facts hs).2
  have HO := Lib.hid (hsL_yes hs s d t)
  have HB := Lib.hid hs
  have HC := Lib.hid (cmp_ha (stB_facts hs).1 s d t rs.length (Nat.le_refl _))
  obtain ⟨i0, hi, hz0, hz1, hz2⟩ := info_parts infoIntS
  have HSV := Lib.hid (fun W (k : Keep w W) => sv_impl a cap rs W (h.keep k) (by omega))
  rw [hs] at HSV
  clear hs
  go_enter Try.func19, Try.ntmps19
  go_wp2_with fail
  refine (HSV.out _ ((Keep.refl w).alloc _)).mono ?_
  rintro e w1 ⟨rfl, k1⟩
  have kb0 := k1.cell (b := w.heap.size) (o := 0) (v := .int .i64 s) (by go_simp)
  have kb1 := k1.cell (b := w.heap.size) (o := 1) (v := .int .i64 d) (by go_simp)
  have kb2 := k1.cell (b := w.heap.size) (o := 2) (v := .int .i64 t) (by go_simp)
  have K1 : Keep w w1 := ((Keep.refl w).alloc _).trans k1
  have hz := K1.size
  clear k1 HSV
  go_wp2_with fail
  go_loopw [5, 13] (fun u i wr => ∃ (k n c : Nat) (ga : Option Addr), k ≤ rs.length ∧ i = .int .i64 k ∧ u = .slice ga n c ∧ Hid (n = (haN rs s d t k).length) ∧ Hid (wr.ownsRow w1.heap.size 3 1 (.slice ga n c) n ((haN rs s d t k).map (Value.int .i64))) ∧ Keep w1 wr) (fun _ i _ => rs.length - (intOf i).toNat)
  case atStart => exact ⟨0, 0, 0, none, by omega, rfl, rfl, Lib.hid rfl, Lib.hid (World.ownsRow_nil w1 _ _ _), Keep.refl w1⟩
  case round =>
    obtain ⟨k, n, c, ga, hk, rfl, rfl, HLN, HW, hK⟩ := hrel
    have hsz := hK.size
    have hln := haN_len rs s d t k
    have hn40 : n ≤ 40 := by rw [HLN.out]; omega
    by_cases hlt : k < rs.length
    · obtain ⟨b, off, rfl, hb, hc⟩ := ((h.keep K1).keep hK).at_ hlt
      have HM : Hid (haN rs s d t (k + 1) = if rM s d t (rs.getD k r0) then haN rs s d t k ++ [rV (rs.getD k r0)] else haN rs s d t k) := Lib.hid rfl
      have HR : Hid (rM s d t (rs.getD k r0) = (decide (rS (rs.getD k r0) = s) && decide (rD (rs.getD k r0) = d) && decide (rK (rs.getD k r0) = t))) := Lib.hid rfl
      obtain ⟨c0, c1, c2, c3⟩ := hc
      generalize rM s d t (rs.getD k r0) = mb at HR HM
      generalize hx0 : rS (rs.getD k r0) = x0 at c0 HR
      generalize hx1 : rD (rs.getD k r0) = x1 at c1 HR
      generalize hx2 : rK (rs.getD k r0) = x2 at c2 HR
      generalize hx3 : rV (rs.getD k r0) = x3 at c3 HM
      clear hx0 hx1 hx2 hx3
      have p0 := hK.cell kb0
      have p1 := hK.cell kb1
      have p2 := hK.cell kb2
      have hcase : ((x0 == s) = false ∧ mb = false) ∨ ((x0 == s) = true ∧ (x1 == d) = false ∧ mb = false) ∨ ((x0 == s) = true ∧ (x1 == d) = true ∧ (x2 == t) = false ∧ mb = false) ∨ (x0 = s ∧ x1 = d ∧ x2 = t ∧ mb = true) := by
        rw [HR.out]
        by_cases h0 : x0 = s <;> by_cases h1 : x1 = d <;> by_cases h2 : x2 = t <;> simp [h0, h1, h2]
      clear HR
      obtain ⟨W0, hW0⟩ : ∃ W0, W0 = wr.alloc (.cells #[.int .i64 x0, .int .i64 x1, .int .i64 x2, .int .i64 x3] 46) := ⟨_, rfl⟩
      have K0 : Keep wr W0 := by rw [hW0]; exact (Keep.refl wr).alloc _
      have r0' : W0.cell? ⟨wr.heap.size, 0, none⟩ = some (.int .i64 x0) := by rw [hW0]; go_simp
      have r1' : W0.cell? ⟨wr.heap.size, 1, none⟩ = some (.int .i64 x1) := by rw [hW0]; go_simp
      have r2' : W0.cell? ⟨wr.heap.size, 2, none⟩ = some (.int .i64 x2) := by rw [hW0]; go_simp
      have r3' : W0.cell? ⟨wr.heap.size, 3, none⟩ = some (.int .i64 x3) := by rw [hW0]; go_simp
      have HSa : ∀ W, Keep W0 W → (W.cell? ⟨w.heap.size, 0, none⟩ = some (.int .i64 s) ∧ W.cell? ⟨w.heap.size, 1, none⟩ = some (.int .i64 d) ∧ W.cell? ⟨w.heap.size, 2, none⟩ = some (.int .i64 t) ∧ W.cell? ⟨wr.heap.size, 0, none⟩ = some (.int .i64 x0) ∧ W.cell? ⟨wr.heap.size, 1, none⟩ = some (.int .i64 x1) ∧ W.cell? ⟨wr.heap.size, 2, none⟩ = some (.int .i64 x2) ∧ W.cell? ⟨wr.heap.size, 3, none⟩ = some (.int .i64 x3)) := fun W kW => ⟨kW.cell (K0.cell p0), kW.cell (K0.cell p1), kW.cell (K0.cell p2), kW.cell r0', kW.cell r1', kW.cell r2', kW.cell r3'⟩
      rcases hcase with ⟨e0, rfl⟩ | ⟨e0, e1, rfl⟩ | ⟨e0, e1, e2, rfl⟩ | ⟨e0, e1, e2, rfl⟩
      case inr.inr.inr =>
        replace e0 := e0.symm
        replace e1 := e1.symm
        replace e2 := e2.symm
        subst e0
        subst e1
        subst e2
        have HN : Hid (haN rs s d t (k + 1) = haN rs s d t k ++ [x3]) := Lib.hid (by rw [HM.out, if_pos rfl])
        clear HM
        go_wp2_with fail
        rw [← hW0]
        clear hW0
        go_region_held3 (fun w' => w'.cell? ⟨w.heap.size, 0, none⟩ = some (.int .i64 s) ∧ w'.cell? ⟨w.heap.size, 1, none⟩ = some (.int .i64 d) ∧ w'.cell? ⟨w.heap.size, 2, none⟩ = some (.int .i64 t) ∧ w'.cell? ⟨wr.heap.size, 0, none⟩ = some (.int .i64 s) ∧ w'.cell? ⟨wr.heap.size, 1, none⟩ = some (.int .i64 d) ∧ w'.cell? ⟨wr.heap.size, 2, none⟩ = some (.int .i64 t) ∧ w'.cell? ⟨wr.heap.size, 3, none⟩ = some (.int .i64 x3)) ((first | (go_simp; done) | exact HSa _ (Keep.refl _) | exact HSa _ ((Keep.refl _).drewN 1) | exact HSa _ kk | go_keep))
          (first | (go_at_call 49; refine (key_impl s d t x3 _).mono ?_; rintro e w2 ⟨rfl, kk'⟩; have kk : Keep W0 w2 := Keep.trans ((Keep.refl W0).drewN 1) kk'))
        have hown : w2.ownsRow w1.heap.size 3 1 (.slice ga n c) n ((haN rs s d t k).map (Value.int .i64)) := own_keep (own_keep HW.out K0) kk
        have q3 := kk.cell r3'
        have HK2 := Lib.hid ((hK.trans K0).trans kk)
        have hs2 : w1.heap.size ≤ w2.heap.size := HK2.out.size
        clear HSa
        go_wp2_with (at_builtin; go_loud (refine wpList_append_own _ rfl _ _ 26 rfl w1.heap.size 3 i0 (.int .i64 0) 1 8 Try.underlying26 hi hz0 hz1 hz2 rfl (by decide) _ _ _ rfl (hown.alloc _) ⟨w2.heap.size, 0, none⟩ 1 1 [.int .i64 x3] rfl rfl ?c1a ?c2a ?c3a ?c4a ?c5a ?_))
        case c1a =>
          intro j u hj
          match j, hj with
          | 0, hj => simp at hj; subst hj; simp [Addr.add]
        case c2a => first | rfl | (intro u hu; simp at hu; subst hu; rfl)
        case c3a => unfold maxLen; omega
        case c4a => omega
        case c5a => first | omega | (simp; omega)
        intro v' w5 hown' hgrow hnil
        obtain ⟨g', c', rfl, hbg, hlg⟩ := hown'.form (by omega)
        have HNew : Hid (w5.ownsRow w1.heap.size 3 1 (.slice (some ⟨g', 0, none⟩) (n + 1) c') (n + 1) ((haN rs s d t (k + 1)).map (Value.int .i64))) := Lib.hid (by rw [HN.out]; simpa using hown')
        have HN2 : Hid (n + 1 = (haN rs s d t (k + 1)).length) := Lib.hid (by rw [HN.out, List.length_append, ← HLN.out]; rfl)
        have HK5 : Hid (Keep w1 w5) := Lib.hid (Below.grown (HK2.out.alloc (.cells #[.int .i64 x3] 3)) hgrow (HK2.out.alloc (.cells #[.int .i64 x3] 3)).size (fun q hq => (hown.lt q hq).1))
        clear hown' hgrow hnil hown
        go_wp2
        go_roundw
        case rel => exact ⟨k + 1, n + 1, c', some ⟨g', 0, none⟩, by omega, by go_num, by go_simp, HN2, HNew, HK5.out⟩
        case measure => simp [intOf]; omega
      all_goals
        have HN : Hid (haN rs s d t (k + 1) = haN rs s d t k) := Lib.hid (by rw [HM.out, if_neg (by simp)])
        clear HM
        go_wp2_with fail
        rw [← hW0]
        clear hW0
        go_region_held3 (fun w' => w'.cell? ⟨w.heap.size, 0, none⟩ = some (.int .i64 s) ∧ w'.cell? ⟨w.heap.size, 1, none⟩ = some (.int .i64 d) ∧ w'.cell? ⟨w.heap.size, 2, none⟩ = some (.int .i64 t) ∧ w'.cell? ⟨wr.heap.size, 0, none⟩ = some (.int .i64 x0) ∧ w'.cell? ⟨wr.heap.size, 1, none⟩ = some (.int .i64 x1) ∧ w'.cell? ⟨wr.heap.size, 2, none⟩ = some (.int .i64 x2) ∧ w'.cell? ⟨wr.heap.size, 3, none⟩ = some (.int .i64 x3)) ((first | (go_simp; done) | exact HSa _ (Keep.refl _) | exact HSa _ ((Keep.refl _).drewN 1) | exact HSa _ kk | go_keep))
          (first | (go_at_call 49; refine (key_impl x0 x1 x2 x3 _).mono ?_; rintro e w2 ⟨rfl, kk'⟩; have kk : Keep W0 w2 := Keep.trans ((Keep.refl W0).drewN 1) kk'))
        have HO2 : Hid (w2.ownsRow w1.heap.size 3 1 (.slice ga n c) n ((haN rs s d t k).map (Value.int .i64))) := Lib.hid (own_keep (own_keep HW.out K0) kk)
        clear HSa
        go_wp2
        go_roundw
        case rel => exact ⟨k + 1, n, c, ga, by omega, by go_num, by go_simp, Lib.hid (by rw [HN.out]; exact HLN.out), Lib.hid (by rw [HN.out]; exact HO2.out), (hK.trans K0).trans kk⟩
        case measure => simp [intOf]; omega
    · obtain rfl : k = rs.length := by omega
      rcases Nat.eq_zero_or_pos n with h0 | h0
      · have hL : haN rs s d t rs.length = [] := List.eq_nil_of_length_eq_zero (by rw [← HLN.out]; exact h0)
        have HE : Hid (hsL rs s d t = []) := Lib.hid (by rw [HO.out, ← HC.out, hL]; rfl)
        subst h0
        clear hL
        go_wp2_with fail
        refine (Try.slices_Compact_int_empty ga c _).mono ?_
        rintro e w5 ⟨rfl, rfl⟩
        go_wp2
        go_ret
        exact ⟨ga, c, by rw [HE.out]; rfl, .inl HE.out, K1.trans hK⟩
      · obtain ⟨g', c', he, hbg, hlg⟩ := World.ownsRow.form HW.out h0
        simp only [Value.slice.injEq, true_and] at he
        obtain ⟨rfl, rfl⟩ := he
        have hWr : Wr wr g' (haN rs s d t rs.length) := fun j hj => ⟨by
          rw [World.ownsRow.cellAt HW.out j (by rw [HLN.out]; omega)]
          simp [hj, List.getD_eq_getElem?_getD], World.ownsRow.frozenAt HW.out j⟩
        have hcc : n ≤ c := own_cap HW.out
        have HCa := Lib.hid (compact_any g' c (haN rs s d t rs.length) wr hWr (by rw [← HLN.out]; exact h0) (by rw [← HLN.out]; omega) (by rw [← HLN.out]; exact hcc))
        rw [← HLN.out, HC.out] at HCa
        go_wp2_with fail
        refine HCa.out.mono ?_
        rintro e w5 ⟨rfl, hW5, hO5⟩
        have hg5 : g' < w5.heap.size := Nat.lt_of_lt_of_le hlg hO5.size
        have hgw : w.heap.size ≤ g' := Nat.le_trans hz hbg
        have hKf : Keep w w5 := Keep.trans' (K1.trans hK) hO5 hgw
        go_wp2
        go_ret
        exact ⟨some ⟨g', 0, none⟩, c, by rw [HO.out]; rfl, by rw [HO.out]; exact .inr ⟨g', rfl, hgw, hg5, hW5⟩, hKf⟩
end Go.Proofs.Ytlaajompcbmdoab
