/- P31: a middle is as far from both ends. -/
import Derived.Test.YtkapnbfjpglblaaHm
import Derived.Test.YtkapnbfjpglblaaDrHm
import Derived.Test.YtkapnbfjpglblaaRf
import Derived.Test.YtkapnbfjpglblaaFr
import Derived.LoopTactic
import Derived.Outline
namespace Go.Proofs.Ytkapnbfjpglblaa
open Go.RowKit
set_option linter.unusedVariables false

theorem min_def' (a b : Int) : min a b = if b < a then b else a := by omega
theorem max_def' (a b : Int) : max a b = if a < b then b else a := by omega

set_option maxRecDepth 100000 in
set_option maxHeartbeats 3200000 in
theorem walk_FnHourMiddle (a0 : Option Addr) (len0 cap0 : Nat) (z0 : List Int) (w : World) (w0 : IsRow .u8 w a0 len0 cap0 z0) :
    Calls Try.prog 9 #[.slice a0 len0 cap0] w fun e w' => e = .returned (.bool true) ∧ Below w.heap.size w w' := by
  have ha := code_of_row w0
  obtain ⟨hl, hm⟩ := ha.1
  unfold maxLen at hm
  clear w0
  by_cases h : len0 ≤ 1048576
  case' neg =>
    have hd : decide (1048576 < (len0 : Int)) = true := by simp; omega
    go_enter Try.func9, Try.ntmps9
    go_wp2
    go_ret
    exact ⟨rfl, Below.refl _ _⟩
  have hd : decide (1048576 < (len0 : Int)) = false := by simp; omega
  go_enter Try.func9, Try.ntmps9
  have hmx := hm
  clear hm
  obtain ⟨i0, hi, hz0, hz1, hz2⟩ := info_parts infoInt'
  go_wp2_with fail
  refine (drawHourMiddle a0 len0 cap0 _ ha).mono ?_
  rintro e w1 ⟨a, c, zs, rfl, hl, hB, hL, k1⟩
  rcases Bool.eq_false_or_eq_true (rdsB zs) with hk | hk
  case' inr =>
    have HK := Lib.hid hk
    clear hk hB
    go_wp2_with fail
    refine (mid_impl a c zs _ hL (by omega)).mono ?_
    rintro e w2 ⟨he, k2⟩
    rw [HK.out] at he
    subst he
    go_wp2_with fail
    refine (mid_spec a c zs _ (hL.keep k2) (by omega)).mono ?_
    rintro e w3 ⟨he, k3⟩
    rw [HK.out] at he
    subst he
    go_wp2
    go_ret
    exact ⟨rfl, (show Keep w _ from (k1.trans k2).trans k3)⟩
  case' inl =>
    obtain ⟨hall, l1, l2⟩ := rds_facts hk
    obtain ⟨o, ho⟩ : ∃ o, rq (mn zs + mx zs) 2 = o := ⟨_, rfl⟩
    have V : Hid (mid zs = o ∧ rdsB zs = true) := Lib.hid ⟨(mid_yes hk).trans ho, hk⟩
    have hrev : rdsB zs.reverse = true := by
      have h2 := hk
      simp only [rdsB, List.all_reverse, List.length_reverse] at h2 ⊢
      exact h2
    have V2 : Hid (mid zs.reverse = o ∧ rdsB zs.reverse = true) := Lib.hid (by
      obtain ⟨e1, e2⟩ := mn_same (ys := zs.reverse) l1 (fun x => List.mem_reverse) (by rw [List.length_reverse]; exact l1)
      exact ⟨by rw [mid_yes hrev, e1, e2]; exact ho, hrev⟩)
    obtain ⟨r1, r2⟩ := rq_two (mn zs) (mx zs)
    rw [ho] at r1 r2
    have HR : Hid (-1 ≤ 2 * o - mn zs - mx zs ∧ 2 * o - mn zs - mx zs ≤ 1) := Lib.hid ⟨r1, r2⟩
    obtain ⟨⟨b0, b1⟩, b2, b3⟩ := mn_bd hall l1
    have o0 : -1000 ≤ o := by omega
    have o1 : o ≤ 11000 := by omega
    have HA := Lib.hid hall
    clear r1 r2 ho hall hrev hk hB b0 b1 b2 b3
    go_wp2_with fail
    refine (mid_impl a c zs _ hL (by omega)).mono ?_
    rintro e w2 ⟨he, k2⟩
    rw [V.out.1, V.out.2] at he
    subst he
    have hL2 := hL.keep k2
    go_wp2_with fail
    refine (mid_spec a c zs _ hL2 (by omega)).mono ?_
    rintro e w3 ⟨he, k3⟩
    rw [V.out.1, V.out.2] at he
    subst he
    have hL3 := hL2.keep k3
    have c3 : Keep w w3 := (Keep.trans k1 k2).trans k3
    obtain ⟨b, off, rfl, hb, hc⟩ := hL3.all l1
    have c0 : w3.cell? ⟨b, off, none⟩ = some (.int .i64 (zs.getD 0 0)) := by simpa using hc 0 l1
    have HZ := Lib.hid (mnK_zero zs)
    clear hL hL2 hc
    generalize zs.getD 0 0 = z at c0 HZ
    have hw3 := c3.size
    go_wp2_with fail
    go_loopw [8, 9, 10, 11] (fun s t v i wr => ∃ (k g cap : Nat), k ≤ zs.length ∧ i = .int .i64 k ∧ s = .int .i64 (mnK zs k) ∧ t = .int .i64 (mxK zs k) ∧ v = .slice (some ⟨g, 0, none⟩) k cap ∧ Hid (OwnI wr w3.heap.size (.slice (some ⟨g, 0, none⟩) k cap) (zs.take k).reverse) ∧ Keep w3 wr) (fun _ _ _ i _ => zs.length - (intOf i).toNat)
    case atStart => exact ⟨0, w3.heap.size, 0, by omega, rfl, by rw [HZ.out.1], by rw [HZ.out.2], rfl, Lib.hid (World.ownsRow_made w3 #[] 0 (Nat.le_refl _) (by unfold maxLen; omega) rfl), (Keep.refl w3).alloc _⟩
    case round =>
      obtain ⟨k, g, cap, hk, rfl, rfl, rfl, rfl, HO, hK⟩ := hrel
      obtain ⟨⟨b0, b1⟩, b2, b3⟩ := mnK_bd HA.out l1 k
      have hsz := hK.size
      clear c0
      by_cases hlt : k < zs.length
      · obtain ⟨b', off', hbe, hb', cz⟩ := (hL3.keep hK).at_ hlt
        simp only [Option.some.injEq, Addr.mk.injEq, and_true] at hbe
        obtain ⟨rfl, rfl⟩ := hbe
        have HS := Lib.hid (mnK_step hlt)
        have HT : Hid ((zs.take (k + 1)).reverse = zs.getD k 0 :: (zs.take k).reverse) := Lib.hid (by
          rw [List.take_succ_eq_append_getElem hlt, List.reverse_append]; simp [List.getD_eq_getElem?_getD, hlt])
        have HN : Hid (((zs.take k).reverse.map (Value.int .i64)).length = k * 1) := Lib.hid (by simp; omega)
        have HC : Hid (∀ j u, ((zs.take k).reverse.map (Value.int .i64))[j]? = some u → wr.cell? ((⟨g, 0, none⟩ : Addr).add j) = some u) := Lib.hid (HO.out.cells (g := g) rfl)
        have HLK : Hid ((zs.take k).reverse.length = k) := Lib.hid (by simp; omega)
        have hg : g < wr.heap.size := (World.ownsRow.lt HO.out g rfl).2
        generalize (zs.take k).reverse = rs at HT HN HC HO HLK
        generalize zs.getD k 0 = x at cz HS HT
        generalize mnK zs k = s at b0 b1 HS
        generalize mxK zs k = t at b2 b3 HS
        have hlit := World.ownsRow_lit (base := w3.heap.size) (e := 3) (size := 1) wr #[.int .i64 x] 1 hsz (by unfold maxLen; omega) rfl
        go_wp2_with (at_builtin; refine wpList_append_own _ rfl _ _ 32 rfl w3.heap.size 3 i0 (.int .i64 0) 1 8 Try.underlying32 hi hz0 hz1 hz2 rfl (by decide) _ 1 [.int .i64 x] rfl hlit ⟨g, 0, none⟩ k cap (rs.map (Value.int .i64)) rfl ?c0a ?c1a ?c2a ?c3a ?c4a ?c5a ?_)
        case c0a => first | exact HLK.out | exact HN.out
        case c1a =>
          intro j u hj
          have h1 := HC.out j (.int .i64 u) (by simp [hj])
          by_cases h0 : j = 0
          · subst h0; simpa [Addr.add] using h1
          · simpa [Addr.add, h0] using h1
        case c2a => intro u hu; rfl
        case c3a => unfold maxLen; omega
        case c4a => omega
        case c5a => first | omega | (simp; omega)
        intro v' w5 hown' hgrow hnil
        obtain ⟨g', cap', rfl, hbg', hlg'⟩ := hown'.form (by omega)
        have HN2 : Hid (OwnI w5 w3.heap.size (.slice (some ⟨g', 0, none⟩) (k + 1) cap') (x :: rs)) := Lib.hid (by
          have h1 : 1 + k = k + 1 := by omega
          unfold OwnI
          rw [List.length_cons, HLK.out]
          rw [h1] at hown'
          simpa using hown')
        have HK2 := Lib.hid ((hK.alloc (.cells #[.int .i64 x] 3)).grown2 hgrow (fun q hq => by simp [Value.ownBlock] at hq; omega))
        have HV' : Hid (Value.slice (some ⟨g', 0, none⟩) (1 + k) cap' = .slice (some ⟨g', 0, none⟩) (k + 1) cap') := Lib.hid (by rw [Nat.add_comm])
        clear hown' hgrow hnil hlit
        go_wp2
        go_roundw
        case rel => exact ⟨k + 1, g', cap', by omega, by go_num, by rw [HS.out.1, min_def']; done, by rw [HS.out.2, max_def']; done, HV'.out, by rw [HT.out]; exact HN2, HK2.out⟩
        case measure => simp [intOf]; omega
      · obtain rfl : k = zs.length := by omega
        have HE := Lib.hid (mnK_all l1)
        have HO2 : Hid (Ls wr (some ⟨g, 0, none⟩) zs.reverse) := Lib.hid (by
          have h1 := HO.out
          rw [List.take_length] at h1
          exact (Ls.own (n := zs.length) (by unfold OwnI at h1; rw [List.length_reverse] at h1; exact h1)).2)
        have HM := Lib.hid (mid_impl (some ⟨g, 0, none⟩) cap zs.reverse wr HO2.out (by simp; omega))
        rw [List.length_reverse] at HM
        rw [← HE.out.1, ← HE.out.2] at HR
        have hR := HR.out
        generalize mnK zs zs.length = s at b0 b1 hR
        generalize mxK zs zs.length = t at b2 b3 hR
        obtain ⟨r1, r2⟩ := hR
        clear HE HR HO
        go_wp2_with fail
        refine HM.out.mono ?_
        rintro e w6 ⟨he, k6⟩
        rw [V2.out.1, V2.out.2] at he
        subst he
        have g1 : decide (-1 ≤ 2 * o - s - t) = true := by simp; omega
        have g2 : decide (2 * o - s - t ≤ 1) = true := by simp; omega
        go_wp2
        go_ret
        exact ⟨rfl, (show Keep w _ from (c3.trans hK).trans k6)⟩
end Go.Proofs.Ytkapnbfjpglblaa
