/- P32: readings without a weight have no influence. -/
import Derived.Test.YtkapnbfjpglblaaHx
import Derived.Test.YtkapnbfjpglblaaDrHw
import Derived.Test.YtkapnbfjpglblaaRf
import Derived.Test.YtkapnbfjpglblaaFr
import Derived.LoopTactic
import Derived.Outline
namespace Go.Proofs.Ytkapnbfjpglblaa
open Go.RowKit
set_option linter.unusedVariables false

theorem min_def' (a b : Int) : min a b = if b < a then b else a := by omega
theorem max_def' (a b : Int) : max a b = if a < b then b else a := by omega
/-- The least and the greatest reading that has a weight. -/
def loK (zs ws : List Int) : Nat → Int
  | 0 => 99999
  | k + 1 => if 0 < ws.getD k 0 then min (loK zs ws k) (zs.getD k 0) else loK zs ws k
def hiK (zs ws : List Int) : Nat → Int
  | 0 => -99999
  | k + 1 => if 0 < ws.getD k 0 then max (hiK zs ws k) (zs.getD k 0) else hiK zs ws k
theorem lo_bd {zs ws : List Int} (hz : zs.all rdB = true) : ∀ k : Nat, k ≤ zs.length → (-99999 ≤ loK zs ws k ∧ loK zs ws k ≤ 99999) ∧ (-99999 ≤ hiK zs ws k ∧ hiK zs ws k ≤ 99999)
  | 0, _ => by simp [loK, hiK]
  | k + 1, h => by
    obtain ⟨⟨i1, i2⟩, i3, i4⟩ := lo_bd (ws := ws) hz k (by omega)
    obtain ⟨z0, z1⟩ := rd_bd (all_at hz (show k < zs.length by omega))
    simp only [loK, hiK]
    split <;> omega
theorem lo_mul {zs ws : List Int} (hw : ws.all wtB = true) : ∀ k : Nat, k ≤ ws.length → loK zs ws k * wtN ws k ≤ wsN zs ws k ∧ wsN zs ws k ≤ hiK zs ws k * wtN ws k ∧ 0 ≤ wtN ws k
  | 0, _ => by simp [wsN, wtN]
  | k + 1, h => by
    obtain ⟨i1, i2, i3⟩ := lo_mul (zs := zs) hw k (by omega)
    obtain ⟨y0, y1⟩ := wt_bd (all_at hw (show k < ws.length by omega))
    simp only [loK, hiK, wsN, wtN]
    generalize zs.getD k 0 = x
    generalize ws.getD k 0 = y at y0 y1
    generalize loK zs ws k = s at i1
    generalize hiK zs ws k = t at i2
    generalize wtN ws k = u at i1 i2 i3
    generalize wsN zs ws k = p at i1 i2
    split
    · have a1 : min s x * u ≤ s * u := Int.mul_le_mul_of_nonneg_right (by omega) i3
      have a2 : min s x * y ≤ x * y := Int.mul_le_mul_of_nonneg_right (by omega) y0
      have a3 : t * u ≤ max t x * u := Int.mul_le_mul_of_nonneg_right (by omega) i3
      have a4 : x * y ≤ max t x * y := Int.mul_le_mul_of_nonneg_right (by omega) y0
      rw [Int.mul_add, Int.mul_add]
      omega
    · obtain rfl : y = 0 := by omega
      simp only [Int.add_zero, Int.mul_zero]
      omega
theorem lo_rq {zs ws : List Int} (hz : zs.all rdB = true) (hw : ws.all wtB = true) (hl : ws.length = zs.length) (hp : 1 ≤ wtN ws zs.length) :
    loK zs ws zs.length ≤ rq (wsN zs ws zs.length) (wtN ws zs.length) ∧ rq (wsN zs ws zs.length) (wtN ws zs.length) ≤ hiK zs ws zs.length := by
  obtain ⟨i1, i2, _⟩ := lo_mul (zs := zs) hw zs.length (by omega)
  obtain ⟨o, s, ho, hn, h1, h2, _⟩ := rq_facts (wsN zs ws zs.length) (wtN ws zs.length) hp
  rw [ho]
  generalize loK zs ws zs.length = x at i1
  generalize hiK zs ws zs.length = y at i2
  generalize wtN ws zs.length = u at *
  generalize wsN zs ws zs.length = p at *
  refine ⟨?_, ?_⟩
  · by_cases hc : x ≤ o
    · exact hc
    · have h3 : 0 ≤ (x - o - 1) * u := Int.mul_nonneg (by omega) (by omega)
      rw [Int.sub_mul, Int.sub_mul] at h3
      omega
  · by_cases hc : o ≤ y
    · exact hc
    · have h3 : 0 ≤ (o - y - 1) * u := Int.mul_nonneg (by omega) (by omega)
      rw [Int.sub_mul, Int.sub_mul] at h3
      omega
theorem getD_left {zs xs : List Int} {k : Nat} (h : k < zs.length) : (zs ++ xs).getD k 0 = zs.getD k 0 := by
  simp [List.getD_eq_getElem?_getD, List.getElem?_append_left h]
theorem wsN_left {zs ws xs ys : List Int} : ∀ k : Nat, k ≤ zs.length → k ≤ ws.length → wsN (zs ++ xs) (ws ++ ys) k = wsN zs ws k ∧ wtN (ws ++ ys) k = wtN ws k
  | 0, _, _ => ⟨rfl, rfl⟩
  | k + 1, h1, h2 => by
    obtain ⟨i1, i2⟩ := wsN_left (xs := xs) (ys := ys) k (show k ≤ zs.length by omega) (show k ≤ ws.length by omega)
    simp only [wsN, wtN]
    rw [i1, i2, getD_left (show k < zs.length by omega), getD_left (show k < ws.length by omega)]
    exact ⟨rfl, rfl⟩
/-- A further reading without a weight. -/
theorem hw_more {zs ws : List Int} (h : hwOk zs ws = true) (hl : zs.length < 24) : hw (zs ++ [7]) (ws ++ [0]) = hw zs ws ∧ hwOk (zs ++ [7]) (ws ++ [0]) = true := by
  obtain ⟨hrd, hlen, hwt, hall, ⟨l1, l2⟩, hwa, _, _⟩ := hwOk_facts h
  have k1 : rdsB (zs ++ [7]) = true := rds_all (by rw [List.all_append, hall]; rfl) (by simp; omega)
  have k2 : wtsB (ws ++ [0]) = true := by
    have h2 := hwt
    simp only [wtsB, Bool.and_eq_true] at h2
    rw [wtsB, List.all_append, List.any_append, h2.1, h2.2]; rfl
  have k3 : hwOk (zs ++ [7]) (ws ++ [0]) = true := hw_good k1 (by simp; omega) k2
  refine ⟨?_, k3⟩
  rw [hw_yes k3, hw_yes h]
  obtain ⟨e1, e2⟩ := wsN_left (zs := zs) (ws := ws) (xs := [7]) (ys := [0]) zs.length (Nat.le_refl _) (by omega)
  have e3 : (zs ++ [7]).length = zs.length + 1 := by simp
  have e4 : (ws ++ [0]).getD zs.length 0 = 0 := by rw [← hlen]; simp [List.getD_eq_getElem?_getD]
  rw [e3]
  simp only [wsN, wtN]
  rw [e1, e2, e4, Int.mul_zero, Int.add_zero, Int.add_zero]
theorem cells_at2 {w : World} {b off : Nat} {zs : List Int} (hc : ∀ i, i < zs.length → w.cell? ⟨b, off + i, none⟩ = some (.int .i64 (zs.getD i 0))) :
    ∀ (j : Nat) (u : Int), zs[j]? = some u → w.cell? ⟨b, off + j, none⟩ = some (.int .i64 u) := by
  intro j u hj
  obtain ⟨hlt, he⟩ := List.getElem?_eq_some_iff.1 hj
  rw [hc j hlt, ← he]
  simp [List.getD_eq_getElem?_getD, hlt]
theorem cells_at {w : World} {b off : Nat} {zs : List Int} {o : Obj} (hc : ∀ i, i < zs.length → w.cell? ⟨b, off + i, none⟩ = some (.int .i64 (zs.getD i 0))) (hb : b < w.heap.size) :
    ∀ j u, (zs.map (Value.int .i64))[j]? = some u → (w.alloc o).cell? ((⟨b, off, none⟩ : Addr).add j) = some u := by
  intro j u hj
  have hlt : j < zs.length := by
    rcases Nat.lt_or_ge j zs.length with h | h
    · exact h
    · rw [List.getElem?_eq_none (by simpa using h)] at hj; cases hj
  have hu : u = .int .i64 (zs.getD j 0) := by
    simp [hlt] at hj; rw [← hj]; simp [List.getD_eq_getElem?_getD, hlt]
  have ha : (⟨b, off, none⟩ : Addr).add j = ⟨b, off + j, none⟩ := by
    unfold Addr.add; split
    · rename_i h; subst h; rfl
    · rfl
  rw [ha, World.cell?_alloc_lt _ _ _ hb, hu]
  exact hc j hlt

set_option maxRecDepth 100000 in
set_option maxHeartbeats 3200000 in
theorem walk_FnHourWeights (a0 : Option Addr) (len0 cap0 : Nat) (z0 : List Int) (w : World) (w0 : IsRow .u8 w a0 len0 cap0 z0) :
    Calls Try.prog 10 #[.slice a0 len0 cap0] w fun e w' => e = .returned (.bool true) ∧ Below w.heap.size w w' := by
  have ha := code_of_row w0
  obtain ⟨hl, hm⟩ := ha.1
  unfold maxLen at hm
  clear w0
  by_cases h : len0 ≤ 1048576
  case' neg =>
    have hd : decide (1048576 < (len0 : Int)) = true := by simp; omega
    go_enter Try.func10, Try.ntmps10
    go_wp2
    go_ret
    exact ⟨rfl, Below.refl _ _⟩
  have hd : decide (1048576 < (len0 : Int)) = false := by simp; omega
  go_enter Try.func10, Try.ntmps10
  have hmx := hm
  clear hm
  obtain ⟨i0, hi, hz0, hz1, hz2⟩ := info_parts infoInt'
  go_wp2_with fail
  refine (drawHourWeights a0 len0 cap0 _ ha).mono ?_
  rintro e w1 ⟨a, c, zs, b, d, ws, rfl, ⟨hl, hl2⟩, hB, hB2, hL, hL2, k1⟩
  rcases Bool.eq_false_or_eq_true (hwOk zs ws) with hk | hk
  case' inr =>
    have HK := Lib.hid hk
    clear hk hB hB2
    go_wp2_with fail
    refine (hw_impl a b c d zs ws _ hL hL2 (by omega) (by omega)).mono ?_
    rintro e w2 ⟨he, k2⟩
    rw [HK.out] at he
    subst he
    go_wp2_with fail
    refine (hw_spec a b c d zs ws _ (hL.keep k2) (hL2.keep k2) (by omega) (by omega)).mono ?_
    rintro e w3 ⟨he, k3⟩
    rw [HK.out] at he
    subst he
    go_wp2
    go_ret
    exact ⟨rfl, (show Keep w _ from (k1.trans k2).trans k3)⟩
  case' inl =>
    obtain ⟨hrd, hlen, hwt, hall, ⟨l1, l2⟩, hwa, ⟨S0, S1⟩, W0, W1⟩ := hwOk_facts hk
    have hv := hw_yes hk
    obtain ⟨r1, r2⟩ := lo_rq hall hwa hlen W0
    obtain ⟨o, ho⟩ : ∃ o, rq (wsN zs ws zs.length) (wtN ws zs.length) = o := ⟨_, rfl⟩
    rw [ho] at hv r1 r2
    have V : Hid (hw zs ws = o ∧ hwOk zs ws = true) := Lib.hid ⟨hv, hk⟩
    have V2 : Hid (hw (zs ++ [7]) (ws ++ [0]) = o ∧ hwOk (zs ++ [7]) (ws ++ [0]) = true) := Lib.hid (by
      obtain ⟨e1, e2⟩ := hw_more hk (by omega)
      exact ⟨e1.trans hv, e2⟩)
    have HA := Lib.hid (And.intro hall hwa)
    have HR := Lib.hid (And.intro r1 r2)
    have HLn := Lib.hid hlen
    obtain ⟨o0, o1⟩ : -99999 ≤ o ∧ o ≤ 99999 := by
      obtain ⟨u1, u2⟩ := lo_bd (zs := zs) (ws := ws) hall zs.length (Nat.le_refl _)
      omega
    clear hrd hlen hwt hall hwa S0 S1 W0 W1 hv r1 r2 ho hk hB hB2
    go_wp2_with fail
    refine (hw_impl a b c d zs ws _ hL hL2 (by omega) (by omega)).mono ?_
    rintro e w2 ⟨he, k2⟩
    rw [V.out.1, V.out.2] at he
    subst he
    go_wp2_with fail
    refine (hw_spec a b c d zs ws _ (hL.keep k2) (hL2.keep k2) (by omega) (by omega)).mono ?_
    rintro e w3 ⟨he, k3⟩
    rw [V.out.1, V.out.2] at he
    subst he
    have hLz := (hL.keep k2).keep k3
    have hLw := (hL2.keep k2).keep k3
    have c3 : Keep w w3 := (Keep.trans k1 k2).trans k3
    obtain ⟨bz, oz, rfl, hbz, hcz⟩ := hLz.all l1
    obtain ⟨bw, ow, rfl, hbw, hcw⟩ := hLw.all (by have := HLn.out; omega)
    have CZ := Lib.hid hcz
    have CW := Lib.hid hcw
    have HLz := Lib.hid hLz
    have HLw := Lib.hid hLw
    clear hL hL2 hLz hLw hcz hcw k1 k2 k3
    go_wp2_with fail
    go_loop [9, 10, 11] (fun s t i => ∃ k : Nat, k ≤ zs.length ∧ i = .int .i64 k ∧ s = .int .i64 (loK zs ws k) ∧ t = .int .i64 (hiK zs ws k)) (fun _ _ i => zs.length - (intOf i).toNat)
    case atStart => exact ⟨0, by omega, rfl, rfl, rfl⟩
    case round =>
      obtain ⟨k, hk, rfl, rfl, rfl⟩ := hrel
      obtain ⟨⟨b0, b1⟩, b2, b3⟩ := lo_bd (zs := zs) (ws := ws) HA.out.1 k hk
      by_cases hlt : k < zs.length
      · have hltw : k < ws.length := by have := HLn.out; omega
        have cz := CZ.out k hlt
        have cw := CW.out k hltw
        obtain ⟨y0, y1⟩ := wt_bd (all_at HA.out.2 hltw)
        rcases Bool.eq_false_or_eq_true (decide (0 < ws.getD k 0)) with hp | hp
        · have HS : Hid (loK zs ws (k + 1) = min (loK zs ws k) (zs.getD k 0) ∧ hiK zs ws (k + 1) = max (hiK zs ws k) (zs.getD k 0)) := Lib.hid ⟨by simp only [loK]; rw [if_pos (of_decide_eq_true hp)], by simp only [hiK]; rw [if_pos (of_decide_eq_true hp)]⟩
          generalize zs.getD k 0 = x at cz HS
          generalize ws.getD k 0 = y at cw y0 y1 hp
          generalize loK zs ws k = s at b0 b1 HS
          generalize hiK zs ws k = t at b2 b3 HS
          go_wp2
          go_round
          case rel => exact ⟨k + 1, by omega, by go_num, by rw [HS.out.1]; first | rfl | rw [min_def'], by rw [HS.out.2]; first | rfl | rw [max_def']⟩
          case measure => simp [intOf]; omega
        · have HS : Hid (loK zs ws (k + 1) = loK zs ws k ∧ hiK zs ws (k + 1) = hiK zs ws k) := Lib.hid ⟨by simp only [loK]; rw [if_neg (of_decide_eq_false hp)], by simp only [hiK]; rw [if_neg (of_decide_eq_false hp)]⟩
          generalize ws.getD k 0 = y at cw y0 y1 hp
          generalize loK zs ws k = s at b0 b1 HS
          generalize hiK zs ws k = t at b2 b3 HS
          go_wp2
          go_round
          case rel => exact ⟨k + 1, by omega, by go_num, by rw [HS.out.1], by rw [HS.out.2]⟩
          case measure => simp [intOf]; omega
      · obtain rfl : k = zs.length := by omega
        have hR := HR.out
        generalize loK zs ws zs.length = s at b0 b1 hR
        generalize hiK zs ws zs.length = t at b2 b3 hR
        obtain ⟨r1, r2⟩ := hR
        have g1 : decide (s ≤ o) = true := by simp; omega
        have g2 : decide (o ≤ t) = true := by simp; omega
        have g3 : ((zs.length : Int) == 24) = false := by simp; omega
        clear HR r1 r2 b0 b1 b2 b3
        have hm1 := World.ownsRow_made (base := w3.heap.size) (e := 3) (size := 1) w3 #[] 0 (Nat.le_refl _) (by unfold maxLen; omega) rfl
        go_wp2_with (at_builtin; refine wpList_append_own _ rfl _ _ 32 rfl w3.heap.size 3 i0 (.int .i64 0) 1 8 Try.underlying32 hi hz0 hz1 hz2 rfl (by decide) _ 0 [] rfl hm1 ⟨bz, oz, none⟩ zs.length c (zs.map (Value.int .i64)) rfl ?l1 ?n1 ?o1 ?m1 ?y1 ?q1 ?_)
        case n1 => first | exact cells_at CZ.out hbz | exact cells_at2 CZ.out
        case o1 => intro u hu; first | rfl | (obtain ⟨q, _, rfl⟩ := List.mem_map.1 hu; rfl)
        case m1 => unfold maxLen; omega
        case y1 => omega
        intro v1 w4 hown hgrow hnil
        have HN1 : Hid (OwnI w4 w3.heap.size v1 zs) := Lib.hid (by unfold OwnI; simpa using hown)
        have k4 : Keep w3 w4 := ((Keep.refl w3).alloc (.cells #[] 3)).grown2 hgrow (fun q hq => by simp [Value.ownBlock] at hq; omega)
        clear hown hgrow hnil hm1
        have hs4 := k4.size
        have HO1 : w4.ownsRow w3.heap.size 3 1 v1 zs.length (zs.map (Value.int .i64)) := HN1.out
        go_wp2_with (at_builtin; refine wpList_append_own _ rfl _ _ 32 rfl w3.heap.size 3 i0 (.int .i64 0) 1 8 Try.underlying32 hi hz0 hz1 hz2 rfl (by decide) v1 zs.length (zs.map (Value.int .i64)) rfl (HO1.alloc _) ⟨w4.heap.size, 0, none⟩ 1 1 [.int .i64 7] rfl rfl ?n2 ?o2 ?m2 ?y2 ?q2 ?_)
        case n2 =>
          intro j u hj
          match j, hj with
          | 0, hj => simp at hj; subst hj; simp [Addr.add]
        case o2 => first | rfl | (intro u hu; simp at hu; subst hu; rfl)
        case m2 => unfold maxLen; omega
        case y2 => omega
        case q2 => first | omega | (simp; omega)
        intro v2 w5 hown hgrow hnil
        have HN2 : Hid (OwnI w5 w3.heap.size v2 (zs ++ [7])) := Lib.hid (by unfold OwnI; simpa using hown)
        have k5 : Keep w3 w5 := (k4.alloc (.cells #[.int .i64 7] 3)).grown2 hgrow (fun q hq => (HO1.lt q hq).1)
        have hs5 := k5.size
        have hv2 : Hid (∀ k, v2.ownBlock = some k → k < w5.heap.size) := Lib.hid (fun k hk => (World.ownsRow.lt HN2.out k hk).2)
        clear hown hgrow hnil HO1 HN1 k4 hs4
        have hm3 := World.ownsRow_made (base := w5.heap.size) (e := 3) (size := 1) w5 #[] 0 (Nat.le_refl _) (by unfold maxLen; omega) rfl
        have CW5 := Lib.hid (fun i hi => k5.cell (CW.out i hi))
        have hbw5 : bw < w5.heap.size := by omega
        go_wp2_with (at_builtin; refine wpList_append_own _ rfl _ _ 32 rfl w5.heap.size 3 i0 (.int .i64 0) 1 8 Try.underlying32 hi hz0 hz1 hz2 rfl (by decide) _ 0 [] rfl hm3 ⟨bw, ow, none⟩ ws.length d (ws.map (Value.int .i64)) rfl ?l3 ?n3 ?o3 ?m3 ?y3 ?q3 ?_)
        case l3 => first | rfl | simp
        case n3 => first | exact cells_at CW5.out hbw5 | exact cells_at2 CW5.out
        case o3 => intro u hu; first | rfl | (obtain ⟨q, _, rfl⟩ := List.mem_map.1 hu; rfl)
        case m3 => unfold maxLen; omega
        case y3 => omega
        case q3 => simp
        intro v3 w6 hown hgrow hnil
        have HN3 : Hid (OwnI w6 w5.heap.size v3 ws) := Lib.hid (by unfold OwnI; simpa using hown)
        have HN26 := Lib.hid ((HN2.out.alloc (.cells #[] 3)).grown (show OwnI _ w5.heap.size (.slice (some ⟨w5.heap.size, 0, none⟩) 0 0) [] from hm3) hv2.out hgrow)
        have k6 : Keep w3 w6 := (k5.alloc (.cells #[] 3)).grown2 hgrow (fun q hq => by simp [Value.ownBlock] at hq; omega)
        have hs6 := k6.size
        have hs65 := hgrow.size
        simp at hs65
        clear hown hgrow hnil hm3 HN2 CW5
        have HO3 : w6.ownsRow w5.heap.size 3 1 v3 ws.length (ws.map (Value.int .i64)) := HN3.out
        go_wp2_with (at_builtin; refine wpList_append_own _ rfl _ _ 32 rfl w5.heap.size 3 i0 (.int .i64 0) 1 8 Try.underlying32 hi hz0 hz1 hz2 rfl (by decide) v3 ws.length (ws.map (Value.int .i64)) rfl (HO3.alloc _) ⟨w6.heap.size, 0, none⟩ 1 1 [.int .i64 0] rfl rfl ?n4 ?o4 ?m4 ?y4 ?q4 ?_)
        case n4 =>
          intro j u hj
          match j, hj with
          | 0, hj => simp at hj; subst hj; simp [Addr.add]
        case o4 => first | rfl | (intro u hu; simp at hu; subst hu; rfl)
        case m4 => unfold maxLen; omega
        case y4 => omega
        case q4 => first | omega | (simp; omega)
        intro v4 w7 hown hgrow hnil
        have HN4 : Hid (OwnI w7 w5.heap.size v4 (ws ++ [0])) := Lib.hid (by unfold OwnI; simpa using hown)
        have HN27 := Lib.hid ((HN26.out.alloc (.cells #[.int .i64 0] 3)).grown (show OwnI _ w5.heap.size v3 ws from HO3.alloc _) hv2.out hgrow)
        have k7 : Keep w3 w7 := (k6.alloc (.cells #[.int .i64 0] 3)).grown2 hgrow (fun q hq => by have := (HO3.lt q hq).1; omega)
        obtain ⟨a2, c2, rfl, hL2⟩ := HN27.out.ls
        obtain ⟨a4, c4, rfl, hL4⟩ := HN4.out.ls
        have HM := Lib.hid (hw_impl a2 a4 c2 c4 (zs ++ [7]) (ws ++ [0]) w7 hL2 hL4 (by simp; omega) (by simp; omega))
        clear hown hgrow hnil HO3 HN3 HN4 HN26 HN27 hL2 hL4 k5 k6 hs5 hs6 hs65 hbw5
        simp only [List.length_append, List.length_cons, List.length_nil, Nat.zero_add] at HM
        go_wp2_with fail
        refine HM.out.mono ?_
        rintro e w8 ⟨he, k8⟩
        rw [V2.out.1, V2.out.2] at he
        subst he
        go_wp2
        go_ret
        exact ⟨rfl, (show Keep w _ from (c3.trans k7).trans k8)⟩
end Go.Proofs.Ytkapnbfjpglblaa
