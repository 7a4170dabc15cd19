/- SortedOf of the model: each value is put behind those that are not greater. -/
import Derived.Test.YtmndlghadgccbaeSo
import Derived.Deep.RegionLaw
namespace Go.Proofs.Ytmndlghadgccbae
open Go.RowKit
set_option linter.unusedVariables false

theorem abs_worldI (P : World → Prop) (w : World) (F : World → Prop) (h : F w) (h2 : ∀ wq, F wq → P wq) : P w := h2 w h
theorem news_lsI {w : World} {b off : Nat} {zs : List Int} (h : Ls w (some ⟨b, off, none⟩) zs) : ∀ j u, (zs.map (Value.int .i64))[j]? = some u → w.cell? ((⟨b, off, none⟩ : Addr).add j) = some u := by
  intro j u hj
  rw [List.getElem?_map] at hj
  rcases h with h | ⟨b', off', ha, hb, hc⟩
  · rw [h] at hj; simp at hj
  · injection ha with ha
    injection ha with e1 e2 _
    subst e1; subst e2
    by_cases hl : j < zs.length
    · rw [List.getElem?_eq_getElem hl] at hj
      simp at hj
      subst hj
      have h9 := hc j hl
      rw [show zs.getD j 0 = zs[j] by simp [List.getD_eq_getElem?_getD, hl]] at h9
      rcases Nat.eq_zero_or_pos j with h0 | h0
      · subst h0
        rw [Nat.add_zero] at h9
        rw [← h9]; simp [Addr.add]
      · rw [← h9]; simp [Addr.add, show j ≠ 0 by omega]
    · rw [List.getElem?_eq_none (by omega)] at hj
      simp at hj
theorem ls_takeI {w : World} {a : Option Addr} {zs : List Int} (h : Ls w a zs) (k : Nat) : Ls w a (zs.take k) := by
  rcases h with h | ⟨b, off, ha, hb, hc⟩
  · left; rw [h]; simp
  · refine .inr ⟨b, off, ha, hb, fun i hi => ?_⟩
    rw [List.length_take] at hi
    rw [hc i (by omega)]
    simp [List.getD_eq_getElem?_getD, show i < k by omega]
theorem ls_dropI {w : World} {b off : Nat} {zs : List Int} (h : Ls w (some ⟨b, off, none⟩) zs) (k : Nat) : Ls w (some ⟨b, off + k, none⟩) (zs.drop k) := by
  rcases h with h | ⟨b', off', ha, hb, hc⟩
  · left; rw [h]; simp
  · injection ha with ha
    injection ha with e1 e2 _
    subst e1; subst e2
    refine .inr ⟨b, off + k, rfl, hb, fun i hi => ?_⟩
    rw [List.length_drop] at hi
    rw [show off + k + i = off + (k + i) by omega, hc (k + i) (by omega)]
    simp [List.getD_eq_getElem?_getD]
theorem newsX {w : World} {b : Nat} {x : Int} (h : w.cell? ⟨b, 0, none⟩ = some (.int .i64 x)) : ∀ j y, [Value.int .i64 x][j]? = some y → w.cell? ((⟨b, 0, none⟩ : Addr).add j) = some y := by
  intro j y hj
  match j, hj with
  | 0, hj => simp at hj; subst hj; simpa [Addr.add] using h
theorem newsW (w : World) (x : Int) : ∀ j y, [Value.int .i64 x][j]? = some y → (w.alloc (.cells #[.int .i64 x] 3)).cell? ((⟨w.heap.size, 0, none⟩ : Addr).add j) = some y :=
  newsX (World.cell?_alloc_new w _ _ 0)
theorem one1 {x : Int} : ∀ u ∈ [Value.int .i64 x], u.oneCell' = true := by intro u hu; simp at hu; subst hu; rfl
theorem own_low {w : World} {b1 b2 : Nat} {v : Value} {zs : List Int} (hb : b2 ≤ b1) (h : OwI w b1 v zs) : OwI w b2 v zs := by
  obtain ⟨h1, h2⟩ := h
  refine ⟨h1, ?_⟩
  rcases h2 with h3 | ⟨g, cap, cur, h3, h4, h5⟩
  · exact .inl h3
  · exact .inr ⟨g, cap, cur, h3, by omega, h5⟩
theorem step_app_ownI {P : Program} {w : World} {ops : Array Oper} {o : Oper} {a : Act} {K : Act → World → Prop} {Q : Exit → Act → World → Prop} {E : Prop} (hgd : o.guard = none) (s x : Operand) (t : TypeId)
    (ho : o.op = .call { callee := .builtin .append, args := #[s, x], argTypes := #[t, t] })
    (base : Nat) (e : TypeId) (i : TypeInfo) (z : Value) (size bytes : Nat) (ht : P.underlying t = some (.slice e)) (hi : P.info? e = some i) (hz : i.zero = some z)
    (hsize : i.size = size) (hby : i.bytes = bytes) (hzs : z.cells.size = size) (hsz : 0 < size)
    (v : Value) (n : Nat) (xs : List Value) (hs : a.eval s = v) (hown : w.ownsRow base e size v n xs)
    (ad : Addr) (m c : Nat) (news : List Value) (hx : a.eval x = .slice (some ad) m c) (hl : news.length = m * size) (hnews : ∀ j u, news[j]? = some u → w.cell? (ad.add j) = some u) (h1 : ∀ u ∈ news, u.oneCell' = true)
    (h63 : n + m ≤ maxLen) (hbytes : (n + m) * bytes ≤ 140737488355328) (hbase : base ≤ w.heap.size)
    (h : ∀ v' w', w'.ownsRow base e size v' (n + m) (xs ++ news) → w.grownBy w' v.ownBlock → K (a.put o.dst v') w') :
    if Region.wanted o (yielded ops a.tmps) = true then Oper.wp P o a w K Q else E := by
  have hw : Region.wanted o (yielded ops a.tmps) = true := by simp [Region.wanted, hgd]
  rw [if_pos hw]
  exact wp_append_own w s x t ho base e i z size bytes ht hi hz hsize hby hzs hsz v n xs hs hown ad m c news hx hl hnews h1 h63 hbytes hbase fun v' w' h2 h3 _ => h v' w' h2 h3
set_option maxRecDepth 100000 in
set_option maxHeartbeats 8000000 in
theorem ls_sorted (a : Option Addr) (cap : Nat) (L : List Int) (w : World) (h : Ls w a L) (hm : L.length ≤ 1000) :
    Calls Try.prog 40 #[.slice a L.length cap] w (NwL (sorted L) w) := by
  obtain ⟨i0, hi, hz0, hz1, hz2⟩ := info_parts infoIntO
  go_enter Try.func40, Try.ntmps40
  go_wp2_with fail
  go_loopw [3, 4] (fun v i wr => ∃ (k g c : Nat), k ≤ L.length ∧ i = .int .i64 k ∧ v = .slice (some ⟨g, 0, none⟩) k c ∧ Hid (OwI wr w.heap.size (.slice (some ⟨g, 0, none⟩) k c) (sorted (L.take k))) ∧ Keep w wr) (fun _ i _ => L.length - (intOf i).toNat)
  case atStart => exact ⟨0, w.heap.size, 0, by omega, rfl, rfl, Lib.hid (by rw [List.take_zero, sorted_nil]; exact OwI.made w), (Keep.refl w).alloc _⟩
  case round =>
    obtain ⟨k, g, c, hk, rfl, rfl, HO, hK⟩ := hrel
    have hsz := hK.size
    by_cases hlt : k < L.length
    · obtain ⟨bz, oz, rfl, hbz, cz⟩ := (h.keep hK).at_ hlt
      have HLn : Hid ((sorted (L.take k)).length = k) := Lib.hid (by rw [sorted_length, List.length_take]; omega)
      have HPut : Hid (∀ u, u ≤ k → (∀ j, j < u → (sorted (L.take k)).getD j 0 ≤ L.getD k 0) → (u = k ∨ L.getD k 0 < (sorted (L.take k)).getD u 0) → (sorted (L.take k)).take u ++ [L.getD k 0] ++ (sorted (L.take k)).drop u = sorted (L.take (k + 1))) := Lib.hid (fun u hu h1 h2 => by
        have hl := HLn.out
        rw [sorted_put (by omega) h1 (fun j hj hjl => by
          rcases h2 with rfl | h2
          · omega
          · have := sorted_at (L := L.take k) hj hjl; omega)]
        rw [List.take_succ_eq_append_getElem hlt]
        simp [List.getD_eq_getElem?_getD, hlt])
      obtain ⟨x, hx⟩ : ∃ x, L.getD k 0 = x := ⟨_, rfl⟩
      rw [hx] at cz HPut
      clear hx
      obtain ⟨S2, hS2⟩ : ∃ S2, sorted (L.take (k + 1)) = S2 := ⟨_, rfl⟩
      rw [hS2] at HPut
      have HS2 := Lib.hid hS2
      clear hS2
      generalize sorted (L.take k) = S at *
      obtain ⟨S2r, hS2r⟩ : ∃ S2r, S2.map (Value.int .i64) = S2r := ⟨_, rfl⟩
      have HS2r := Lib.hid hS2r
      clear hS2r
      have k0 : (0 : Int) ≤ (k : Int) := by omega
      have kz : (k : Int) < (L.length : Int) := by omega
      obtain ⟨_, _, e9, hkc, hLsO⟩ := HO.out.slice
      have hkc : k ≤ c := by have := HLn.out; injection e9 with _ _ e8; omega
      clear e9 hLsO
      go_wp2_with fail
      go_loopw [5] (fun j wr2 => ∃ u : Nat, u ≤ k ∧ j = .int .i64 u ∧ Hid (∀ j, j < u → S.getD j 0 ≤ x) ∧ Hid (OwI wr2 w.heap.size (.slice (some ⟨g, 0, none⟩) k c) S) ∧ Keep wr wr2) (fun j _ => k - (intOf j).toNat)
      case atStart => exact ⟨0, by omega, rfl, Lib.hid (fun j hj => by omega), HO, Keep.refl _⟩
      case round =>
        obtain ⟨u, hu, rfl, HA, HO2, hK2⟩ := hrel
        have cz2 := hK2.cell cz
        have u0 : (0 : Int) ≤ (u : Int) := by omega
        have czw := Lib.hid cz
        clear HO
        by_cases huk : u < k
        · have cu : wr.cell? ⟨g, u, none⟩ = some (.int .i64 (S.getD u 0)) := by
            have h9 := World.ownsRow.cellAt (show wr.ownsRow w.heap.size 3 1 (.slice (some ⟨g, 0, none⟩) k c) k (S.map (Value.int .i64)) by have := HO2.out; unfold OwI at this; rw [HLn.out] at this; exact this) u (by omega)
            rw [h9]
            have := HLn.out
            simp [List.getD_eq_getElem?_getD, show u < S.length by omega]
          obtain ⟨y, hy⟩ : ∃ y, S.getD u 0 = y := ⟨_, rfl⟩
          rw [hy] at cu
          have HY := Lib.hid hy
          clear hy
          have uk : (u : Int) < (k : Int) := by omega
          have uc : (u : Int) ≤ (c : Int) := by omega
          by_cases hyx : y ≤ x
          · have dyx : decide (y ≤ x) = true := decide_eq_true hyx
            go_wp2_with fail
            go_quiet (fail)
            go_wp2
            go_roundw
            case rel => exact ⟨u + 1, by omega, by go_num, Lib.hid (fun j hj => by
              by_cases e : j = u
              · subst e; rw [HY.out]; exact hyx
              · exact HA.out j (by omega)), Lib.hid (HO2.out.keep ((Keep.refl wr).drewN _)), hK2.drewN _⟩
            case measure => simp [intOf]; omega
          · have dyx : decide (y ≤ x) = false := decide_eq_false hyx
            have HSp := Lib.hid (HPut.out u hu HA.out (.inr (by rw [HY.out]; omega)))
            have HUK := Lib.hid (Nat.le_of_lt huk)
            have qcu : ¬ c = u := by omega
            go_wp2_with fail
            go_quiet (fail)
            go_wp2_with fail
            refine @abs_worldI (fun wq => Code.wp _ _ _ _ wq) _ (fun wq => Hid (OwI wq w.heap.size (.slice (some ⟨g, 0, none⟩) k c) S) ∧ Keep w wq ∧ wq.cell? ⟨bz, oz + k, none⟩ = some (.int .i64 x)) ⟨Lib.hid (HO2.out.keep ((Keep.refl wr).drewN _)), (hK.trans hK2).drewN _, (hK2.drewN _).cell cz⟩ ?_
            rintro wq ⟨HOq, Kq, czq⟩
            have hbq : bz < wq.heap.size := World.block_lt_of_cell? wq _ czq
            have hLq : Ls wq (some ⟨g, 0, none⟩) S := by
              obtain ⟨_, _, e9, _, h9⟩ := HOq.out.slice
              injection e9 with e1 _ _
              rw [e1]; exact h9
            have HT := Lib.hid (ls_takeI hLq u)
            have HTl : Hid ((S.take u).length = u) := Lib.hid (by rw [List.length_take]; have := HLn.out; omega)
            have HD := Lib.hid (show Ls wq (some ⟨g, u, none⟩) (S.drop u) by have := ls_dropI hLq u; rwa [Nat.zero_add] at this)
            have HDl : Hid ((S.drop u).length = k - u) := Lib.hid (by rw [List.length_drop, HLn.out])
            clear cz2 cu hLq HA HO2 hK2 cz hK dyx hyx
            have HOC : Hid (((wq.drew.alloc (.cells #[.int .i64 x] 3)).alloc (.cells #[] 3)).ownsRow wq.heap.size 3 1 (.slice (some ⟨wq.heap.size + 1, 0, none⟩) 0 0) 0 []) := Lib.hid (by
              have h1 := (World.ownsRow_made (base := wq.heap.size) (e := 3) (size := 1) (wq.drew.alloc (.cells #[.int .i64 x] 3)) #[] 0 ((Keep.refl wq).drew.alloc (.cells #[.int .i64 x] 3)).size (by unfold maxLen; omega) rfl)
              rw [show (wq.drew.alloc (.cells #[.int .i64 x] 3)).heap.size = wq.heap.size + 1 by simp] at h1
              exact h1)
            go_region_law (first
              | (refine step_app_ownI rfl _ _ _ rfl wq.heap.size 3 i0 _ 1 8 Try.underlying23 hi hz0 hz1 hz2 rfl (by decide) (.slice (some ⟨wq.heap.size, 0, none⟩) 0 0) 0 [] rfl (World.ownsRow_made (base := wq.heap.size) (e := 3) (size := 1) wq.drew #[] 0 (Keep.refl wq).drew.size (by unfold maxLen; omega) rfl) ⟨g, 0, none⟩ u _ ((S.take u).map (Value.int .i64)) rfl (by rw [List.length_map, HTl.out]; try omega) (news_lsI (HT.out.keep ((Keep.refl wq).drew.alloc (.cells #[] 3)))) ints1 (by unfold maxLen; omega) (by omega) ((Keep.refl wq).drew.alloc (.cells #[] 3)).size ?_
                 intro v1 wN hown1 hgrow1
                 have hKN : Keep wq wN := Below.grown ((Keep.refl wq).drew.alloc (.cells #[] 3)) hgrow1 ((Keep.refl wq).drew.alloc (.cells #[] 3)).size (fun q hq => ((World.ownsRow_made (base := wq.heap.size) (e := 3) (size := 1) wq.drew #[] 0 (Keep.refl wq).drew.size (by unfold maxLen; omega) rfl).lt q hq).1)
                 have x0 := hKN.cell czq
                 have ho : wN.ownsRow wq.heap.size 3 1 v1 u ((S.take u).map (Value.int .i64)) := by simpa using hown1
                 clear hown1 hgrow1) 
              | (refine step_app_ownI rfl _ _ _ rfl wq.heap.size 3 i0 _ 1 8 Try.underlying23 hi hz0 hz1 hz2 rfl (by decide) (.slice (some ⟨wq.heap.size, 0, none⟩) 0 0) 0 [] rfl ((World.ownsRow_made (base := wq.heap.size) (e := 3) (size := 1) wq.drew #[] 0 (Keep.refl wq).drew.size (by unfold maxLen; omega) rfl).alloc (.cells #[.int .i64 x] 3)) ⟨g, 0, none⟩ u _ ((S.take u).map (Value.int .i64)) rfl (by rw [List.length_map, HTl.out]; try omega) (news_lsI (HT.out.keep (((Keep.refl wq).drew.alloc (.cells #[] 3)).alloc (.cells #[.int .i64 x] 3)))) ints1 (by unfold maxLen; omega) (by omega) (((Keep.refl wq).drew.alloc (.cells #[] 3)).alloc (.cells #[.int .i64 x] 3)).size ?_
                 intro v1 wN hown1 hgrow1
                 have hKN : Keep wq wN := Below.grown (((Keep.refl wq).drew.alloc (.cells #[] 3)).alloc (.cells #[.int .i64 x] 3)) hgrow1 (((Keep.refl wq).drew.alloc (.cells #[] 3)).alloc (.cells #[.int .i64 x] 3)).size (fun q hq => (((World.ownsRow_made (base := wq.heap.size) (e := 3) (size := 1) wq.drew #[] 0 (Keep.refl wq).drew.size (by unfold maxLen; omega) rfl).alloc (.cells #[.int .i64 x] 3)).lt q hq).1)
                 have x0 := hKN.cell czq
                 have ho : wN.ownsRow wq.heap.size 3 1 v1 u ((S.take u).map (Value.int .i64)) := by simpa using hown1
                 have hBk : ∀ j y, [Value.int .i64 x][j]? = some y → wN.cell? ((⟨wq.heap.size + 1, 0, none⟩ : Addr).add j) = some y := newsX (World.grownBy.cell hgrow1 (a := ⟨wq.heap.size + 1, 0, none⟩) (by
                   have h1 := World.cell?_alloc_new (wq.drew.alloc (.cells #[] 3)) #[.int .i64 x] 3 0
                   rw [show (wq.drew.alloc (.cells #[] 3)).heap.size = wq.heap.size + 1 by simp] at h1
                   exact h1) (by simp [Value.ownBlock]))
                 clear hown1 hgrow1) 
              | (refine step_app_ownI rfl _ _ _ rfl wq.heap.size 3 i0 _ 1 8 Try.underlying23 hi hz0 hz1 hz2 rfl (by decide) (.slice (some ⟨wq.heap.size + 1, 0, none⟩) 0 0) 0 [] rfl HOC.out ⟨g, 0, none⟩ u _ ((S.take u).map (Value.int .i64)) rfl (by rw [List.length_map, HTl.out]; try omega) (news_lsI (HT.out.keep (((Keep.refl wq).drew.alloc (.cells #[.int .i64 x] 3)).alloc (.cells #[] 3)))) ints1 (by unfold maxLen; omega) (by omega) (((Keep.refl wq).drew.alloc (.cells #[.int .i64 x] 3)).alloc (.cells #[] 3)).size ?_
                 intro v1 wN hown1 hgrow1
                 have hKN : Keep wq wN := Below.grown (((Keep.refl wq).drew.alloc (.cells #[.int .i64 x] 3)).alloc (.cells #[] 3)) hgrow1 (((Keep.refl wq).drew.alloc (.cells #[.int .i64 x] 3)).alloc (.cells #[] 3)).size (fun q hq => (HOC.out.lt q hq).1)
                 have x0 := hKN.cell czq
                 have ho : wN.ownsRow wq.heap.size 3 1 v1 u ((S.take u).map (Value.int .i64)) := by simpa using hown1
                 have hBk : ∀ j y, [Value.int .i64 x][j]? = some y → wN.cell? ((⟨wq.heap.size, 0, none⟩ : Addr).add j) = some y := newsX (World.grownBy.cell hgrow1 (a := ⟨wq.heap.size, 0, none⟩) ((World.cell?_of_block (w := wq.drew.alloc (.cells #[.int .i64 x] 3)) (w' := (wq.drew.alloc (.cells #[.int .i64 x] 3)).alloc (.cells #[] 3)) (a := ⟨wq.heap.size, 0, none⟩) (RowKit.Below.heap_alloc _ _ _ (by simp))).trans (World.cell?_alloc_new wq.drew _ _ 0)) (by simp [Value.ownBlock]))
                 clear hown1 hgrow1) 
              | (refine step_app_ownI rfl _ _ _ rfl wq.heap.size 3 i0 _ 1 8 Try.underlying23 hi hz0 hz1 hz2 rfl (by decide) _ u ((S.take u).map (Value.int .i64)) rfl (ho.alloc (.cells #[.int .i64 x] 3)) ⟨wN.heap.size, 0, none⟩ 1 1 [.int .i64 x] rfl rfl (newsW wN x) one1 (by unfold maxLen; omega) (by omega) (hKN.alloc (.cells #[.int .i64 x] 3)).size ?_
                 intro v2 wM hown2 hgrow2
                 have hKM : Keep wq wM := Below.grown (hKN.alloc (.cells #[.int .i64 x] 3)) hgrow2 (hKN.alloc (.cells #[.int .i64 x] 3)).size (fun q hq => ((ho.alloc (.cells #[.int .i64 x] 3)).lt q hq).1)
                 have ho2 : wM.ownsRow wq.heap.size 3 1 v2 (u + 1) ((S.take u ++ [x]).map (Value.int .i64)) := by simpa using hown2
                 clear hown2 hgrow2) 
              | (refine step_app_ownI rfl _ _ _ rfl wq.heap.size 3 i0 _ 1 8 Try.underlying23 hi hz0 hz1 hz2 rfl (by decide) _ u ((S.take u).map (Value.int .i64)) rfl ho ⟨_, 0, none⟩ 1 1 [.int .i64 x] rfl rfl hBk one1 (by unfold maxLen; omega) (by omega) hKN.size ?_
                 intro v2 wM hown2 hgrow2
                 have hKM : Keep wq wM := Below.grown hKN hgrow2 hKN.size (fun q hq => (ho.lt q hq).1)
                 have ho2 : wM.ownsRow wq.heap.size 3 1 v2 (u + 1) ((S.take u ++ [x]).map (Value.int .i64)) := by simpa using hown2
                 clear hown2 hgrow2) 
              | (refine step_app_ownI rfl _ _ _ rfl wq.heap.size 3 i0 _ 1 8 Try.underlying23 hi hz0 hz1 hz2 rfl (by decide) _ (u + 1) ((S.take u ++ [x]).map (Value.int .i64)) rfl ho2 ⟨g, u, none⟩ (k - u) _ ((S.drop u).map (Value.int .i64)) rfl (by rw [List.length_map, HDl.out]; have := HUK.out; omega) (news_lsI (HD.out.keep hKM)) ints1 (by unfold maxLen; omega) (by omega) hKM.size ?_
                 intro v3 wF hown3 hgrow3
                 have HFK : Hid (Keep wq wF) := Lib.hid (Below.grown hKM hgrow3 hKM.size (fun q hq => (ho2.lt q hq).1))
                 have HFO : Hid (wF.ownsRow wq.heap.size 3 1 v3 (k + 1) S2r) := Lib.hid (by
                   have h9 := hown3
                   rw [← List.map_append, HSp.out, HS2r.out, show u + 1 + (k - u) = k + 1 by have := HUK.out; omega] at h9
                   exact h9)
                 clear hown3 hgrow3))
            all_goals
              have hsq := Kq.size
              obtain ⟨g9, c9, rfl, hg9, _⟩ := HFO.out.form (by omega)
              have HO9 : Hid (OwI wF w.heap.size (.slice (some ⟨g9, 0, none⟩) (k + 1) c9) (sorted (L.take (k + 1)))) := Lib.hid (own_low hsq (by
                have h9 := HFO.out
                rw [← HS2r.out, ← HS2.out] at h9
                unfold OwI
                rw [sorted_length, List.length_take, Nat.min_eq_left (by omega)]
                exact h9))
              have K9 : Keep w wF := Kq.trans HFK.out
              clear HFO HFK
              go_wp2
              go_roundw
              case rel => exact ⟨k + 1, g9, c9, by omega, by go_num, rfl, HO9, K9⟩
              case measure => simp [intOf]; omega
        · have huk2 : u = k := by omega
          have HSp := Lib.hid (HPut.out u hu HA.out (.inl huk2))
          have uc : (u : Int) ≤ (c : Int) := by omega
          have uk : ¬ (u : Int) < (k : Int) := by omega
          have HUK := Lib.hid huk2
          clear huk2
          by_cases hcu : c = u
          · have hcu := hcu.symm
            subst hcu
            go_wp2_with fail
            go_quiet (fail)
            go_wp2_with fail
            refine @abs_worldI (fun wq => Code.wp _ _ _ _ wq) _ (fun wq => Hid (OwI wq w.heap.size (.slice (some ⟨g, 0, none⟩) k u) S) ∧ Keep w wq ∧ wq.cell? ⟨bz, oz + k, none⟩ = some (.int .i64 x)) ⟨Lib.hid (HO2.out.keep (by first | exact Keep.refl _ | exact (Keep.refl _).drewN _)), by first | exact hK.trans hK2 | exact (hK.trans hK2).drewN _, by first | exact hK2.cell cz | exact (hK2.drewN _).cell cz⟩ ?_
            rintro wq ⟨HOq, Kq, czq⟩
            have hbq : bz < wq.heap.size := World.block_lt_of_cell? wq _ czq
            have hLq : Ls wq (some ⟨g, 0, none⟩) S := by
              obtain ⟨_, _, e9, _, h9⟩ := HOq.out.slice
              injection e9 with e1 _ _
              rw [e1]; exact h9
            have HT := Lib.hid (ls_takeI hLq u)
            have HTl : Hid ((S.take u).length = u) := Lib.hid (by rw [List.length_take]; have := HLn.out; omega)
            have HD : Hid (Ls wq (some ⟨g, 0, none⟩) (S.drop u)) := Lib.hid (.inl (List.drop_eq_nil_of_le (by have := HLn.out; have := HUK.out; omega)))
            have HDl : Hid ((S.drop u).length = k - u) := Lib.hid (by rw [List.length_drop, HLn.out])
            clear cz2 hLq HA HO2 hK2 cz hK
            have HOC : Hid (((wq.drew.alloc (.cells #[.int .i64 x] 3)).alloc (.cells #[] 3)).ownsRow wq.heap.size 3 1 (.slice (some ⟨wq.heap.size + 1, 0, none⟩) 0 0) 0 []) := Lib.hid (by
              have h1 := (World.ownsRow_made (base := wq.heap.size) (e := 3) (size := 1) (wq.drew.alloc (.cells #[.int .i64 x] 3)) #[] 0 ((Keep.refl wq).drew.alloc (.cells #[.int .i64 x] 3)).size (by unfold maxLen; omega) rfl)
              rw [show (wq.drew.alloc (.cells #[.int .i64 x] 3)).heap.size = wq.heap.size + 1 by simp] at h1
              exact h1)
            go_region_law (first
              | (refine step_app_ownI rfl _ _ _ rfl wq.heap.size 3 i0 _ 1 8 Try.underlying23 hi hz0 hz1 hz2 rfl (by decide) (.slice (some ⟨wq.heap.size, 0, none⟩) 0 0) 0 [] rfl (World.ownsRow_made (base := wq.heap.size) (e := 3) (size := 1) wq.drew #[] 0 (Keep.refl wq).drew.size (by unfold maxLen; omega) rfl) ⟨g, 0, none⟩ u _ ((S.take u).map (Value.int .i64)) rfl (by rw [List.length_map, HTl.out]; try omega) (news_lsI (HT.out.keep ((Keep.refl wq).drew.alloc (.cells #[] 3)))) ints1 (by unfold maxLen; omega) (by omega) ((Keep.refl wq).drew.alloc (.cells #[] 3)).size ?_
                 intro v1 wN hown1 hgrow1
                 have hKN : Keep wq wN := Below.grown ((Keep.refl wq).drew.alloc (.cells #[] 3)) hgrow1 ((Keep.refl wq).drew.alloc (.cells #[] 3)).size (fun q hq => ((World.ownsRow_made (base := wq.heap.size) (e := 3) (size := 1) wq.drew #[] 0 (Keep.refl wq).drew.size (by unfold maxLen; omega) rfl).lt q hq).1)
                 have x0 := hKN.cell czq
                 have ho : wN.ownsRow wq.heap.size 3 1 v1 u ((S.take u).map (Value.int .i64)) := by simpa using hown1
                 clear hown1 hgrow1) 
              | (refine step_app_ownI rfl _ _ _ rfl wq.heap.size 3 i0 _ 1 8 Try.underlying23 hi hz0 hz1 hz2 rfl (by decide) (.slice (some ⟨wq.heap.size, 0, none⟩) 0 0) 0 [] rfl ((World.ownsRow_made (base := wq.heap.size) (e := 3) (size := 1) wq.drew #[] 0 (Keep.refl wq).drew.size (by unfold maxLen; omega) rfl).alloc (.cells #[.int .i64 x] 3)) ⟨g, 0, none⟩ u _ ((S.take u).map (Value.int .i64)) rfl (by rw [List.length_map, HTl.out]; try omega) (news_lsI (HT.out.keep (((Keep.refl wq).drew.alloc (.cells #[] 3)).alloc (.cells #[.int .i64 x] 3)))) ints1 (by unfold maxLen; omega) (by omega) (((Keep.refl wq).drew.alloc (.cells #[] 3)).alloc (.cells #[.int .i64 x] 3)).size ?_
                 intro v1 wN hown1 hgrow1
                 have hKN : Keep wq wN := Below.grown (((Keep.refl wq).drew.alloc (.cells #[] 3)).alloc (.cells #[.int .i64 x] 3)) hgrow1 (((Keep.refl wq).drew.alloc (.cells #[] 3)).alloc (.cells #[.int .i64 x] 3)).size (fun q hq => (((World.ownsRow_made (base := wq.heap.size) (e := 3) (size := 1) wq.drew #[] 0 (Keep.refl wq).drew.size (by unfold maxLen; omega) rfl).alloc (.cells #[.int .i64 x] 3)).lt q hq).1)
                 have x0 := hKN.cell czq
                 have ho : wN.ownsRow wq.heap.size 3 1 v1 u ((S.take u).map (Value.int .i64)) := by simpa using hown1
                 have hBk : ∀ j y, [Value.int .i64 x][j]? = some y → wN.cell? ((⟨wq.heap.size + 1, 0, none⟩ : Addr).add j) = some y := newsX (World.grownBy.cell hgrow1 (a := ⟨wq.heap.size + 1, 0, none⟩) (by
                   have h1 := World.cell?_alloc_new (wq.drew.alloc (.cells #[] 3)) #[.int .i64 x] 3 0
                   rw [show (wq.drew.alloc (.cells #[] 3)).heap.size = wq.heap.size + 1 by simp] at h1
                   exact h1) (by simp [Value.ownBlock]))
                 clear hown1 hgrow1) 
              | (refine step_app_ownI rfl _ _ _ rfl wq.heap.size 3 i0 _ 1 8 Try.underlying23 hi hz0 hz1 hz2 rfl (by decide) (.slice (some ⟨wq.heap.size + 1, 0, none⟩) 0 0) 0 [] rfl HOC.out ⟨g, 0, none⟩ u _ ((S.take u).map (Value.int .i64)) rfl (by rw [List.length_map, HTl.out]; try omega) (news_lsI (HT.out.keep (((Keep.refl wq).drew.alloc (.cells #[.int .i64 x] 3)).alloc (.cells #[] 3)))) ints1 (by unfold maxLen; omega) (by omega) (((Keep.refl wq).drew.alloc (.cells #[.int .i64 x] 3)).alloc (.cells #[] 3)).size ?_
                 intro v1 wN hown1 hgrow1
                 have hKN : Keep wq wN := Below.grown (((Keep.refl wq).drew.alloc (.cells #[.int .i64 x] 3)).alloc (.cells #[] 3)) hgrow1 (((Keep.refl wq).drew.alloc (.cells #[.int .i64 x] 3)).alloc (.cells #[] 3)).size (fun q hq => (HOC.out.lt q hq).1)
                 have x0 := hKN.cell czq
                 have ho : wN.ownsRow wq.heap.size 3 1 v1 u ((S.take u).map (Value.int .i64)) := by simpa using hown1
                 have hBk : ∀ j y, [Value.int .i64 x][j]? = some y → wN.cell? ((⟨wq.heap.size, 0, none⟩ : Addr).add j) = some y := newsX (World.grownBy.cell hgrow1 (a := ⟨wq.heap.size, 0, none⟩) ((World.cell?_of_block (w := wq.drew.alloc (.cells #[.int .i64 x] 3)) (w' := (wq.drew.alloc (.cells #[.int .i64 x] 3)).alloc (.cells #[] 3)) (a := ⟨wq.heap.size, 0, none⟩) (RowKit.Below.heap_alloc _ _ _ (by simp))).trans (World.cell?_alloc_new wq.drew _ _ 0)) (by simp [Value.ownBlock]))
                 clear hown1 hgrow1) 
              | (refine step_app_ownI rfl _ _ _ rfl wq.heap.size 3 i0 _ 1 8 Try.underlying23 hi hz0 hz1 hz2 rfl (by decide) _ u ((S.take u).map (Value.int .i64)) rfl (ho.alloc (.cells #[.int .i64 x] 3)) ⟨wN.heap.size, 0, none⟩ 1 1 [.int .i64 x] rfl rfl (newsW wN x) one1 (by unfold maxLen; omega) (by omega) (hKN.alloc (.cells #[.int .i64 x] 3)).size ?_
                 intro v2 wM hown2 hgrow2
                 have hKM : Keep wq wM := Below.grown (hKN.alloc (.cells #[.int .i64 x] 3)) hgrow2 (hKN.alloc (.cells #[.int .i64 x] 3)).size (fun q hq => ((ho.alloc (.cells #[.int .i64 x] 3)).lt q hq).1)
                 have ho2 : wM.ownsRow wq.heap.size 3 1 v2 (u + 1) ((S.take u ++ [x]).map (Value.int .i64)) := by simpa using hown2
                 clear hown2 hgrow2) 
              | (refine step_app_ownI rfl _ _ _ rfl wq.heap.size 3 i0 _ 1 8 Try.underlying23 hi hz0 hz1 hz2 rfl (by decide) _ u ((S.take u).map (Value.int .i64)) rfl ho ⟨_, 0, none⟩ 1 1 [.int .i64 x] rfl rfl hBk one1 (by unfold maxLen; omega) (by omega) hKN.size ?_
                 intro v2 wM hown2 hgrow2
                 have hKM : Keep wq wM := Below.grown hKN hgrow2 hKN.size (fun q hq => (ho.lt q hq).1)
                 have ho2 : wM.ownsRow wq.heap.size 3 1 v2 (u + 1) ((S.take u ++ [x]).map (Value.int .i64)) := by simpa using hown2
                 clear hown2 hgrow2) 
              | (refine step_app_ownI rfl _ _ _ rfl wq.heap.size 3 i0 _ 1 8 Try.underlying23 hi hz0 hz1 hz2 rfl (by decide) _ (u + 1) ((S.take u ++ [x]).map (Value.int .i64)) rfl ho2 ⟨g, 0, none⟩ 0 _ ((S.drop u).map (Value.int .i64)) rfl (by rw [List.length_map, HDl.out]; have := HUK.out; omega) (news_lsI (HD.out.keep hKM)) ints1 (by unfold maxLen; omega) (by omega) hKM.size ?_
                 intro v3 wF hown3 hgrow3
                 have HFK : Hid (Keep wq wF) := Lib.hid (Below.grown hKM hgrow3 hKM.size (fun q hq => (ho2.lt q hq).1))
                 have HFO : Hid (wF.ownsRow wq.heap.size 3 1 v3 (k + 1) S2r) := Lib.hid (by
                   have h9 := hown3
                   rw [← List.map_append, HSp.out, HS2r.out, show u + 1 + 0 = k + 1 by have := HUK.out; omega] at h9
                   exact h9)
                 clear hown3 hgrow3))
            all_goals
              have hsq := Kq.size
              obtain ⟨g9, c9, rfl, hg9, _⟩ := HFO.out.form (by omega)
              have HO9 : Hid (OwI wF w.heap.size (.slice (some ⟨g9, 0, none⟩) (k + 1) c9) (sorted (L.take (k + 1)))) := Lib.hid (own_low hsq (by
                have h9 := HFO.out
                rw [← HS2r.out, ← HS2.out] at h9
                unfold OwI
                rw [sorted_length, List.length_take, Nat.min_eq_left (by omega)]
                exact h9))
              have K9 : Keep w wF := Kq.trans HFK.out
              clear HFO HFK
              go_wp2
              go_roundw
              case rel => exact ⟨k + 1, g9, c9, by omega, by go_num, rfl, HO9, K9⟩
              case measure => simp [intOf]; omega
          · have qcu := hcu
            go_wp2_with fail
            go_quiet (fail)
            go_wp2_with fail
            refine @abs_worldI (fun wq => Code.wp _ _ _ _ wq) _ (fun wq => Hid (OwI wq w.heap.size (.slice (some ⟨g, 0, none⟩) k c) S) ∧ Keep w wq ∧ wq.cell? ⟨bz, oz + k, none⟩ = some (.int .i64 x)) ⟨Lib.hid (HO2.out.keep (by first | exact Keep.refl _ | exact (Keep.refl _).drewN _)), by first | exact hK.trans hK2 | exact (hK.trans hK2).drewN _, by first | exact hK2.cell cz | exact (hK2.drewN _).cell cz⟩ ?_
            rintro wq ⟨HOq, Kq, czq⟩
            have hbq : bz < wq.heap.size := World.block_lt_of_cell? wq _ czq
            have hLq : Ls wq (some ⟨g, 0, none⟩) S := by
              obtain ⟨_, _, e9, _, h9⟩ := HOq.out.slice
              injection e9 with e1 _ _
              rw [e1]; exact h9
            have HT := Lib.hid (ls_takeI hLq u)
            have HTl : Hid ((S.take u).length = u) := Lib.hid (by rw [List.length_take]; have := HLn.out; omega)
            have HD : Hid (Ls wq (some ⟨g, u, none⟩) (S.drop u)) := Lib.hid (.inl (List.drop_eq_nil_of_le (by have := HLn.out; have := HUK.out; omega)))
            have HDl : Hid ((S.drop u).length = k - u) := Lib.hid (by rw [List.length_drop, HLn.out])
            clear cz2 hLq HA HO2 hK2 cz hK
            have HOC : Hid (((wq.drew.alloc (.cells #[.int .i64 x] 3)).alloc (.cells #[] 3)).ownsRow wq.heap.size 3 1 (.slice (some ⟨wq.heap.size + 1, 0, none⟩) 0 0) 0 []) := Lib.hid (by
              have h1 := (World.ownsRow_made (base := wq.heap.size) (e := 3) (size := 1) (wq.drew.alloc (.cells #[.int .i64 x] 3)) #[] 0 ((Keep.refl wq).drew.alloc (.cells #[.int .i64 x] 3)).size (by unfold maxLen; omega) rfl)
              rw [show (wq.drew.alloc (.cells #[.int .i64 x] 3)).heap.size = wq.heap.size + 1 by simp] at h1
              exact h1)
            go_region_law (first
              | (refine step_app_ownI rfl _ _ _ rfl wq.heap.size 3 i0 _ 1 8 Try.underlying23 hi hz0 hz1 hz2 rfl (by decide) (.slice (some ⟨wq.heap.size, 0, none⟩) 0 0) 0 [] rfl (World.ownsRow_made (base := wq.heap.size) (e := 3) (size := 1) wq.drew #[] 0 (Keep.refl wq).drew.size (by unfold maxLen; omega) rfl) ⟨g, 0, none⟩ u _ ((S.take u).map (Value.int .i64)) rfl (by rw [List.length_map, HTl.out]; try omega) (news_lsI (HT.out.keep ((Keep.refl wq).drew.alloc (.cells #[] 3)))) ints1 (by unfold maxLen; omega) (by omega) ((Keep.refl wq).drew.alloc (.cells #[] 3)).size ?_
                 intro v1 wN hown1 hgrow1
                 have hKN : Keep wq wN := Below.grown ((Keep.refl wq).drew.alloc (.cells #[] 3)) hgrow1 ((Keep.refl wq).drew.alloc (.cells #[] 3)).size (fun q hq => ((World.ownsRow_made (base := wq.heap.size) (e := 3) (size := 1) wq.drew #[] 0 (Keep.refl wq).drew.size (by unfold maxLen; omega) rfl).lt q hq).1)
                 have x0 := hKN.cell czq
                 have ho : wN.ownsRow wq.heap.size 3 1 v1 u ((S.take u).map (Value.int .i64)) := by simpa using hown1
                 clear hown1 hgrow1) 
              | (refine step_app_ownI rfl _ _ _ rfl wq.heap.size 3 i0 _ 1 8 Try.underlying23 hi hz0 hz1 hz2 rfl (by decide) (.slice (some ⟨wq.heap.size, 0, none⟩) 0 0) 0 [] rfl ((World.ownsRow_made (base := wq.heap.size) (e := 3) (size := 1) wq.drew #[] 0 (Keep.refl wq).drew.size (by unfold maxLen; omega) rfl).alloc (.cells #[.int .i64 x] 3)) ⟨g, 0, none⟩ u _ ((S.take u).map (Value.int .i64)) rfl (by rw [List.length_map, HTl.out]; try omega) (news_lsI (HT.out.keep (((Keep.refl wq).drew.alloc (.cells #[] 3)).alloc (.cells #[.int .i64 x] 3)))) ints1 (by unfold maxLen; omega) (by omega) (((Keep.refl wq).drew.alloc (.cells #[] 3)).alloc (.cells #[.int .i64 x] 3)).size ?_
                 intro v1 wN hown1 hgrow1
                 have hKN : Keep wq wN := Below.grown (((Keep.refl wq).drew.alloc (.cells #[] 3)).alloc (.cells #[.int .i64 x] 3)) hgrow1 (((Keep.refl wq).drew.alloc (.cells #[] 3)).alloc (.cells #[.int .i64 x] 3)).size (fun q hq => (((World.ownsRow_made (base := wq.heap.size) (e := 3) (size := 1) wq.drew #[] 0 (Keep.refl wq).drew.size (by unfold maxLen; omega) rfl).alloc (.cells #[.int .i64 x] 3)).lt q hq).1)
                 have x0 := hKN.cell czq
                 have ho : wN.ownsRow wq.heap.size 3 1 v1 u ((S.take u).map (Value.int .i64)) := by simpa using hown1
                 have hBk : ∀ j y, [Value.int .i64 x][j]? = some y → wN.cell? ((⟨wq.heap.size + 1, 0, none⟩ : Addr).add j) = some y := newsX (World.grownBy.cell hgrow1 (a := ⟨wq.heap.size + 1, 0, none⟩) (by
                   have h1 := World.cell?_alloc_new (wq.drew.alloc (.cells #[] 3)) #[.int .i64 x] 3 0
                   rw [show (wq.drew.alloc (.cells #[] 3)).heap.size = wq.heap.size + 1 by simp] at h1
                   exact h1) (by simp [Value.ownBlock]))
                 clear hown1 hgrow1) 
              | (refine step_app_ownI rfl _ _ _ rfl wq.heap.size 3 i0 _ 1 8 Try.underlying23 hi hz0 hz1 hz2 rfl (by decide) (.slice (some ⟨wq.heap.size + 1, 0, none⟩) 0 0) 0 [] rfl HOC.out ⟨g, 0, none⟩ u _ ((S.take u).map (Value.int .i64)) rfl (by rw [List.length_map, HTl.out]; try omega) (news_lsI (HT.out.keep (((Keep.refl wq).drew.alloc (.cells #[.int .i64 x] 3)).alloc (.cells #[] 3)))) ints1 (by unfold maxLen; omega) (by omega) (((Keep.refl wq).drew.alloc (.cells #[.int .i64 x] 3)).alloc (.cells #[] 3)).size ?_
                 intro v1 wN hown1 hgrow1
                 have hKN : Keep wq wN := Below.grown (((Keep.refl wq).drew.alloc (.cells #[.int .i64 x] 3)).alloc (.cells #[] 3)) hgrow1 (((Keep.refl wq).drew.alloc (.cells #[.int .i64 x] 3)).alloc (.cells #[] 3)).size (fun q hq => (HOC.out.lt q hq).1)
                 have x0 := hKN.cell czq
                 have ho : wN.ownsRow wq.heap.size 3 1 v1 u ((S.take u).map (Value.int .i64)) := by simpa using hown1
                 have hBk : ∀ j y, [Value.int .i64 x][j]? = some y → wN.cell? ((⟨wq.heap.size, 0, none⟩ : Addr).add j) = some y := newsX (World.grownBy.cell hgrow1 (a := ⟨wq.heap.size, 0, none⟩) ((World.cell?_of_block (w := wq.drew.alloc (.cells #[.int .i64 x] 3)) (w' := (wq.drew.alloc (.cells #[.int .i64 x] 3)).alloc (.cells #[] 3)) (a := ⟨wq.heap.size, 0, none⟩) (RowKit.Below.heap_alloc _ _ _ (by simp))).trans (World.cell?_alloc_new wq.drew _ _ 0)) (by simp [Value.ownBlock]))
                 clear hown1 hgrow1) 
              | (refine step_app_ownI rfl _ _ _ rfl wq.heap.size 3 i0 _ 1 8 Try.underlying23 hi hz0 hz1 hz2 rfl (by decide) _ u ((S.take u).map (Value.int .i64)) rfl (ho.alloc (.cells #[.int .i64 x] 3)) ⟨wN.heap.size, 0, none⟩ 1 1 [.int .i64 x] rfl rfl (newsW wN x) one1 (by unfold maxLen; omega) (by omega) (hKN.alloc (.cells #[.int .i64 x] 3)).size ?_
                 intro v2 wM hown2 hgrow2
                 have hKM : Keep wq wM := Below.grown (hKN.alloc (.cells #[.int .i64 x] 3)) hgrow2 (hKN.alloc (.cells #[.int .i64 x] 3)).size (fun q hq => ((ho.alloc (.cells #[.int .i64 x] 3)).lt q hq).1)
                 have ho2 : wM.ownsRow wq.heap.size 3 1 v2 (u + 1) ((S.take u ++ [x]).map (Value.int .i64)) := by simpa using hown2
                 clear hown2 hgrow2) 
              | (refine step_app_ownI rfl _ _ _ rfl wq.heap.size 3 i0 _ 1 8 Try.underlying23 hi hz0 hz1 hz2 rfl (by decide) _ u ((S.take u).map (Value.int .i64)) rfl ho ⟨_, 0, none⟩ 1 1 [.int .i64 x] rfl rfl hBk one1 (by unfold maxLen; omega) (by omega) hKN.size ?_
                 intro v2 wM hown2 hgrow2
                 have hKM : Keep wq wM := Below.grown hKN hgrow2 hKN.size (fun q hq => (ho.lt q hq).1)
                 have ho2 : wM.ownsRow wq.heap.size 3 1 v2 (u + 1) ((S.take u ++ [x]).map (Value.int .i64)) := by simpa using hown2
                 clear hown2 hgrow2) 
              | (refine step_app_ownI rfl _ _ _ rfl wq.heap.size 3 i0 _ 1 8 Try.underlying23 hi hz0 hz1 hz2 rfl (by decide) _ (u + 1) ((S.take u ++ [x]).map (Value.int .i64)) rfl ho2 ⟨g, u, none⟩ (k - u) _ ((S.drop u).map (Value.int .i64)) rfl (by rw [List.length_map, HDl.out]; have := HUK.out; omega) (news_lsI (HD.out.keep hKM)) ints1 (by unfold maxLen; omega) (by omega) hKM.size ?_
                 intro v3 wF hown3 hgrow3
                 have HFK : Hid (Keep wq wF) := Lib.hid (Below.grown hKM hgrow3 hKM.size (fun q hq => (ho2.lt q hq).1))
                 have HFO : Hid (wF.ownsRow wq.heap.size 3 1 v3 (k + 1) S2r) := Lib.hid (by
                   have h9 := hown3
                   rw [← List.map_append, HSp.out, HS2r.out, show u + 1 + (k - u) = k + 1 by have := HUK.out; omega] at h9
                   exact h9)
                 clear hown3 hgrow3))
            all_goals
              have hsq := Kq.size
              obtain ⟨g9, c9, rfl, hg9, _⟩ := HFO.out.form (by omega)
              have HO9 : Hid (OwI wF w.heap.size (.slice (some ⟨g9, 0, none⟩) (k + 1) c9) (sorted (L.take (k + 1)))) := Lib.hid (own_low hsq (by
                have h9 := HFO.out
                rw [← HS2r.out, ← HS2.out] at h9
                unfold OwI
                rw [sorted_length, List.length_take, Nat.min_eq_left (by omega)]
                exact h9))
              have K9 : Keep w wF := Kq.trans HFK.out
              clear HFO HFK
              go_wp2
              go_roundw
              case rel => exact ⟨k + 1, g9, c9, by omega, by go_num, rfl, HO9, K9⟩
              case measure => simp [intOf]; omega
    · obtain rfl : k = L.length := by omega
      rw [List.take_length] at HO
      have HF := Lib.hid (nwl_own HO.out (Nat.le_refl _) hK)
      go_wp2
      go_ret
      exact HF.out
set_option maxRecDepth 100000 in
set_option maxHeartbeats 1000000 in
theorem so_spec (a : Option Addr) (cap : Nat) (zs : List Int) (w : World) (h : Ls w a zs) (hm : zs.length ≤ 1048576) :
    Calls Try.prog 14 #[.slice a zs.length cap] w (NwL (soL zs) w) := by
  have HQ := Lib.hid (sqv_spec a cap zs w h (by omega))
  rcases Bool.eq_false_or_eq_true (sqB zs) with hq | hq
  case' inr =>
    have HF := Lib.hid (soL_no hq)
    rw [hq] at HQ
    clear hq
    go_enter Try.func14, Try.ntmps14
    go_wp2_with fail
    refine HQ.out.mono ?_
    rintro e w1 ⟨rfl, rfl⟩
    go_wp2
    go_ret
    exact nwl_no HF.out _ 0 ((Keep.refl _).alloc _)
  have HF := Lib.hid (soL_yes hq)
  have hl2 := (sq_facts hq).2.2
  have hkl := knl_le zs
  rw [hq] at HQ
  clear hq
  go_enter Try.func14, Try.ntmps14
  go_wp2_with fail
  refine HQ.out.mono ?_
  rintro e w1 ⟨rfl, rfl⟩
  go_wp2_with fail
  refine (known2_any a cap zs _ h hm).mono ?_
  rintro e w2 ⟨g, c, rfl, hc, hW, hg, hgl, k2⟩
  go_wp2_with fail
  refine (ls_sorted (some ⟨g, 0, none⟩) c (knl zs) _ hW.ls (by omega)).mono ?_
  rintro e w3 ⟨y, cy, rfl, hcy, hFr, k3⟩
  go_wp2
  go_ret
  rw [HF.out]
  refine ⟨y, cy, rfl, hcy, ?_, k2.trans k3⟩
  have hs2 := k2.size
  rcases hFr with hn | ⟨g9, e9, h1, h2, h3⟩
  · exact .inl hn
  · exact .inr ⟨g9, e9, by omega, h2, h3⟩
theorem so_implF (a : Option Addr) (cap : Nat) (zs : List Int) (w : World) (h : Ls w a zs) (hm : zs.length ≤ 1048576) :
    Calls Try.prog 13 #[.slice a zs.length cap] w (FrPostO (soL zs) w) := (so_impl a cap zs w h hm).mono fun _ _ h => h.fr
theorem so_specF (a : Option Addr) (cap : Nat) (zs : List Int) (w : World) (h : Ls w a zs) (hm : zs.length ≤ 1048576) :
    Calls Try.prog 14 #[.slice a zs.length cap] w (FrPostO (soL zs) w) := (so_spec a cap zs w h hm).mono fun _ _ h => h.fr
end Go.Proofs.Ytmndlghadgccbae
