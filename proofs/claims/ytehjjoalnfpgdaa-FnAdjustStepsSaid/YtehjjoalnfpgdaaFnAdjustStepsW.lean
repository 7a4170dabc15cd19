/- P88: a step is a difference of medians. -/
import Derived.Test.YtehjjoalnfpgdaaDrAj
import Derived.Test.YtehjjoalnfpgdaaAq
import Derived.Test.YtehjjoalnfpgdaaAt
import Derived.Test.YtehjjoalnfpgdaaAk
import Derived.Test.YtehjjoalnfpgdaaLw
import Derived.Test.YtehjjoalnfpgdaaFr
import Derived.IntWalk
namespace Go.Proofs.Ytehjjoalnfpgdaa
open Go.RowKit
set_option linter.unusedVariables false

theorem news_any {w : World} {ad : Addr} {zs : List Int} (h : Ls w (some ad) zs) : ∀ j u, (zs.map (Value.int .i64))[j]? = some u → w.cell? (ad.add j) = some u := by
  rcases h with h | ⟨b, off, ha, h1, h2⟩
  · subst h; intro j u hj; simp at hj
  · injection ha with ha
    subst ha
    exact news_lsA (.inr ⟨b, off, rfl, h1, h2⟩)
set_option maxRecDepth 100000 in
set_option maxHeartbeats 6400000 in
theorem walk_FnAdjustSteps (a0 : Option Addr) (len0 cap0 : Nat) (z0 : List Int) (w : World) (w0 : IsRow .u8 w a0 len0 cap0 z0) :
    Calls Try.prog 8 #[.slice a0 len0 cap0] w fun e w' => e = .returned (.bool true) ∧ Below w.heap.size w w' := by
  have ha := code_of_row w0
  obtain ⟨hl0, hm0⟩ := ha.1
  unfold maxLen at hm0
  clear w0
  by_cases h : len0 ≤ 1048576
  case' neg =>
    have hd : decide (1048576 < (len0 : Int)) = true := by simp; omega
    go_enter Try.func8, Try.ntmps8
    go_wp2
    go_ret
    exact ⟨rfl, Below.refl _ _⟩
  have hd : decide (1048576 < (len0 : Int)) = false := by simp; omega
  go_enter Try.func8, Try.ntmps8
  go_wp2_with fail
  refine (drawAdjustSteps a0 len0 cap0 _ ha).mono ?_
  rintro e w1 ⟨a, b0, ca, cb, zs, cs, rfl, ⟨hl11, hca⟩, ⟨hl13, hcb⟩, hL1, hC1, k1⟩
  clear ha
  have hz := asL_le zs cs
  go_wp2_with fail
  refine (as_impl a b0 ca cb zs cs _ hL1 hC1 hca (by omega) (by omega)).mono ?_
  rintro e w2 ⟨p, q, rfl, hq, hF2, k2⟩
  go_wp2_with fail
  refine (as_spec a b0 ca cb zs cs _ (hL1.keep k2) (hC1.keep k2) hca (by omega) (by omega)).mono ?_
  rintro e w3 ⟨p3, q3, rfl, hq3, hF3, k3⟩
  have K3 : Keep w1 w3 := k2.trans k3
  have hO := hF2.ls.keep k3
  have hW := hF3.ls
  have hL := hL1.keep K3
  have hC := hC1.keep K3
  have KF := k1.trans K3
  clear hF2 hF3 k2 k3 hL1 hC1 K3 k1
  rcases Bool.eq_false_or_eq_true (ajB zs cs) with hs | hs
  case' inr =>
    generalize asL zs cs = L at *
    rw [hs]
    clear hs
    go_wp2_with fail
    refine (sI_eq p p3 q q3 L _ hO hW (by omega)).mono ?_
    rintro e w5 ⟨rfl, k5⟩
    go_wp2_with fail
    refine (sI_eq p p3 q q3 L _ (hO.keep k5) (hW.keep k5) (by omega)).mono ?_
    rintro e w7 ⟨rfl, k7⟩
    go_wp2
    go_ret
    exact ⟨rfl, (KF.trans k5).trans k7⟩
  obtain ⟨l1, l8, hlc⟩ := ajB_len hs
  obtain ⟨b, off, rfl, hb, _⟩ := hL.at_ (show 0 < zs.length by omega)
  have HMo : Hid (∀ k, k ≤ cs.length → ∀ c W, Keep w3 W → Calls Try.prog 17 #[.slice (some ⟨b, off + pS cs k, none⟩) (pE zs cs k - pS cs k) c] W fun e w' => e = .returned (.tuple #[.int .i64 (mdP zs cs k), .bool true]) ∧ Keep W w') := Lib.hid (fun k hk c W kw => by
    obtain ⟨e1, e2⟩ := seg_p hs hk
    obtain ⟨m1, m2, _⟩ := sh_mo e1
    have h9 := mo_impl (some ⟨b, off + pS cs k, none⟩) c (seg zs (pS cs k) (pE zs cs k)) W (ls_seg (hL.keep kw) _ _) (by rw [e2]; have := (p_bd hs hk).2.2.1; omega)
    rw [m1, m2, e2] at h9; exact h9)
  have HP : Hid (∀ k, k ≤ cs.length → pS cs k < pE zs cs k ∧ pE zs cs k ≤ zs.length ∧ (k < cs.length → cs.getD k 0 = (pE zs cs k : Int)) ∧ pQ zs cs (k + 1) = pE zs cs k ∧ pQ zs cs k = pS cs k) := Lib.hid (fun k hk => by
    obtain ⟨_, e2, e3, e4⟩ := p_bd hs hk
    exact ⟨e2, e3, fun h9 => (e4 h9).1, pQ_succ hk, pQ_at hk⟩)
  have HE : Hid (∀ k, k ≤ cs.length → (cs ++ [(zs.length : Int)]).getD k 0 = (pE zs cs k : Int)) := Lib.hid (fun k hk => by
    by_cases h9 : k < cs.length
    · rw [← (HP.out k hk).2.2.1 h9]
      simp [List.getD_eq_getElem?_getD, List.getElem?_append_left h9]
    · obtain rfl : k = cs.length := by omega
      rw [pE_last]
      simp [List.getD_eq_getElem?_getD])
  have HEl : Hid ((cs ++ [(zs.length : Int)]).length = cs.length + 1) := Lib.hid (by simp)
  have HBd : Hid (∀ k, k ≤ cs.length → -999 ≤ mdP zs cs k ∧ mdP zs cs k ≤ 10999) := Lib.hid (fun k hk => mdP_bd hs hk)
  have HAt : Hid (∀ k, k ≤ cs.length → (asL zs cs).getD k 0 = mdP zs cs cs.length - mdP zs cs k) := Lib.hid (fun k hk => by rw [asL_yes hs, asl_at hk])
  have HAl : Hid ((asL zs cs).length = cs.length + 1) := Lib.hid (by rw [asL_yes hs, asl_len])
  have HSe := Lib.hid (fun (k : Keep w3 w3) => sI_eq p p3 q q3 (asL zs cs) w3 hO hW (by omega))
  have HO := Lib.hid (fun W (k : Keep w3 W) j (hj : j < cs.length + 1) => (hO.keep k).at_ (i := j) (by rw [HAl.out]; exact hj))
  have HZ0 : Hid (pQ zs cs 0 = 0) := Lib.hid (pQ_zero zs cs)
  obtain ⟨i0, hi0, hz0, hz1, hz2⟩ := info_parts infoIntO
  rw [HAl.out] at HSe
  rw [hs, HAl.out]
  have hcs8 : cs.length < 8 := by omega
  clear hs hL hO hW hq hq3 hz HAl
  generalize mdP zs cs = D at *
  generalize asL zs cs = S9 at *
  generalize hzl : zs.length = n at *
  clear hzl
  generalize hE9 : cs ++ [(n : Int)] = E at *
  have HE9 := Lib.hid hE9
  clear hE9
  go_wp2_with fail
  refine (HSe.out (Keep.refl _)).mono ?_
  rintro e w4 ⟨rfl, k4⟩
  have hown0 : (w4.alloc (.cells #[] 3)).ownsRow w4.heap.size 3 1 (.slice (some ⟨w4.heap.size, 0, none⟩) 0 0) 0 [] := World.ownsRow_made w4 #[] 0 (Nat.le_refl _) (by unfold maxLen; omega) rfl
  have hC4 := (hC.keep k4).keep ((Keep.refl w4).alloc (.cells #[] 3))
  have hK4 : Keep w4 (w4.alloc (.cells #[] 3)) := (Keep.refl w4).alloc _
  have hb0 : (∃ ad, b0 = some ad) ∨ (b0 = none ∧ cs = []) := by
    cases b0 with
    | none =>
      rcases hC with h9 | ⟨bc, oc, h9, _⟩
      · exact .inr ⟨rfl, h9⟩
      · cases h9
    | some x => exact .inl ⟨x, rfl⟩
  clear HSe hC
  rcases hb0 with ⟨ad, rfl⟩ | ⟨rfl, rfl⟩
  · go_wp2_with (at_builtin; go_loud (refine wpList_append_own _ rfl _ _ 23 rfl w4.heap.size 3 i0 (.int .i64 0) 1 8 Try.underlying23 hi0 hz0 hz1 hz2 rfl (by decide) _ _ _ rfl hown0 ad cs.length cb (cs.map (Value.int .i64)) rfl (by simp) (news_any hC4) ints_one (by unfold maxLen; omega) (by omega) (by simp) ?_))
    intro v' w5 hown1 hgrow1 hnil1
    have hK5 : Keep w4 w5 := Below.grown hK4 hgrow1 hK4.size (fun q hq => (hown0.lt q hq).1)
    have hsz5 := hK5.size
    have hown1 : w5.ownsRow w4.heap.size 3 1 v' cs.length (cs.map (Value.int .i64)) := by simpa using hown1
    obtain ⟨a5, c5, rfl⟩ : ∃ a5 c5, v' = .slice a5 cs.length c5 := by
      rcases id hown1.2 with ⟨hv, h0⟩ | ⟨g, cap, cur, hv, _⟩
      · exact ⟨none, 0, by rw [hv, h0]⟩
      · exact ⟨_, _, hv⟩
    clear hgrow1 hnil1 hown0 hK4
    have hown : w5.ownsRow w4.heap.size 3 1 _ _ _ := hown1
    go_wp2_with (at_builtin; refine wpList_append_own _ rfl _ _ 23 rfl w4.heap.size 3 i0 (.int .i64 0) 1 8 Try.underlying23 hi0 hz0 hz1 hz2 rfl (by decide) _ _ _ rfl (hown.alloc _) ⟨w5.heap.size, 0, none⟩ 1 1 [.int .i64 n] rfl rfl ?c1a ?c2a ?c3a ?c4a ?c5a ?_)
    try case c1a =>
      intro j u hj
      match j, hj with
      | 0, hj => simp at hj; subst hj; simp [Addr.add]
    case c2a => first | rfl | (intro u hu; simp at hu; subst hu; rfl)
    case c3a => unfold maxLen; omega
    case c4a => omega
    case c5a => first | omega | (simp; omega)
    intro v' w9 hown' hgrow hnil
    have HK2 : Hid (Keep w4 w9) := Lib.hid (Below.grown (hK5.alloc (.cells #[.int .i64 n] 3)) hgrow (hK5.alloc (.cells #[.int .i64 n] 3)).size (fun q hq => (hown.lt q hq).1))
    clear hgrow hnil hown

    have hN : Hid (OwI w9 w4.heap.size v' E) := Lib.hid (by rw [← HE9.out]; unfold OwI; rw [List.length_append, List.map_append]; exact hown')
    clear hown'
    have hlE := HEl.out
    obtain ⟨aE, cE, rfl, hcE, hLE⟩ := hN.out.slice
    rw [hlE]
    have HLE := Lib.hid (fun W (k : Keep w9 W) j (hj : j < cs.length + 1) => (hLE.keep k).at_ (i := j) (by rw [hlE]; exact hj))
    obtain ⟨m, hm9⟩ : ∃ m, cs.length + 1 = m := ⟨_, rfl⟩
    have hm8 : m ≤ 8 := by omega
    have hm1 : 1 ≤ m := by omega
    have hjm : ∀ k, k < m → k ≤ cs.length := fun k hk => by omega
    have HJM := Lib.hid hjm
    have K9 := KF.trans (k4.trans HK2.out)
    have KW : Keep w3 w9 := k4.trans HK2.out
    have HMB := HBd.out cs.length (Nat.le_refl _)
    have HLAST : Hid (∀ k, k + 1 = m → D k = D cs.length) := Lib.hid (fun k hk => by rw [show k = cs.length by omega])
    rw [hm9] at HLE HO ⊢
    generalize hM9 : D cs.length = M at *
    clear hM9 hm9 hjm hLE hlE hcE hN HEl HE9
    go_wp2_with fail
    go_loopw [11, 12] (fun la t wr => ∃ (tt : Nat) (l : Int), tt ≤ 2 ∧ t = .int .i64 tt ∧ la = .int .i64 l ∧ Hid (tt ≠ 0 → l = M) ∧ Keep w9 wr) (fun _ t _ => 2 - (intOf t).toNat)
    case atStart => exact ⟨0, 0, by omega, rfl, rfl, Lib.hid (fun h9 => absurd rfl h9), Keep.refl _⟩
    case round =>
      obtain ⟨tt, lo, ht, rfl, rfl, HLO, hKt⟩ := hrel
      by_cases ht2 : tt < 2
      · go_wp2_with fail
        go_loopw [10, 11, 13] (fun f la i wr => ∃ (k : Nat) (l : Int), k ≤ m ∧ i = .int .i64 k ∧ f = .int .i64 ((pQ zs cs k : Nat) : Int) ∧ la = .int .i64 l ∧ Hid ((tt = 0 → 0 < k → l = D (k - 1)) ∧ (tt ≠ 0 → l = M)) ∧ Keep w9 wr) (fun _ _ i _ => m - (intOf i).toNat)
        case atStart => exact ⟨0, lo, by omega, rfl, by rw [HZ0.out]; rfl, rfl, Lib.hid ⟨fun _ h9 => absurd h9 (by omega), HLO.out⟩, hKt⟩
        case round =>
          obtain ⟨k, l, hk, rfl, rfl, rfl, HLI, hKr⟩ := hrel
          by_cases hlt : k < m
          · have hkl := HJM.out k hlt
            obtain ⟨bE, oE, hbE, _, cE0⟩ := HLE.out wr hKr k hlt
            (first | subst hbE | (injection hbE with hbE; injection hbE with hbE1 hbE2 _; subst hbE1; subst hbE2))
            rw [HE.out k hkl] at cE0
            obtain ⟨p1, p2, _, p4, p5⟩ := HP.out k hkl
            have H4 := Lib.hid p4
            rw [p5]
            have HM := Lib.hid (HMo.out k hkl)
            obtain ⟨b1, b2⟩ := HBd.out k hkl
            obtain ⟨bO, oO, hbO, _, cO0⟩ := HO.out wr (KW.trans hKr) k hlt
            (first | subst hbO | (injection hbO with hbO; injection hbO with hbO1 hbO2 _; subst hbO1; subst hbO2))
            rw [HAt.out k hkl] at cO0
            have HDk : Hid (D (k + 1 - 1) = D k) := Lib.hid rfl
            clear p4 p5
            generalize hps : pS cs k = ps at *
            generalize hpe : pE zs cs k = pe at *
            clear hps hpe
            have kz : (k : Int) < (m : Int) := by omega
            have k0 : (0 : Int) ≤ (k : Int) := by omega
            have q1 : (0 : Int) ≤ (ps : Int) := by omega
            have q2 : (ps : Int) ≤ (pe : Int) := by omega
            have q3 : (pe : Int) ≤ (ca : Int) := by omega
            have qc : ¬ ca = ps := by omega
            generalize D k = x at *
            go_wp2_with fail
            refine (HM.out _ _ (KW.trans hKr)).mono ?_
            rintro e w10 ⟨rfl, k10⟩
            have cE1 := k10.cell cE0
            have cO1 := k10.cell cO0
            have hK10 := hKr.trans k10
            rcases (show tt = 0 ∨ tt = 1 by omega) with rfl | rfl
            · go_wp2
              refine ⟨?_, ?measure⟩
              (repeat apply Exists.intro)
              refine ⟨?rel, rfl⟩
              case rel => exact ⟨k + 1, x, by omega, by go_num, by rw [H4.out], rfl, Lib.hid ⟨fun _ _ => HDk.out.symm, fun h9 => absurd rfl h9⟩, hK10⟩
              case measure => simp [intOf]; omega
            · have hlM := HLI.out.2 (by omega)
              rw [hlM]
              obtain ⟨y, hy⟩ : ∃ y, M - x = y := ⟨_, rfl⟩
              rw [hy] at cO1
              have exy : x + y = M := by omega
              have ewr : IntKind.i64.wrap M = M := IntWalk.i64_in _ ⟨by omega, by omega⟩
              clear hy
              go_wp2
              refine ⟨?_, ?measure⟩
              (repeat apply Exists.intro)
              refine ⟨?rel, rfl⟩
              case rel => exact ⟨k + 1, M, by omega, by go_num, by rw [H4.out], rfl, Lib.hid ⟨(fun h9 => by cases h9), fun _ => rfl⟩, hK10⟩
              case measure => simp [intOf]; omega
          · have hkm : k + 1 = m + 1 := by omega
            have HLs := HLAST.out (m - 1) (by omega)
            have hne : ¬ m = 0 := by omega
            obtain rfl : k = m := by omega
            go_wp2
            go_roundw
            case rel => exact ⟨tt + 1, l, by omega, by go_num, rfl, Lib.hid (fun _ => by
              rcases (show tt = 0 ∨ tt = 1 by omega) with rfl | rfl
              · rw [HLI.out.1 rfl (by omega), HLs]
              · exact HLI.out.2 (by omega)), hKr⟩
            case measure => simp [intOf]; omega
      · go_wp2
        go_ret
        exact ⟨rfl, K9.trans hKt⟩

  · have hK5 := hK4
    go_wp2_with (at_builtin; go_loud (refine wpList_append_own _ rfl _ _ 23 rfl w4.heap.size 3 i0 (.int .i64 0) 1 8 Try.underlying23 hi0 hz0 hz1 hz2 rfl (by decide) _ _ _ rfl (hown0.alloc (.cells #[.int .i64 n] 3)) ⟨w4.heap.size + 1, 0, none⟩ 1 1 [.int .i64 n] rfl rfl ?c1a ?c2a ?c3a ?c4a ?c5a ?_))
    case c1a =>
      intro j u hj
      match j, hj with
      | 0, hj => simp at hj; subst hj; simp [Addr.add]
    case c2a => first | rfl | (intro u hu; simp at hu; subst hu; rfl)
    case c3a => unfold maxLen; omega
    case c4a => omega
    case c5a => first | omega | (simp; omega)
    intro v' w9 hown' hgrow hnil
    have HK2 : Hid (Keep w4 w9) := Lib.hid (Below.grown (hK5.alloc (.cells #[.int .i64 n] 3)) hgrow (hK5.alloc (.cells #[.int .i64 n] 3)).size (fun q hq => (hown0.lt q hq).1))
    clear hgrow hnil hown0
    have hN : Hid (OwI w9 w4.heap.size v' E) := Lib.hid (by rw [← HE9.out]; unfold OwI; simpa using hown')
    clear hown'
    have hlE := HEl.out
    obtain ⟨aE, cE, rfl, hcE, hLE⟩ := hN.out.slice
    rw [hlE]
    have HLE := Lib.hid (fun W (k : Keep w9 W) j (hj : j < ([] : List Int).length + 1) => (hLE.keep k).at_ (i := j) (by rw [hlE]; exact hj))
    obtain ⟨m, hm9⟩ : ∃ m, ([] : List Int).length + 1 = m := ⟨_, rfl⟩
    have hm8 : m ≤ 8 := by omega
    have hm1 : 1 ≤ m := by omega
    have hjm : ∀ k, k < m → k ≤ ([] : List Int).length := fun k hk => by omega
    have HJM := Lib.hid hjm
    have K9 := KF.trans (k4.trans HK2.out)
    have KW : Keep w3 w9 := k4.trans HK2.out
    have HMB := HBd.out ([] : List Int).length (Nat.le_refl _)
    have HLAST : Hid (∀ k, k + 1 = m → D k = D ([] : List Int).length) := Lib.hid (fun k hk => by rw [show k = ([] : List Int).length by omega])
    rw [hm9] at HLE HO ⊢
    generalize hM9 : D ([] : List Int).length = M at *
    clear hM9 hm9 hjm hLE hlE hcE hN HEl HE9
    go_wp2_with fail
    go_loopw [11, 12] (fun la t wr => ∃ (tt : Nat) (l : Int), tt ≤ 2 ∧ t = .int .i64 tt ∧ la = .int .i64 l ∧ Hid (tt ≠ 0 → l = M) ∧ Keep w9 wr) (fun _ t _ => 2 - (intOf t).toNat)
    case atStart => exact ⟨0, 0, by omega, rfl, rfl, Lib.hid (fun h9 => absurd rfl h9), Keep.refl _⟩
    case round =>
      obtain ⟨tt, lo, ht, rfl, rfl, HLO, hKt⟩ := hrel
      by_cases ht2 : tt < 2
      · go_wp2_with fail
        go_loopw [10, 11, 13] (fun f la i wr => ∃ (k : Nat) (l : Int), k ≤ m ∧ i = .int .i64 k ∧ f = .int .i64 ((pQ zs ([] : List Int) k : Nat) : Int) ∧ la = .int .i64 l ∧ Hid ((tt = 0 → 0 < k → l = D (k - 1)) ∧ (tt ≠ 0 → l = M)) ∧ Keep w9 wr) (fun _ _ i _ => m - (intOf i).toNat)
        case atStart => exact ⟨0, lo, by omega, rfl, by rw [HZ0.out]; rfl, rfl, Lib.hid ⟨fun _ h9 => absurd h9 (by omega), HLO.out⟩, hKt⟩
        case round =>
          obtain ⟨k, l, hk, rfl, rfl, rfl, HLI, hKr⟩ := hrel
          by_cases hlt : k < m
          · have hkl := HJM.out k hlt
            obtain ⟨bE, oE, hbE, _, cE0⟩ := HLE.out wr hKr k hlt
            (first | subst hbE | (injection hbE with hbE; injection hbE with hbE1 hbE2 _; subst hbE1; subst hbE2))
            rw [HE.out k hkl] at cE0
            obtain ⟨p1, p2, _, p4, p5⟩ := HP.out k hkl
            have H4 := Lib.hid p4
            rw [p5]
            have HM := Lib.hid (HMo.out k hkl)
            obtain ⟨b1, b2⟩ := HBd.out k hkl
            obtain ⟨bO, oO, hbO, _, cO0⟩ := HO.out wr (KW.trans hKr) k hlt
            (first | subst hbO | (injection hbO with hbO; injection hbO with hbO1 hbO2 _; subst hbO1; subst hbO2))
            rw [HAt.out k hkl] at cO0
            have HDk : Hid (D (k + 1 - 1) = D k) := Lib.hid rfl
            clear p4 p5
            generalize hps : pS ([] : List Int) k = ps at *
            generalize hpe : pE zs ([] : List Int) k = pe at *
            clear hps hpe
            have kz : (k : Int) < (m : Int) := by omega
            have k0 : (0 : Int) ≤ (k : Int) := by omega
            have kz1 : (k : Int) < 1 := by simp at hkl; omega
            have kz2 : k < 1 := by simp at hkl; omega
            have q1 : (0 : Int) ≤ (ps : Int) := by omega
            have q2 : (ps : Int) ≤ (pe : Int) := by omega
            have q3 : (pe : Int) ≤ (ca : Int) := by omega
            have qc : ¬ ca = ps := by omega
            generalize D k = x at *
            go_wp2_with fail
            refine (HM.out _ _ (KW.trans hKr)).mono ?_
            rintro e w10 ⟨rfl, k10⟩
            have cE1 := k10.cell cE0
            have cO1 := k10.cell cO0
            have hK10 := hKr.trans k10
            rcases (show tt = 0 ∨ tt = 1 by omega) with rfl | rfl
            · go_wp2
              refine ⟨?_, ?measure⟩
              (repeat apply Exists.intro)
              refine ⟨?rel, rfl⟩
              case rel => exact ⟨k + 1, x, by omega, by go_num, by rw [H4.out], rfl, Lib.hid ⟨fun _ _ => HDk.out.symm, fun h9 => absurd rfl h9⟩, hK10⟩
              case measure => simp [intOf]; omega
            · have hlM := HLI.out.2 (by omega)
              rw [hlM]
              obtain ⟨y, hy⟩ : ∃ y, M - x = y := ⟨_, rfl⟩
              rw [hy] at cO1
              have exy : x + y = M := by omega
              have ewr : IntKind.i64.wrap M = M := IntWalk.i64_in _ ⟨by omega, by omega⟩
              clear hy
              go_wp2
              refine ⟨?_, ?measure⟩
              (repeat apply Exists.intro)
              refine ⟨?rel, rfl⟩
              case rel => exact ⟨k + 1, M, by omega, by go_num, by rw [H4.out], rfl, Lib.hid ⟨(fun h9 => by cases h9), fun _ => rfl⟩, hK10⟩
              case measure => simp [intOf]; omega
          · have hkm : k + 1 = m + 1 := by omega
            have HLs := HLAST.out (m - 1) (by omega)
            have hne : ¬ m = 0 := by omega
            obtain rfl : k = m := by omega
            go_wp2
            go_roundw
            case rel => exact ⟨tt + 1, l, by omega, by go_num, rfl, Lib.hid (fun _ => by
              rcases (show tt = 0 ∨ tt = 1 by omega) with rfl | rfl
              · rw [HLI.out.1 rfl (by omega), HLs]
              · exact HLI.out.2 (by omega)), hKr⟩
            case measure => simp [intOf]; omega
      · go_wp2
        go_ret
        exact ⟨rfl, K9.trans hKt⟩

end Go.Proofs.Ytehjjoalnfpgdaa
