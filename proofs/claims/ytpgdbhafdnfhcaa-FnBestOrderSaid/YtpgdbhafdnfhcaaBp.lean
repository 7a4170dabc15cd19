/- CutsBest of the model: all cuts are tried, by the digits of a number. -/
import Derived.Test.YtpgdbhafdnfhcaaBm
import Derived.LoopTactic
import Derived.IntWalk
import Derived.Deep.QuietTactic
import Derived.BigQuiet
namespace Go.Proofs.Ytpgdbhafdnfhcaa
open Go.RowKit
set_option linter.unusedVariables false

def lsB (xs ys : List Int) : Bool := decide (xs.length < ys.length) || (decide (xs.length = ys.length) && lx xs ys)
theorem lsB_ne {xs ys : List Int} (h : xs.length ≠ ys.length) : lsB xs ys = decide (xs.length < ys.length) := by simp [lsB, h]
theorem lsB_eq {xs ys : List Int} (h : xs.length = ys.length) : lsB xs ys = lx xs ys := by simp [lsB, h]
theorem lx_drop {xs ys : List Int} {k : Nat} (h1 : k < xs.length) (h2 : k < ys.length) : lx (xs.drop k) (ys.drop k) = if xs.getD k 0 = ys.getD k 0 then lx (xs.drop (k + 1)) (ys.drop (k + 1)) else decide (xs.getD k 0 < ys.getD k 0) := by
  rw [List.drop_eq_getElem_cons h1, List.drop_eq_getElem_cons h2, lx]
  simp [List.getD_eq_getElem?_getD, h1, h2]
theorem lsC_lsB {v c : Int} {xs ys : List Int} : lsC (v, xs) (c, ys) ↔ v < c ∨ (v = c ∧ lsB xs ys = true) := by
  unfold lsC lsB
  simp only [Bool.or_eq_true, Bool.and_eq_true, decide_eq_true_eq]
set_option maxRecDepth 100000 in
set_option maxHeartbeats 2000000 in
theorem lle_spec (a b : Option Addr) (ca cb : Nat) (xs ys : List Int) (w : World) (h1 : Ls w a xs) (h2 : Ls w b ys) (hm : xs.length ≤ 1048576) (hm2 : ys.length ≤ 1048576) :
    Calls Try.prog 80 #[.slice a xs.length ca, .slice b ys.length cb] w fun e w' => e = .returned (.bool (lsB xs ys)) ∧ Keep w w' := by
  by_cases hl : xs.length = ys.length
  case' neg =>
    have HE : Hid (decide ((xs.length : Int) < (ys.length : Int)) = lsB xs ys) := Lib.hid (by rw [lsB_ne hl, Bool.eq_iff_iff]; simp)
    have d : ((xs.length : Int) != (ys.length : Int)) = true := by simp; omega
    go_enter Try.func80, Try.ntmps80
    go_wp2
    go_ret
    exact ⟨retB (by first | exact HE.out | (rw [← HE.out]; simp)), Keep.refl _⟩
  have HE := Lib.hid (lsB_eq hl)
  obtain ⟨n, hn⟩ : ∃ n, xs.length = n := ⟨_, rfl⟩
  have hn2 : ys.length = n := by omega
  have HX := Lib.hid hn
  have HY := Lib.hid hn2
  have HA := Lib.hid (fun W (k : Keep w W) i (hi : i < n) => (h1.keep k).at_ (i := i) (by omega))
  have HB := Lib.hid (fun W (k : Keep w W) i (hi : i < n) => (h2.keep k).at_ (i := i) (by omega))
  rw [hn, hn2]
  rw [hn] at hm
  clear hl hn hn2 h1 h2 hm2
  go_enter Try.func80, Try.ntmps80
  go_wp2_with fail
  go_loopw [5] (fun i wr => ∃ k : Nat, k ≤ n ∧ i = .int .i64 (k : Int) ∧ Hid (lx xs ys = lx (xs.drop k) (ys.drop k)) ∧ Keep w wr) (fun i _ => n - (intOf i).toNat)
  case atStart => exact ⟨0, by omega, rfl, Lib.hid (by simp), Keep.refl w⟩
  case round =>
    obtain ⟨k, hk, rfl, HL, hK⟩ := hrel
    by_cases hlt : k < n
    · obtain ⟨b1, o1, rfl, -, c1⟩ := HA.out wr hK k hlt
      obtain ⟨b2, o2, rfl, -, c2⟩ := HB.out wr hK k hlt
      have HD := Lib.hid (lx_drop (xs := xs) (ys := ys) (k := k) (by rw [HX.out]; exact hlt) (by rw [HY.out]; exact hlt))
      have k0 : (0 : Int) ≤ (k : Int) := by omega
      have k1 : (k : Int) < (n : Int) := by omega
      generalize xs.getD k 0 = x at c1 HD
      generalize ys.getD k 0 = y at c2 HD
      by_cases hxy : x = y
      · subst hxy
        have d : (x != x) = false := by simp
        have HD2 : Hid (lx xs ys = lx (xs.drop (k + 1)) (ys.drop (k + 1))) := Lib.hid (by rw [HL.out, HD.out, if_pos rfl])
        clear HD
        go_wp2_with fail
        go_quiet (fail)
        go_wp2
        go_roundw
        case rel => exact ⟨k + 1, by omega, by go_num, HD2, hK.drewN _⟩
        case measure => simp [intOf]; omega
      · have d : (x != y) = true := bne_iff_ne.2 hxy
        have HD2 : Hid (decide (x < y) = lsB xs ys) := Lib.hid (by rw [HE.out, HL.out, HD.out, if_neg hxy])
        clear HD
        go_wp2_with fail
        go_quiet (fail)
        go_wp2_with fail
        go_quiet (fail)
        go_wp2
        go_ret
        exact ⟨retB HD2.out, by first | exact hK.drewN _ | exact (hK.drewN _).drewN _⟩
    · obtain rfl : k = n := by omega
      have HF : Hid (false = lsB xs ys) := Lib.hid (by
        rw [HE.out, HL.out, List.drop_of_length_le (by rw [HX.out]; omega), List.drop_of_length_le (by rw [HY.out]; omega)]; rfl)
      go_wp2
      go_ret
      exact ⟨retB HF.out, hK⟩
set_option maxRecDepth 100000 in
set_option maxHeartbeats 2000000 in
theorem lcu_spec (kk n : Nat) (w : World) (hn : 1 ≤ n) (hn8 : n ≤ 8) (hk : kk ≤ 1000) :
    Calls Try.prog 79 #[.int .i64 (kk : Int), .int .i64 (n : Int)] w (NwL (bl kk (n - 1) 1) w) := by
  obtain ⟨i0, hi0, hz0, hz1, hz2⟩ := info_parts infoIntO
  have HOf := Lib.hid (OwI.made w)
  go_enter Try.func79, Try.ntmps79
  go_wp2_with fail
  go_loopw [0, 5, 6] (fun nn u i wr => ∃ (m q : Nat) (L : List Int) (x c : Nat), 1 ≤ q ∧ q ≤ n ∧ m ≤ 1000 ∧ nn = .int .i64 (m : Int) ∧ i = .int .i64 (q : Int) ∧ u = .slice (some ⟨x, 0, none⟩) L.length c ∧ Hid (bl kk (n - 1) 1 = L ++ bl m (n - q) q) ∧ L.length + 1 ≤ q ∧ Hid (OwI wr w.heap.size (.slice (some ⟨x, 0, none⟩) L.length c) L) ∧ Keep w wr) (fun _ _ i _ => n - (intOf i).toNat)
  case atStart => exact ⟨kk, 1, [], w.heap.size, 0, by omega, by omega, hk, rfl, rfl, rfl, Lib.hid rfl, by simp, HOf, (Keep.refl w).alloc _⟩
  case round =>
    obtain ⟨m, q, L, x, c, hq1, hq, hm, rfl, rfl, rfl, HB, hL, HW, hK⟩ := hrel
    have hsz := hK.size
    by_cases hlt : q < n
    · have HB1 : Hid (bl m (n - q) q = (if m % 2 = 1 then [(q : Int)] else []) ++ bl (m / 2) (n - (q + 1)) (q + 1)) := Lib.hid (by
        rw [show n - q = (n - (q + 1)) + 1 by omega, bl])
      have htd : Int.tdiv (m : Int) 2 = ((m / 2 : Nat) : Int) := (Int.ofNat_tdiv m 2).symm
      obtain ⟨m2, hm2⟩ : ∃ m2, m / 2 = m2 := ⟨_, rfl⟩
      have hm2b : m2 ≤ 1000 := by omega
      rw [hm2] at htd HB1
      clear hm2 HOf
      obtain ⟨l, hl⟩ : ∃ l, L.length = l := ⟨_, rfl⟩
      have HLL := Lib.hid hl
      rw [hl] at hL
      by_cases h2 : m % 2 = 1
      · have htm : Int.tmod (m : Int) 2 = 1 := by have h9 := Int.ofNat_tmod m 2; rw [h2] at h9; exact h9.symm
        have HB2 : Hid (bl kk (n - 1) 1 = (L ++ [(q : Int)]) ++ bl m2 (n - (q + 1)) (q + 1)) := Lib.hid (by rw [HB.out, HB1.out, if_pos h2, List.append_assoc])
        clear HB1 HB h2
        have hown : wr.ownsRow w.heap.size 3 1 (.slice (some ⟨x, 0, none⟩) l c) l (L.map (Value.int .i64)) := by rw [← hl]; exact HW.out
        rw [hl]
        clear hl HW
        go_wp2_with (at_builtin; refine wpList_append_own _ rfl _ _ 43 rfl w.heap.size 3 i0 (.int .i64 0) 1 8 Try.underlying43 hi0 hz0 hz1 hz2 rfl (by decide) _ _ _ rfl (hown.alloc _) ⟨wr.heap.size, 0, none⟩ 1 1 [.int .i64 (q : Int)] rfl rfl ?c1a ?c2a ?c3a ?c4a ?c5a ?_)
        try case c1a =>
          intro j u hj
          match j, hj with
          | 0, hj => simp at hj; subst hj; simp [Addr.add]
        case c2a => first | rfl | (intro u hu; simp at hu; subst hu; rfl)
        case c3a => unfold maxLen; omega
        case c4a => omega
        case c5a => first | omega | (simp; omega)
        intro v' w9 hown' hgrow hnil
        have HK2 : Hid (Keep w w9) := Lib.hid (Below.grown (hK.alloc (.cells #[.int .i64 (q : Int)] 3)) hgrow (hK.alloc (.cells #[.int .i64 (q : Int)] 3)).size (fun r hr => (hown.lt r hr).1))
        obtain ⟨g', c', rfl, hbg, hlg⟩ := hown'.form (by omega)
        have HN : Hid (OwI w9 w.heap.size (.slice (some ⟨g', 0, none⟩) (L ++ [(q : Int)]).length c') (L ++ [(q : Int)])) := Lib.hid (by unfold OwI; rw [List.length_append, List.length_singleton, HLL.out]; simpa using hown')
        clear hown' hgrow hnil hown
        go_wp2
        go_roundw
        case rel => exact ⟨m2, q + 1, L ++ [(q : Int)], g', c', by omega, by omega, hm2b, by go_num, by go_num, by rw [List.length_append, List.length_singleton, HLL.out], HB2, by rw [List.length_append, List.length_singleton, HLL.out]; omega, HN, HK2.out⟩
        case measure => simp [intOf]; omega
      · have htm : Int.tmod (m : Int) 2 = 0 := by have h9 := Int.ofNat_tmod m 2; rw [show m % 2 = 0 by omega] at h9; exact h9.symm
        have HB2 : Hid (bl kk (n - 1) 1 = L ++ bl m2 (n - (q + 1)) (q + 1)) := Lib.hid (by rw [HB.out, HB1.out, if_neg h2, List.nil_append])
        clear HB1 HB h2
        rw [hl]
        rw [hl] at HW
        clear hl
        go_wp2
        go_roundw
        case rel => exact ⟨m2, q + 1, L, x, c, by omega, by omega, hm2b, by go_num, by go_num, by rw [HLL.out], HB2, by rw [HLL.out]; omega, by rw [HLL.out]; exact HW, hK⟩
        case measure => simp [intOf]; omega
    · obtain rfl : q = n := by omega
      have HR : Hid (bl kk (q - 1) 1 = L) := Lib.hid (by rw [HB.out, Nat.sub_self, bl, List.append_nil])
      go_wp2
      go_ret
      have h9 := HW.out
      rw [HR.out]
      exact nwl_own h9 (Nat.le_refl _) hK
set_option maxRecDepth 100000 in
set_option maxHeartbeats 8000000 in
theorem cb_spec (a : Option Addr) (cap : Nat) (zs : List Int) (pr : Int) (w : World) (h : Ls w a zs) (hm : zs.length ≤ 1048576) (hca : zs.length ≤ cap) :
    Calls Try.prog 32 #[.slice a zs.length cap, .int .i64 pr] w (NwB (cbL zs pr) (cbOk zs pr) w) := by
  have HS := Lib.hid (fun W (k : Keep w W) => shv_spec a cap zs W (h.keep k) hm)
  have HI := Lib.hid (fun W => l6In_any pr 0 9999 W)
  rcases Bool.eq_false_or_eq_true (shB zs) with q1 | q1
  case' inr =>
    have hb : cbOk zs pr = false := by rw [cbOk, q1]; rfl
    have H := Lib.hid (fun W (k : Keep w W) a c => nwb_no (b := cbOk zs pr) (cbL_no hb) hb a c k)
    rw [q1] at HS
    clear q1 hb
    go_enter Try.func32, Try.ntmps32
    go_wp2_with (go_at_call 75; refine (HS.out _ ((Keep.refl w).alloc _)).mono ?_; rintro e w1 ⟨rfl, rfl⟩)
    go_ret2
    exact H.out _ ((Keep.refl w).alloc _) _ _
  rcases Bool.eq_false_or_eq_true (inB pr 0 9999) with q3 | q3
  case' inr =>
    have hb : cbOk zs pr = false := by rw [cbOk, q1, q3]; rfl
    have H := Lib.hid (fun W (k : Keep w W) a c => nwb_no (b := cbOk zs pr) (cbL_no hb) hb a c k)
    rw [q1] at HS
    rw [q3] at HI
    clear q1 q3 hb
    go_enter Try.func32, Try.ntmps32
    go_wp2_with (first | (go_at_call 75; refine (HS.out _ ((Keep.refl w).alloc _)).mono ?_; rintro e w1 ⟨rfl, rfl⟩) | (go_at_call 50; refine (HI.out _).mono ?_; rintro e w1 ⟨rfl, rfl⟩))
    go_ret2
    exact H.out _ ((Keep.refl w).alloc _) _ _
  have hb : cbOk zs pr = true := by rw [cbOk, q1, q3]; rfl
  obtain ⟨_, ⟨l1, l8⟩, _, _⟩ := cbOk_facts hb
  have HVC : Hid (∀ cs, Vc zs.length 0 cs → ccB zs cs pr = true) := Lib.hid (fun cs hv => cc_yes q1 ((vc_ct ⟨l1, l8⟩).1 hv) q3)
  have HCO : Hid (∀ cs, Vc zs.length 0 cs → ∀ x c W, Keep w W → Ls W x cs → Calls Try.prog 77 #[.slice a zs.length cap, .slice x cs.length c, .int .i64 pr] W fun e w' => e = .returned (.int .i64 (cT (bF zs) zs.length pr 0 cs)) ∧ Keep W w') := Lib.hid (fun cs hv x c W k hx => by
    have h1 := lc_spec a x cap c zs cs pr W (h.keep k) hx hca (HVC.out cs hv)
    rw [← cT_ccV (HVC.out cs hv)] at h1
    exact h1)
  have HO : Hid (∀ b, Bsn (bF zs) zs.length pr (2 ^ (zs.length - 1)) b → b.2 = cbL zs pr) := Lib.hid (fun b hbs => by rw [cbL_yes hb, best_one l1 hbs]; rfl)
  have HB := Lib.hid hb
  rw [q1] at HS
  rw [q3] at HI
  obtain ⟨M, hM⟩ : ∃ M, 2 ^ (zs.length - 1) = M := ⟨_, rfl⟩
  have hM1 : 1 ≤ M := by rw [← hM]; exact Nat.pow_pos (by omega)
  have hM8 : M ≤ 128 := by rw [← hM]; exact Nat.pow_le_pow_right (n := 2) (j := 7) (by omega) (by omega)
  rw [hM] at HO
  have HM := Lib.hid hM
  clear q1 q3 hb h hM HVC
  have HBV : Hid (∀ k, Vc zs.length 0 (bl k (zs.length - 1) 1)) := Lib.hid (fun k => bl_vc l1 k)
  have HNIL : Hid (Vc zs.length 0 []) := Lib.hid ⟨List.Pairwise.nil, fun x hx => by cases hx⟩
  have HCN := Lib.hid (fun c W (k : Keep w W) (x : Option Addr) => HCO.out [] HNIL.out x c W k (.inl rfl))
  have HCU := Lib.hid (fun (k : Nat) (hk : k ≤ 1000) W => lcu_spec k zs.length W l1 l8 hk)
  have HB1 := Lib.hid (bsn_one (bF zs) zs.length pr)
  have HB2 := Lib.hid (fun (k : Nat) (b : Int × List Int) (hb : Bsn (bF zs) zs.length pr k b) => bsn_yes l1 hb)
  obtain ⟨n, hn⟩ : ∃ n, n = zs.length := ⟨_, rfl⟩
  have HN := Lib.hid hn
  rw [← hn] at HS l1 l8 hca HCU HCO HCN HBV HB1 HB2 HO HM hm ⊢
  clear hn
  go_enter Try.func32, Try.ntmps32
  go_wp2_with fail
  refine (HS.out _ ((Keep.refl w).alloc _)).mono ?_
  rintro e w1 ⟨rfl, rfl⟩
  go_wp2_with fail
  refine (HI.out _).mono ?_
  rintro e w1 ⟨rfl, rfl⟩
  go_wp2_with fail
  refine (HCN.out _ _ ((Keep.refl w).alloc _) _).mono ?_
  rintro e w1 ⟨rfl, k1⟩
  have K1 : Keep w w1 := ((Keep.refl w).alloc _).trans k1
  rw [show cT (bF zs) n pr 0 [] = bF zs 0 n from rfl]
  clear k1 HCN HS HI
  go_wp2_with fail
  go_loop [8, 9] (fun al i => ∃ q m : Nat, 1 ≤ q ∧ q ≤ n ∧ i = .int .i64 (q : Int) ∧ al = .int .i64 (m : Int) ∧ Hid (m = 2 ^ (q - 1)) ∧ m ≤ 128) (fun _ i => n - (intOf i).toNat)
  case atStart => exact ⟨1, 1, by omega, by omega, rfl, rfl, Lib.hid rfl, by omega⟩
  case round =>
    obtain ⟨q, m, hq1, hq, rfl, rfl, HP, hm8⟩ := hrel
    by_cases hlt : q < n
    · have HP2 : Hid (2 * m = 2 ^ (q + 1 - 1)) := Lib.hid (by rw [HP.out, show q + 1 - 1 = (q - 1) + 1 by omega, Nat.pow_succ]; omega)
      have hb2 : 2 * m ≤ 128 := by rw [HP2.out]; exact Nat.pow_le_pow_right (n := 2) (j := 7) (by omega) (by omega)
      clear HP
      go_wp2
      go_round
      case rel => exact ⟨q + 1, 2 * m, by omega, by omega, by go_num, by go_num, HP2, hb2⟩
      case measure => simp [intOf]; omega
    · obtain rfl : q = n := by omega
      obtain rfl : m = M := by rw [HP.out, HM.out]
      clear HP
      go_wp2_with fail
      go_loopw [6, 7, 10] (fun u co i wr => ∃ (k : Nat) (bc : Int) (L : List Int) (x : Option Addr) (c : Nat), 1 ≤ k ∧ k ≤ m ∧ i = .int .i64 (k : Int) ∧ co = .int .i64 bc ∧ u = .slice x L.length c ∧ L.length ≤ c ∧ L.length ≤ 8 ∧ Hid (Bsn (bF zs) q pr k (bc, L)) ∧ Hid (Fresh w wr x L) ∧ Keep w wr) (fun _ _ i _ => m - (intOf i).toNat)
      case atStart => exact ⟨1, bF zs 0 q, [], _, _, by omega, by omega, rfl, rfl, rfl, by simp, by simp, HB1, Lib.hid (.inl rfl), K1⟩
      case round =>
        obtain ⟨k, bc, L, x, c, hk1, hk, rfl, rfl, rfl, hLc, hL8, HBs, HF, hK⟩ := hrel
        clear hm8
        by_cases hlt : k < m
        · have hsz := hK.size
          go_wp2_with fail
          refine (HCU.out k (by omega) _).mono ?_
          rintro e w2 ⟨x2, c2, rfl, hc2, hF2, k2⟩
          have hv := HBV.out k
          have HCk := Lib.hid (fun c W (kk : Keep w W) (x : Option Addr) (hx : Ls W x (bl k (q - 1) 1)) => HCO.out _ hv x c W kk hx)
          have HY := Lib.hid (fun hl => HB2.out k (bc, L) HBs.out hl)
          have HNO := Lib.hid (fun hl => bsn_no HBs.out hl)
          have hl8 := vc_len (by omega) hv
          have HF2 : Hid (Fresh w w2 x2 (bl k (q - 1) 1)) := Lib.hid (by
            rcases hF2 with h9 | ⟨g, e1, e2, e3, e4⟩
            · exact .inl h9
            · exact .inr ⟨g, e1, Nat.le_trans hsz e2, e3, e4⟩)
          clear hv hF2
          generalize bl k (q - 1) 1 = C at *
          go_wp2_with fail
          refine (HCk.out _ _ (hK.trans k2) _ HF2.out.ls).mono ?_
          rintro e w3 ⟨rfl, k3⟩
          have HF3 := Lib.hid (HF2.out.keep k3)
          have HL3 := Lib.hid ((HF.out.keep k2).keep k3)
          have K3 := (hK.trans k2).trans k3
          have HLE := Lib.hid (fun W (kk : Keep w3 W) => lle_spec x2 x c2 c C L W (HF3.out.ls.keep kk) (HL3.out.ls.keep kk) (by omega) (by omega))
          generalize cT (bF zs) q pr 0 C = v at *
          have HYN : Hid (lsC (v, C) (bc, L) ↔ v < bc ∨ (v = bc ∧ lsB C L = true)) := Lib.hid lsC_lsB
          clear HF2 HF HCk
          by_cases h1 : v < bc
          · have HN2 := Lib.hid (HY.out (HYN.out.2 (.inl h1)))
            clear HY HNO HYN
            go_wp2
            go_roundw
            case rel => exact ⟨k + 1, v, C, x2, c2, by omega, by omega, by go_num, rfl, rfl, hc2, by omega, HN2, HF3, K3⟩
            case measure => simp [intOf]; omega
          · by_cases h2 : v = bc
            · subst h2
              rcases Bool.eq_false_or_eq_true (lsB C L) with h3 | h3
              · have HN2 := Lib.hid (HY.out (HYN.out.2 (.inr ⟨rfl, h3⟩)))
                rw [h3] at HLE
                clear HY HNO HYN h3
                go_wp2_with fail
                refine (HLE.out _ (Keep.refl _)).mono ?_
                rintro e w4 ⟨rfl, k4⟩
                have HF4 := Lib.hid (HF3.out.keep k4)
                have K4 := K3.trans k4
                go_wp2
                go_roundw
                case rel => exact ⟨k + 1, v, C, x2, c2, by omega, by omega, by go_num, rfl, rfl, hc2, by omega, HN2, HF4, K4⟩
                case measure => simp [intOf]; omega
              · have HN2 := Lib.hid (HNO.out (fun h => by
                  rcases HYN.out.1 h with h9 | ⟨_, h9⟩
                  · omega
                  · rw [h3] at h9; cases h9))
                rw [h3] at HLE
                clear HY HNO HYN h3
                go_wp2_with fail
                refine (HLE.out _ (Keep.refl _)).mono ?_
                rintro e w4 ⟨rfl, k4⟩
                have HF4 := Lib.hid (HL3.out.keep k4)
                have K4 := K3.trans k4
                go_wp2
                go_roundw
                case rel => exact ⟨k + 1, v, L, x, c, by omega, by omega, by go_num, rfl, rfl, hLc, hL8, HN2, HF4, K4⟩
                case measure => simp [intOf]; omega
            · have HN2 := Lib.hid (HNO.out (fun h => by
                rcases HYN.out.1 h with h9 | ⟨h9, _⟩
                · exact h1 h9
                · exact h2 h9))
              have d2 : (v == bc) = false := beq_eq_false_iff_ne.2 h2
              clear HY HNO HYN
              go_wp2
              go_roundw
              case rel => exact ⟨k + 1, bc, L, x, c, by omega, by omega, by go_num, rfl, rfl, hLc, hL8, HN2, HL3, K3⟩
              case measure => simp [intOf]; omega
        · obtain rfl : k = m := by omega
          have HR := Lib.hid (HO.out _ HBs.out)
          go_wp2
          go_ret2
          rw [HB.out]
          have h9 : L = cbL zs pr := HR.out
          have h8 := HF.out
          subst h9
          exact ⟨x, c, rfl, hLc, h8, hK⟩
end Go.Proofs.Ytpgdbhafdnfhcaa
