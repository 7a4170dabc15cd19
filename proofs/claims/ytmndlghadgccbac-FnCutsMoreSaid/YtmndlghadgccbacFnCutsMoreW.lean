/- P75: one cut more costs at most its price more. -/
import Derived.Test.YtmndlghadgccbacDrCu
import Derived.Test.YtmndlghadgccbacKd
import Derived.Test.YtmndlghadgccbacKx
import Derived.Test.YtmndlghadgccbacHi
import Derived.Test.YtmndlghadgccbacFr
namespace Go.Proofs.Ytmndlghadgccbac
open Go.RowKit
set_option linter.unusedVariables false

set_option maxRecDepth 100000 in
set_option maxHeartbeats 6400000 in
theorem walk_FnCutsMore (a0 : Option Addr) (len0 cap0 : Nat) (z0 : List Int) (a1 : Option Addr) (len1 cap1 : Nat) (z1 : List Int) (w : World) (w0 : IsRow .u8 w a0 len0 cap0 z0) (w1 : IsRow .u8 w a1 len1 cap1 z1) :
    Calls Try.prog 6 #[.slice a0 len0 cap0, .slice a1 len1 cap1] w fun e w' => e = .returned (.bool true) ∧ Below w.heap.size w w' := by
  have ha := code_of_row w0
  obtain ⟨hl0, hm0⟩ := ha.1
  unfold maxLen at hm0
  clear w0
  have ha1 := code_of_row w1
  obtain ⟨hl1', hm1'⟩ := ha1.1
  unfold maxLen at hm1'
  clear w1 ha1
  by_cases h : len0 ≤ 1048576
  case' neg =>
    have hd : decide (1048576 < (len0 : Int)) = true := by simp; omega
    go_enter Try.func6, Try.ntmps6
    go_wp2
    go_ret
    exact ⟨rfl, Below.refl _ _⟩
  have hd : decide (1048576 < (len0 : Int)) = false := by simp; omega
  by_cases h1 : len1 ≤ 1048576
  case' neg =>
    have hd1 : decide (1048576 < (len1 : Int)) = true := by simp; omega
    go_enter Try.func6, Try.ntmps6
    go_wp2
    go_ret
    exact ⟨rfl, Below.refl _ _⟩
  have hd1 : decide (1048576 < (len1 : Int)) = false := by simp; omega
  obtain ⟨i0, hi, hz0, hz1, hz2⟩ := info_parts infoInt'
  go_enter Try.func6, Try.ntmps6
  go_wp2_with fail
  refine (drawCutsCost a0 len0 cap0 _ ha).mono ?_
  rintro e w1 ⟨a, b0, ca, cb, zs, cs, price, rfl, ⟨hl11, hca⟩, ⟨hl13, hcb⟩, hL1, hC1, ⟨hx0, hx1⟩, k1⟩
  clear ha
  go_wp2_with fail
  refine (cc_impl a b0 ca cb zs cs price _ hL1 hC1 hca (by omega) (by omega)).mono ?_
  rintro e w2 ⟨rfl, k2⟩
  go_wp2_with fail
  refine (cc_spec a b0 ca cb zs cs price _ (hL1.keep k2) (hC1.keep k2) hca (by omega) (by omega)).mono ?_
  rintro e w3 ⟨rfl, k3⟩
  have K3 : Keep w w3 := (k1.trans k2).trans k3
  have hL := (hL1.keep k2).keep k3
  have hC := (hC1.keep k2).keep k3
  clear hL1 hC1 k1 k2 k3
  rcases Bool.eq_false_or_eq_true (ccB zs cs price) with hs | hs
  case' inr =>
    rw [ccV_no hs]
    clear hs
    go_wp2
    go_ret
    exact ⟨rfl, K3⟩
  obtain ⟨l1, l8, hlc, pr0, pr1⟩ := cc_len hs
  have hb8 : 0 ≤ ccV zs cs price ∧ ccV zs cs price ≤ 2000000 := by
    obtain ⟨p, v, _, _, e4, _, v0, v1⟩ := cc_last hs
    have h1 := ccN_bd hs _ (Nat.le_refl _)
    have h2 : price * (cs.length : Int) ≤ 9999 * (cs.length : Int) := Int.mul_le_mul_of_nonneg_right pr1 (by omega)
    have h3 := Int.mul_nonneg pr0 (show 0 ≤ (cs.length : Int) by omega)
    rw [e4]; omega
  have hdv : decide (ccV zs cs price < 0) = false := decide_eq_false (by omega)
  obtain ⟨K, hKd⟩ : ∃ K : Nat, K = 1 + len1 % zs.length := ⟨_, rfl⟩
  have hK1 : 1 ≤ K ∧ K ≤ zs.length := by have := Nat.mod_lt len1 (show 0 < zs.length by omega); omega
  have hmod : Int.tmod (len1 : Int) (zs.length : Int) = (K : Int) - 1 := by
    have h9 := Int.ofNat_tmod len1 zs.length
    omega
  have hne : ((zs.length : Int) == 0) = false := beq_eq_false_iff_ne.2 (by omega)
  have hne2 : ¬ (zs.length : Int) = 0 := by omega
  have hsum : (1 : Int) + ((K : Int) - 1) = (K : Int) := by omega
  have HMo : Hid ((K : Int) < zs.length → (K : Int) ∉ cs → ccB zs (flt cs K zs.length) price = true ∧ 0 ≤ ccV zs (flt cs K zs.length) price ∧ ccV zs (flt cs K zs.length) price ≤ ccV zs cs price + price) := Lib.hid (fun h1 h2 => cc_more hs (by omega) h1 h2)
  clear hs hKd
  generalize ccV zs cs price = tot at *
  by_cases hKn : K = zs.length
  · have d : ((K : Int) == (zs.length : Int)) = true := beq_iff_eq.2 (by omega)
    replace hKn := Lib.hid hKn
    go_wp2
    go_ret
    exact ⟨rfl, K3⟩
  have d : ((K : Int) == (zs.length : Int)) = false := beq_eq_false_iff_ne.2 (by omega)
  have HI := Lib.hid (fun (x : Int) W (k : Keep w3 W) => hasI_any b0 cb cs x W (hC.keep k) (by omega))
  have HI0 := Lib.hid (HI.out K w3 (Keep.refl _))
  by_cases hKm : (K : Int) ∈ cs
  · rw [decide_eq_true hKm] at HI0
    clear hKm
    go_wp2_with fail
    refine HI0.out.mono ?_
    rintro e w4 ⟨rfl, rfl⟩
    go_wp2
    go_ret
    exact ⟨rfl, K3⟩
  obtain ⟨cv1, cv2, cv3⟩ := HMo.out (by omega) hKm
  rw [decide_eq_false hKm] at HI0
  have HZ := Lib.hid (fun W (k : Keep w3 W) b c (hb : Ls W b (flt cs K zs.length)) => cc_impl a b ca c zs (flt cs K zs.length) price W (hL.keep k) hb hca (by omega) (by have := flt_len cs K zs.length; omega))
  have hdn : decide (0 ≤ ccV zs (flt cs K zs.length) price) = true := decide_eq_true cv2
  have hdm : decide (ccV zs (flt cs K zs.length) price ≤ tot + price) = true := decide_eq_true cv3
  have hdn2 : ¬ (ccV zs (flt cs K zs.length) price < 0) := by omega
  clear hKm HMo cv1
  go_wp2_with fail
  refine HI0.out.mono ?_
  rintro e w4 ⟨rfl, rfl⟩
  have HO0 : Hid (OwnI (w3.alloc (.cells #[] 3)) w3.heap.size (.slice (some ⟨w3.heap.size, 0, none⟩) 0 0) (flt cs K 1)) := Lib.hid (by rw [flt_one]; exact World.ownsRow_made w3 #[] 0 (Nat.le_refl _) (by unfold maxLen; omega) rfl)
  generalize ccV zs (flt cs K zs.length) price = n at *
  clear HI0 hmod hne hne2 hsum
  go_wp2_with fail
  go_loopw [11, 12] (fun v i wr => ∃ k : Nat, i = .int .i64 k ∧ 1 ≤ k ∧ k ≤ zs.length ∧ Hid (OwnI wr w3.heap.size v (flt cs K k)) ∧ Keep w3 wr) (fun _ i _ => zs.length - (intOf i).toNat)
  case atStart => exact ⟨1, rfl, by omega, by omega, HO0, (Keep.refl w3).alloc _⟩
  case round =>
    obtain ⟨k, rfl, hk1, hk, HO, hK⟩ := hrel
    have hsz := hK.size
    by_cases hlt : k < zs.length
    · have HS : Hid (((k : Int) = K ∨ (k : Int) ∈ cs) → flt cs K (k + 1) = flt cs K k ++ [(k : Int)]) := Lib.hid (fun h => by rw [flt, if_pos ⟨hk1, h⟩])
      have HT : Hid (¬ ((k : Int) = K ∨ (k : Int) ∈ cs) → flt cs K (k + 1) = flt cs K k) := Lib.hid (fun h => by rw [flt, if_neg (fun h2 => h h2.2)])
      have HL : Hid ((flt cs K k).length ≤ k) := Lib.hid (flt_len cs K k)
      obtain ⟨fn, hfn⟩ : ∃ fn, flt cs K (k + 1) = fn := ⟨_, rfl⟩
      rw [hfn] at HS HT
      have HFN := Lib.hid hfn
      clear hfn
      generalize flt cs K k = fk at *
      by_cases hkK : k = K
      · have d2 : ((k : Int) == (K : Int)) = true := beq_iff_eq.2 (by omega)
        have HS2 := Lib.hid (HS.out (.inl (by omega)))
        have hown : wr.ownsRow w3.heap.size 3 1 _ fk.length (fk.map (Value.int .i64)) := HO.out
        clear HT HS
        replace hkK := Lib.hid hkK
        go_wp2_with (at_builtin; refine wpList_append_own _ rfl _ _ 23 rfl w3.heap.size 3 i0 (.int .i64 0) 1 8 Try.underlying23 hi hz0 hz1 hz2 rfl (by decide) _ _ _ rfl (hown.alloc _) ⟨wr.heap.size, 0, none⟩ 1 1 [.int .i64 (k : Int)] rfl rfl ?c1a ?c2a ?c3a ?c4a ?c5a ?_)
        try case c1a =>
          intro j u hj
          match j, hj with
          | 0, hj => simp at hj; subst hj; simp [Addr.add]
        try case c2a => first | rfl | (intro u hu; simp at hu; subst hu; rfl)
        case c3a => unfold maxLen; have := HL.out; omega
        case c4a => have := HL.out; omega
        case c5a => first | omega | (simp; omega)
        intro v' w9 hown' hgrow hnil
        have HN : Hid (OwnI w9 w3.heap.size v' fn) := Lib.hid (by rw [HS2.out]; unfold OwnI; simpa using hown')
        have HK2 : Keep w3 w9 := Below.grown (hK.alloc (.cells #[.int .i64 (k : Int)] 3)) hgrow (hK.alloc (.cells #[.int .i64 (k : Int)] 3)).size (fun g hg => (hown.lt g hg).1)
        clear hown' hgrow hnil hown
        go_wp2
        go_roundw
        case rel => exact ⟨k + 1, by go_num, by omega, by omega, by rw [HFN.out]; exact HN, HK2⟩
        case measure => simp [intOf]; omega
      · have d2 : ((k : Int) == (K : Int)) = false := beq_eq_false_iff_ne.2 (by omega)
        have HIk := Lib.hid (HI.out k wr hK)
        by_cases hkm : (k : Int) ∈ cs
        · have HS2 := Lib.hid (HS.out (.inr hkm))
          rw [decide_eq_true hkm] at HIk
          have hown : wr.ownsRow w3.heap.size 3 1 _ fk.length (fk.map (Value.int .i64)) := HO.out
          clear HT HS hkm hkK
          go_wp2_with fail
          refine HIk.out.mono ?_
          rintro e w5 ⟨rfl, rfl⟩
          go_wp2_with (at_builtin; refine wpList_append_own _ rfl _ _ 23 rfl w3.heap.size 3 i0 (.int .i64 0) 1 8 Try.underlying23 hi hz0 hz1 hz2 rfl (by decide) _ _ _ rfl (hown.alloc _) ⟨wr.heap.size, 0, none⟩ 1 1 [.int .i64 (k : Int)] rfl rfl ?c1a ?c2a ?c3a ?c4a ?c5a ?_)
          try case c1a =>
            intro j u hj
            match j, hj with
            | 0, hj => simp at hj; subst hj; simp [Addr.add]
          try case c2a => first | rfl | (intro u hu; simp at hu; subst hu; rfl)
          case c3a => unfold maxLen; have := HL.out; omega
          case c4a => have := HL.out; omega
          case c5a => first | omega | (simp; omega)
          intro v' w9 hown' hgrow hnil
          have HN : Hid (OwnI w9 w3.heap.size v' fn) := Lib.hid (by rw [HS2.out]; unfold OwnI; simpa using hown')
          have HK2 : Keep w3 w9 := Below.grown (hK.alloc (.cells #[.int .i64 (k : Int)] 3)) hgrow (hK.alloc (.cells #[.int .i64 (k : Int)] 3)).size (fun g hg => (hown.lt g hg).1)
          clear hown' hgrow hnil hown
          go_wp2
          go_roundw
          case rel => exact ⟨k + 1, by go_num, by omega, by omega, by rw [HFN.out]; exact HN, HK2⟩
          case measure => simp [intOf]; omega
        · have HT2 := Lib.hid (HT.out (fun h => h.elim (fun h => hkK (by omega)) hkm))
          rw [decide_eq_false hkm] at HIk
          clear HT HS hkm hkK
          go_wp2_with fail
          refine HIk.out.mono ?_
          rintro e w5 ⟨rfl, rfl⟩
          go_wp2
          go_roundw
          case rel => exact ⟨k + 1, by go_num, by omega, by omega, by rw [HFN.out, HT2.out]; exact HO, hK⟩
          case measure => simp [intOf]; omega
    · obtain rfl : k = zs.length := by omega
      obtain ⟨x, cx, rfl, hcx, hLx⟩ := HO.out.lsc
      have HZ2 := Lib.hid (HZ.out wr hK x cx hLx)
      clear HZ HO
      go_wp2_with fail
      refine HZ2.out.mono ?_
      rintro e w9 ⟨rfl, k9⟩
      go_wp2
      go_ret
      exact ⟨rfl, (K3.trans hK).trans k9⟩
end Go.Proofs.Ytmndlghadgccbac
