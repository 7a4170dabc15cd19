/- P50: a series may be shorter. -/
import Derived.Test.YtaghgapkjdkkfaaDrSq
import Derived.Test.YtaghgapkjdkkfaaSq
import Derived.Test.YtaghgapkjdkkfaaLw
import Derived.Test.YtaghgapkjdkkfaaFr
namespace Go.Proofs.Ytaghgapkjdkkfaa
open Go.RowKit
set_option linter.unusedVariables false

theorem part_bad {zs : List Int} {u : Nat} (h : u < zs.length) : sqB (zs.set u 11000) = false := by
  refine sq_bad (all_not qB _ u (by simpa using h) ?_)
  have e : (zs.set u 11000).getD u 0 = 11000 := by simp [List.getD_eq_getElem?_getD, h]
  rw [e]; decide
theorem part_drop {zs : List Int} (h : sqB zs = true) (h2 : 2 ≤ zs.length) : sqB (zs.drop 1) = true := by
  obtain ⟨h1, _, h3⟩ := sq_facts h
  refine sq_all ?_ (by rw [List.length_drop]; omega)
  rw [List.all_eq_true] at h1 ⊢
  exact fun x hx => h1 x (List.mem_of_mem_drop hx)
theorem hwr0 {w : World} {g : Nat} {ys : List Int} (h : Wr w g ys) {k : Nat} (hk : k < ys.length) : w.cell? ⟨g, k, none⟩ = some (.int .i64 (ys.getD k 0)) ∧ w.frozen? ⟨g, k, none⟩ = false := h k hk
theorem ls_drop {w : World} {b off : Nat} {zs : List Int} (h : Ls w (some ⟨b, off, none⟩) zs) (j : Nat) : Ls w (some ⟨b, off + j, none⟩) (zs.drop j) := by
  by_cases hj : j < zs.length
  · obtain ⟨b', o', he, hb, hc⟩ := h.all (by omega)
    injection he with he
    injection he with h1 h2 _
    subst h1; subst h2
    refine .inr ⟨b, off + j, rfl, hb, fun i hi => ?_⟩
    rw [List.length_drop] at hi
    rw [show off + j + i = off + (j + i) by omega, hc (j + i) (by omega)]
    simp [List.getD_eq_getElem?_getD]
  · exact .inl (List.drop_eq_nil_of_le (by omega))
set_option maxRecDepth 100000 in
set_option maxHeartbeats 6400000 in
theorem walk_FnSeriesPart (a0 : Option Addr) (len0 cap0 : Nat) (z0 : List Int) (a1 : Option Addr) (len1 cap1 : Nat) (z1 : List Int) (w : World) (w0 : IsRow .u8 w a0 len0 cap0 z0) (w1 : IsRow .u8 w a1 len1 cap1 z1) :
    Calls Try.prog 10 #[.slice a0 len0 cap0, .slice a1 len1 cap1] w fun e w' => e = .returned (.bool true) ∧ Below w.heap.size w w' := by
  have ha := code_of_row w0
  obtain ⟨hl0, hm0⟩ := ha.1
  unfold maxLen at hm0
  clear w0
  have ha1 := code_of_row w1
  obtain ⟨hl1', hm1'⟩ := ha1.1
  unfold maxLen at hm1'
  clear w1 ha1
  by_cases h : len0 ≤ 1048576
  case' neg =>
    have hd : decide (1048576 < (len0 : Int)) = true := by simp; omega
    go_enter Try.func10, Try.ntmps10
    go_wp2
    go_ret
    exact ⟨rfl, Below.refl _ _⟩
  have hd : decide (1048576 < (len0 : Int)) = false := by simp; omega
  by_cases h1 : len1 ≤ 1048576
  case' neg =>
    have hd1 : decide (1048576 < (len1 : Int)) = true := by simp; omega
    go_enter Try.func10, Try.ntmps10
    go_wp2
    go_ret
    exact ⟨rfl, Below.refl _ _⟩
  have hd1 : decide (1048576 < (len1 : Int)) = false := by simp; omega
  go_enter Try.func10, Try.ntmps10
  obtain ⟨i0, hi, hz0, hz1, hz2⟩ := info_parts infoIntL
  go_wp2_with fail
  refine (drawSeriesValid a0 len0 cap0 _ ha).mono ?_
  rintro e w1 ⟨a, c, zs, rfl, hl13, hcap, hB, hL1, K1⟩
  clear ha hB
  go_wp2_with fail
  refine (sqv_impl a c zs _ hL1 (by omega)).mono ?_
  rintro e w2 ⟨rfl, rfl⟩
  go_wp2_with fail
  refine (sqv_spec a c zs _ hL1 (by omega)).mono ?_
  rintro e w2 ⟨rfl, rfl⟩
  rcases Bool.eq_false_or_eq_true (sqB zs) with hs | hs
  case' inr =>
    rw [hs]
    go_wp2
    go_ret
    exact ⟨rfl, K1⟩
  obtain ⟨hq, hl1, hl12⟩ := sq_facts hs
  have HS := Lib.hid hs
  rw [hs]
  clear hs hq
  obtain ⟨u, hu⟩ : ∃ u : Nat, u = len1 % zs.length := ⟨_, rfl⟩
  have hu1 : u < zs.length := by rw [hu]; exact Nat.mod_lt len1 (by omega)
  have hmod : Int.tmod (len1 : Int) (zs.length : Int) = (u : Int) := by
    have h9 := Int.ofNat_tmod len1 zs.length
    rw [← hu] at h9
    exact h9.symm
  clear hu
  have q0 : (0 : Int) ≤ (u : Int) := by omega
  have q1 : (u : Int) < (zs.length : Int) := by omega
  have hne : ((zs.length : Int) == 0) = false := beq_eq_false_iff_ne.2 (by omega)
  have hne2 : ¬ (zs.length : Int) = 0 := by omega
  have HY : Hid (sqB (zs.set u 11000) = false ∧ (zs.set u 11000).length = zs.length) := Lib.hid ⟨part_bad hu1, by simp⟩
  have HT : Hid (2 ≤ zs.length → sqB (zs.drop 1) = true) := Lib.hid (fun h2 => part_drop HS.out h2)
  obtain ⟨b, off, rfl, hb, hc⟩ := hL1.all (by omega)
  have HL1 := Lib.hid hL1
  have hown := World.ownsRow_made (base := w1.heap.size) (e := 3) (size := 1) w1 #[] 0 (Nat.le_refl _) (by unfold maxLen; omega) rfl
  go_wp2_with (at_builtin; refine wpList_append_own _ rfl _ _ 23 rfl w1.heap.size 3 i0 (.int .i64 0) 1 8 Try.underlying23 hi hz0 hz1 hz2 rfl (by decide) _ _ _ rfl hown ⟨b, off, none⟩ zs.length c (zs.map (Value.int .i64)) rfl ?la ?ca ?ka ?ma ?ba ?sa ?_)
  case la => first | done | (simp; done) | (simp; omega)
  case ca =>
    intro j u hj
    have hlt : j < zs.length := by
      have := (List.getElem?_eq_some_iff.1 hj).1; simpa using this
    have h1 := (((Keep.refl w1).alloc (.cells #[] 3)).cell (hc j hlt))
    have hu : u = .int .i64 (zs.getD j 0) := by
      simp [hlt] at hj; rw [← hj]; simp [List.getD_eq_getElem?_getD, hlt]
    subst hu
    by_cases h0 : j = 0
    · subst h0; simpa [Addr.add] using h1
    · simpa [Addr.add, h0] using h1
  case ka => first | (intro u hu; rfl) | (intro u hu; simp at hu; obtain ⟨x, hx, rfl⟩ := hu; rfl)
  case ma => unfold maxLen; omega
  case ba => omega
  case sa => first | omega | (simp; try omega)
  intro v' w5 hown' hgrow hnil
  try rw [Nat.zero_add] at hown'
  try rw [List.nil_append] at hown'
  obtain ⟨g, cc, rfl, hbg, hlg⟩ := hown'.form (by omega)
  obtain ⟨⟨_, hcc⟩, hwr, _, _⟩ := wr_ownL hown'
  have HW := Lib.hid hwr
  have K5 : Keep w1 w5 := (Below.grown ((Keep.refl w1).alloc (.cells #[] 3)) hgrow ((Keep.refl w1).alloc (.cells #[] 3)).size (fun q hq => (hown.lt q hq).1) : Keep w1 w5)
  clear hown' hgrow hnil hown hwr
  have hst := hwr0 HW.out hu1
  obtain ⟨cu, fu⟩ := hst
  have HWs : Hid (Wr (w5.setCell ⟨g, u, none⟩ (.int .i64 11000)) g (zs.set u 11000)) := Lib.hid (HW.out.set hu1 11000)
  have K6 : Keep w1 (w5.setCell ⟨g, u, none⟩ (.int .i64 11000)) := K5.setCell hbg _
  generalize zs.set u 11000 = ys at HY HWs
  obtain ⟨W, hWd⟩ : ∃ W, W = w5.setCell ⟨g, u, none⟩ (.int .i64 11000) := ⟨_, rfl⟩
  rw [← hWd] at HWs K6
  have HWd := Lib.hid hWd
  clear hWd
  have HCY := Lib.hid (fun W' (k : Keep W W') => sqv_impl (some ⟨g, 0, none⟩) cc ys W' ((HWs.out.ls).keep k) (by rw [HY.out.2]; omega))
  rw [HY.out.2, HY.out.1] at HCY
  have HCN := Lib.hid (fun W' b => sqv_impl (some ⟨b, 0, none⟩) 0 [] W' (Ls.nil _ _) (by simp))
  have HCT := Lib.hid (sqv_impl (some ⟨b, off + 1, none⟩) (c - 1) (zs.drop 1) W (ls_drop ((HL1.out).keep K6) 1) (by rw [List.length_drop]; omega))
  rw [List.length_drop] at HCT
  by_cases h1 : zs.length ≤ 1
  · have h12 : ((zs.length : Int) == 1) = true := beq_iff_eq.2 (by omega)
    go_wp2_with fail
    rw [← HWd.out]
    refine (HCY.out W (Keep.refl _)).mono ?_
    rintro e w7 ⟨rfl, rfl⟩
    go_wp2_with fail
    refine (HCN.out _ _).mono ?_
    rintro e w8 ⟨rfl, rfl⟩
    go_wp2
    go_ret
    exact ⟨rfl, (K1.trans K6).alloc _⟩
  · have h12 : ((zs.length : Int) == 1) = false := beq_eq_false_iff_ne.2 (by omega)
    have hc1 : (c == 1) = false := beq_eq_false_iff_ne.2 (by omega)
    have hc2 : ¬ c = 1 := by omega
    have HT2 := HT.out (by omega)
    rw [HT2] at HCT
    clear HT2
    go_wp2_with fail
    rw [← HWd.out]
    refine (HCT.out).mono ?_
    rintro e w7 ⟨rfl, rfl⟩
    go_wp2_with fail
    refine (HCY.out W (Keep.refl _)).mono ?_
    rintro e w7 ⟨rfl, rfl⟩
    go_wp2_with fail
    refine (HCN.out _ _).mono ?_
    rintro e w8 ⟨rfl, rfl⟩
    go_wp2
    go_ret
    exact ⟨rfl, (K1.trans K6).alloc _⟩
end Go.Proofs.Ytaghgapkjdkkfaa
