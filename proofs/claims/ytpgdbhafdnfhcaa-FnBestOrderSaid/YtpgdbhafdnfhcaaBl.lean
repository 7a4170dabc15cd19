/- What the laws of the best cuts say. -/
import Derived.Test.YtpgdbhafdnfhcaaBm
namespace Go.Proofs.Ytpgdbhafdnfhcaa
open Go.RowKit
set_option linter.unusedVariables false

theorem ccB_parts {zs cs : List Int} {pr : Int} (h : ccB zs cs pr = true) : cbOk zs pr = true ∧ Vc zs.length 0 cs := by
  have h2 := h
  simp only [ccB, Bool.and_eq_true] at h2
  have h3 : cbOk zs pr = true := by rw [cbOk, h2.1, h2.2.2]; rfl
  exact ⟨h3, (vc_ct (cbOk_facts h3).2.1).2 h2.2.1⟩
theorem cb_valid {zs cs : List Int} {pr : Int} (h : cbOk zs pr = true) (hv : Vc zs.length 0 cs) : ccB zs cs pr = true := by
  have h2 := h
  simp only [cbOk, Bool.and_eq_true] at h2
  exact cc_yes h2.1 ((vc_ct (cbOk_facts h).2.1).1 hv) h2.2
/-- The best cuts are valid, and what they cost. -/
theorem cb_cost {zs : List Int} {pr : Int} (h : cbOk zs pr = true) : ccB zs (cbL zs pr) pr = true ∧ ccV zs (cbL zs pr) pr = (bB zs pr 0).1 ∧ (0 ≤ (bB zs pr 0).1 ∧ (bB zs pr 0).1 ≤ 176000) ∧ (cbL zs pr).length ≤ 7 ∧ Vc zs.length 0 (cbL zs pr) := by
  obtain ⟨hs, ⟨l1, l8⟩, p0, p9⟩ := cbOk_facts h
  have hb := bB_best pr (show 0 < zs.length by omega)
  obtain ⟨h1, h2⟩ := bst_bd hs p0 (by omega) hb
  rw [cbL_yes h]
  have h3 := cb_valid h hb.2.1
  refine ⟨h3, ?_, h1, by omega, hb.2.1⟩
  rw [← cT_ccV h3]
  exact hb.1.symm
/-- P78. -/
theorem cb_least {zs cs : List Int} {pr : Int} (h : ccB zs cs pr = true) : ccV zs (cbL zs pr) pr < ccV zs cs pr ∨ (ccV zs (cbL zs pr) pr = ccV zs cs pr ∧ (cbL zs pr).length ≤ cs.length) := by
  obtain ⟨h1, h2⟩ := ccB_parts h
  obtain ⟨_, ⟨l1, l8⟩, _, _⟩ := cbOk_facts h1
  have hb := (bB_best pr (show 0 < zs.length by omega)).2.2 cs h2
  rw [(cb_cost h1).2.1, ← cT_ccV h, cbL_yes h1]
  unfold lsC at hb
  have h3 : ¬ cT (bF zs) zs.length pr 0 cs < (bB zs pr 0).1 := fun h => hb (.inl h)
  have h4 : cT (bF zs) zs.length pr 0 cs = (bB zs pr 0).1 → ¬ cs.length < (bB zs pr 0).2.length := fun e h => hb (.inr ⟨e, .inl h⟩)
  show (bB zs pr 0).1 < cT (bF zs) zs.length pr 0 cs ∨ _
  by_cases e : cT (bF zs) zs.length pr 0 cs = (bB zs pr 0).1
  · exact .inr ⟨e.symm, by have := h4 e; omega⟩
  · exact .inl (by omega)
theorem lx_set : ∀ {L : List Int} {k : Nat}, k < L.length → lx (L.set k (L.getD k 0 - 1)) L = true
  | [], k, h => by simp at h
  | a :: L, 0, _ => by
    show lx ((a - 1) :: L) (a :: L) = true
    rw [lx, if_neg (by omega)]
    exact decide_eq_true (by omega)
  | a :: L, k + 1, h => by
    show lx (a :: L.set k (L.getD k 0 - 1)) (a :: L) = true
    rw [lx, if_pos rfl]
    exact lx_set (by simpa using h)
/-- P79. -/
theorem cb_order {zs : List Int} {pr : Int} (h : cbOk zs pr = true) {k : Nat} (hk : k < (cbL zs pr).length) (hv : ctB ((cbL zs pr).set k ((cbL zs pr).getD k 0 - 1)) zs.length = true) :
    ccV zs (cbL zs pr) pr < ccV zs ((cbL zs pr).set k ((cbL zs pr).getD k 0 - 1)) pr := by
  obtain ⟨_, hl, _, _⟩ := cbOk_facts h
  have hV := (vc_ct hl).2 hv
  have h3 := cb_valid h hV
  have hb := (bB_best pr (show 0 < zs.length by omega)).2.2 _ hV
  rw [(cb_cost h).2.1, ← cT_ccV h3]
  have hx := lx_set hk
  unfold lsC at hb
  rw [cbL_yes h] at hb hx ⊢
  show (bB zs pr 0).1 < cT (bF zs) zs.length pr 0 _
  have h4 : ¬ cT (bF zs) zs.length pr 0 ((bB zs pr 0).2.set k ((bB zs pr 0).2.getD k 0 - 1)) < (bB zs pr 0).1 := fun h => hb (.inl h)
  have h5 : ¬ cT (bF zs) zs.length pr 0 ((bB zs pr 0).2.set k ((bB zs pr 0).2.getD k 0 - 1)) = (bB zs pr 0).1 := fun e => hb (.inr ⟨e, .inr ⟨by rw [List.length_set], hx⟩⟩)
  omega
/-- P81. -/
theorem cb_price {zs : List Int} {pr : Int} (h : cbOk zs pr = true) (h2 : cbOk zs (pr + 1) = true) : (cbL zs (pr + 1)).length ≤ (cbL zs pr).length := by
  obtain ⟨_, _, _, _, v1⟩ := cb_cost h
  obtain ⟨_, _, _, _, v2⟩ := cb_cost h2
  have a1 := cb_least (cb_valid h v2)
  have a2 := cb_least (cb_valid h2 v1)
  have e1 := ccV_yes (cb_valid h v1)
  have e2 := ccV_yes (cb_valid h v2)
  have e3 := ccV_yes (cb_valid h2 v1)
  have e4 := ccV_yes (cb_valid h2 v2)
  rw [e1, e2] at a1
  rw [e3, e4] at a2
  generalize ccR zs (cbL zs pr) = x at *
  generalize ccR zs (cbL zs (pr + 1)) = y at *
  have m1 : (pr + 1) * ((cbL zs pr).length : Int) = pr * ((cbL zs pr).length : Int) + ((cbL zs pr).length : Int) := by rw [Int.add_mul, Int.one_mul]
  have m2 : (pr + 1) * ((cbL zs (pr + 1)).length : Int) = pr * ((cbL zs (pr + 1)).length : Int) + ((cbL zs (pr + 1)).length : Int) := by rw [Int.add_mul, Int.one_mul]
  rw [m1, m2] at a2
  generalize pr * ((cbL zs pr).length : Int) = u at *
  generalize pr * ((cbL zs (pr + 1)).length : Int) = v at *
  omega
/-! Without a price. -/
theorem pcS_nn (m : Int) : ∀ L, 0 ≤ pcS L m
  | [] => Int.le_refl _
  | x :: L => by have := pcS_nn m L; have := dst_nn x m; rw [pcS]; omega
theorem pcS_zero {m : Int} : ∀ {L : List Int}, pcS L m = 0 → ∀ x ∈ L, x = m
  | [], _, x, hx => by cases hx
  | y :: L, h, x, hx => by
    have h1 := pcS_nn m L
    have h2 := dst_nn y m
    rw [pcS] at h
    rcases List.mem_cons.1 hx with rfl | hx
    · have h3 : dst x m = 0 := by omega
      unfold dst at h3; split at h3 <;> omega
    · exact pcS_zero (by omega) x hx
theorem pcS_all {m : Int} : ∀ {L : List Int}, (∀ x ∈ L, x = m) → pcS L m = 0
  | [], _ => rfl
  | y :: L, h => by
    have h1 : y = m := h y List.mem_cons_self
    rw [pcS, pcS_all fun x hx => h x (List.mem_cons_of_mem _ hx), h1]
    unfold dst; split <;> omega
theorem bF_zero {zs : List Int} (hs : shB zs = true) {p q : Nat} (hp : p < q) (hq : q ≤ zs.length) : bF zs p q = 0 ↔ ∃ m, ∀ i, p ≤ i → i < q → zs.getD i 0 = m := by
  have h1 := seg_sh hs hp hq
  have hl := seg_len zs (Nat.le_of_lt hp) hq
  have hat : ∀ i, p ≤ i → i < q → zs.getD i 0 ∈ seg zs p q := fun i h1 h2 => by
    have h3 := getD_mem (zs := seg zs p q) (k := i - p) (by omega)
    rwa [seg_at zs (by omega), show p + (i - p) = i by omega] at h3
  unfold bF
  constructor
  · intro h
    rw [pcV_S h1] at h
    exact ⟨mdL (seg zs p q), fun i h1 h2 => pcS_zero h _ (hat i h1 h2)⟩
  · rintro ⟨m, hm⟩
    have h2 : ∀ x ∈ seg zs p q, x = m := fun x hx => by
      obtain ⟨j, hj, rfl⟩ := List.getElem_of_mem hx
      have h3 := seg_at zs (i := p) (j := q) (k := j) (by omega)
      rw [show (seg zs p q).getD j 0 = (seg zs p q)[j] by simp [List.getD_eq_getElem?_getD, hj]] at h3
      rw [h3]; exact hm _ (by omega) (by omega)
    have h3 := pc_least (L := seg zs p q) (by omega) m
    rw [pcS_all h2] at h3
    have := pcS_nn (mdL (seg zs p q)) (seg zs p q)
    rw [pcV_S h1]; omega
theorem bF_nn {zs : List Int} (hs : shB zs = true) {p q : Nat} (hp : p < q) (hq : q ≤ zs.length) : 0 ≤ bF zs p q := (pcV_bd (seg_sh hs hp hq)).1
/-- One cut fewer where nothing changes costs no more, if all parts are level. -/
theorem cT_drop {zs : List Int} (hs : shB zs = true) {c : Nat} (hc : zs.getD c 0 = zs.getD (c - 1) 0) : ∀ {A B : List Int} {p : Nat}, p < zs.length → Vc zs.length p (A ++ (c : Int) :: B) → cT (bF zs) zs.length 0 p (A ++ (c : Int) :: B) = 0 → cT (bF zs) zs.length 0 p (A ++ B) = 0
  | [], [], p, hp, hv, h => by
    have hcc := hv.2 (c : Int) (by simp)
    have e : ((c : Int)).toNat = c := by omega
    simp only [List.nil_append, cT, e] at h ⊢
    have b1 := bF_nn hs (show p < c by omega) (by omega)
    have b2 := bF_nn hs (show c < zs.length by omega) (Nat.le_refl _)
    obtain ⟨m1, k1⟩ := (bF_zero hs (show p < c by omega) (by omega)).1 (by omega)
    obtain ⟨m2, k2⟩ := (bF_zero hs (show c < zs.length by omega) (Nat.le_refl _)).1 (by omega)
    have e1 := k1 (c - 1) (by omega) (by omega)
    have e2 := k2 c (by omega) (by omega)
    exact (bF_zero hs hp (Nat.le_refl _)).2 ⟨m1, fun i h1 h2 => by
      by_cases hi : i < c
      · exact k1 i h1 hi
      · rw [k2 i (by omega) h2, ← e1, ← hc, e2]⟩
  | [], d :: B, p, hp, hv, h => by
    have hcc := hv.2 (c : Int) (by simp)
    have hdd := hv.2 d (by simp)
    have hcd : (c : Int) < d := (List.pairwise_cons.1 hv.1).1 d (by simp)
    have e : ((c : Int)).toNat = c := by omega
    obtain ⟨d', rfl⟩ := Int.eq_ofNat_of_zero_le (show 0 ≤ d by omega)
    have e' : ((d' : Int)).toNat = d' := by omega
    simp only [List.nil_append, cT, e, e'] at h ⊢
    have hvB : Vc zs.length d' B := ⟨(List.pairwise_cons.1 (List.pairwise_cons.1 hv.1).2).2, fun x hx => ⟨(List.pairwise_cons.1 (List.pairwise_cons.1 hv.1).2).1 x hx, (hv.2 x (by simp [hx])).2⟩⟩
    have b1 := bF_nn hs (show p < c by omega) (by omega)
    have b2 := bF_nn hs (show c < d' by omega) (by omega)
    have b3 := cT_lo hs (Int.le_refl 0) (show d' < zs.length by omega) hvB
    obtain ⟨m1, k1⟩ := (bF_zero hs (show p < c by omega) (by omega)).1 (by omega)
    obtain ⟨m2, k2⟩ := (bF_zero hs (show c < d' by omega) (by omega)).1 (by omega)
    have e1 := k1 (c - 1) (by omega) (by omega)
    have e2 := k2 c (by omega) (by omega)
    have e3 := (bF_zero hs (show p < d' by omega) (by omega)).2 ⟨m1, fun i h1 h2 => by
      by_cases hi : i < c
      · exact k1 i h1 hi
      · rw [k2 i (by omega) h2, ← e1, ← hc, e2]⟩
    omega
  | a :: A, B, p, hp, hv, h => by
    have haa := hv.2 a (by simp)
    obtain ⟨a', rfl⟩ := Int.eq_ofNat_of_zero_le (show 0 ≤ a by omega)
    have e' : ((a' : Int)).toNat = a' := by omega
    have hvt : Vc zs.length a' (A ++ (c : Int) :: B) := ⟨(List.pairwise_cons.1 hv.1).2, fun x hx => ⟨(List.pairwise_cons.1 hv.1).1 x hx, (hv.2 x (List.mem_cons_of_mem _ hx)).2⟩⟩
    simp only [List.cons_append, cT, e'] at h ⊢
    have b1 := bF_nn hs (show p < a' by omega) (by omega)
    have b3 := cT_lo hs (Int.le_refl 0) (show a' < zs.length by omega) hvt
    have ih := cT_drop hs hc (A := A) (B := B) (show a' < zs.length by omega) hvt (by omega)
    omega
theorem vc_drop {n p : Nat} {A B : List Int} {c : Int} (h : Vc n p (A ++ c :: B)) : Vc n p (A ++ B) := by
  refine ⟨h.1.sublist ?_, fun x hx => h.2 x ?_⟩
  · exact List.Sublist.append (List.Sublist.refl A) (List.sublist_cons_self c B)
  · rw [List.mem_append] at hx ⊢
    rcases hx with hx | hx
    · exact .inl hx
    · exact .inr (List.mem_cons_of_mem _ hx)
/-- All cuts from day p on. -/
def allC (p : Nat) : Nat → List Int
  | 0 => []
  | j + 1 => ((p + 1 : Nat) : Int) :: allC (p + 1) j
theorem allC_mem : ∀ {j p : Nat} {x : Int}, x ∈ allC p j → (p : Int) < x ∧ x ≤ ((p + j : Nat) : Int)
  | 0, _, _, h => by simp [allC] at h
  | j + 1, p, x, h => by
    rw [allC, List.mem_cons] at h
    rcases h with rfl | h
    · omega
    · have := allC_mem h; omega
theorem allC_asc : ∀ (j p : Nat), (allC p j).Pairwise (· < ·)
  | 0, _ => List.Pairwise.nil
  | j + 1, p => List.pairwise_cons.2 ⟨fun x hx => by have := allC_mem hx; omega, allC_asc j (p + 1)⟩
theorem allC_cost {zs : List Int} (hs : shB zs = true) : ∀ {j p : Nat}, p + j + 1 = zs.length → cT (bF zs) zs.length 0 p (allC p j) = 0
  | 0, p, h => (bF_zero hs (by omega) (Nat.le_refl _)).2 ⟨zs.getD p 0, fun i h1 h2 => by rw [show i = p by omega]⟩
  | j + 1, p, h => by
    have e : (((p + 1 : Nat) : Int)).toNat = p + 1 := by omega
    rw [allC, cT, e, allC_cost hs (show p + 1 + j + 1 = zs.length by omega), (bF_zero hs (show p < p + 1 by omega) (by omega)).2 ⟨zs.getD p 0, fun i h1 h2 => by rw [show i = p by omega]⟩]
    rfl
/-- P80. -/
theorem cb_free {zs : List Int} (h : cbOk zs 0 = true) : ccV zs (cbL zs 0) 0 = 0 ∧ ∀ i, i < (cbL zs 0).length → ∃ c : Nat, (cbL zs 0).getD i 0 = (c : Int) ∧ 1 ≤ c ∧ c < zs.length ∧ zs.getD c 0 ≠ zs.getD (c - 1) 0 := by
  obtain ⟨hs, ⟨l1, l8⟩, _, _⟩ := cbOk_facts h
  obtain ⟨c1, c2, ⟨c3, _⟩, c4, c5⟩ := cb_cost h
  have hb := bB_best 0 (show 0 < zs.length by omega)
  have hz : (bB zs 0 0).1 = 0 := by
    have h1 := hb.2.2 (allC 0 (zs.length - 1)) ⟨allC_asc _ _, fun x hx => by have := allC_mem hx; omega⟩
    rw [allC_cost hs (show 0 + (zs.length - 1) + 1 = zs.length by omega)] at h1
    unfold lsC at h1
    have h2 : ¬ (0 : Int) < (bB zs 0 0).1 := fun h => h1 (.inl h)
    omega
  refine ⟨by rw [c2, hz], fun i hi => ?_⟩
  have hm := c5.2 _ (getD_mem hi)
  obtain ⟨c, hc⟩ := Int.eq_ofNat_of_zero_le (show 0 ≤ (cbL zs 0).getD i 0 by omega)
  refine ⟨c, hc, by omega, by omega, fun he => ?_⟩
  have hcm : (c : Int) ∈ cbL zs 0 := by rw [← hc]; exact getD_mem hi
  obtain ⟨A, B, hAB⟩ := List.append_of_mem hcm
  rw [cbL_yes h] at hAB
  have hb1 := hb.1
  have hv := hb.2.1
  rw [hAB] at hb1 hv
  rw [hz] at hb1
  have h0 := cT_drop hs he (by omega) hv hb1.symm
  have hno := hb.2.2 (A ++ B) (vc_drop hv)
  apply hno
  refine .inr ⟨?_, .inl ?_⟩
  · show cT (bF zs) zs.length 0 0 (A ++ B) = (bB zs 0 0).1
    rw [h0, hz]
  · show (A ++ B).length < (bB zs 0 0).2.length
    rw [hAB]; simp
end Go.Proofs.Ytpgdbhafdnfhcaa
