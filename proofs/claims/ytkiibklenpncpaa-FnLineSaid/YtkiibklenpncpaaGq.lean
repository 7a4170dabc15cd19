/- Gaps, what the laws say of them: values that agree lie in the ranges, both bounds agree, days have no direction, more values and greater steps. Without the program. -/
import Derived.Test.YtkiibklenpncpaaGp
namespace Go.Proofs.Ytkiibklenpncpaa
open Go.RowKit
set_option linter.unusedVariables false

theorem gLo_iff (zs : List Int) (lo st : Int) (i : Nat) (b : Int) : ∀ k, gLo zs lo st i k ≤ b ↔ lo ≤ b ∧ ∀ j, j < k → zs.getD j 0 ≠ -9999 → zs.getD j 0 - gFar j i st ≤ b
  | 0 => ⟨fun h => ⟨h, fun j hj => absurd hj (by omega)⟩, fun h => h.1⟩
  | k + 1 => by
    have ih := gLo_iff zs lo st i b k
    by_cases e : zs.getD k 0 = -9999
    · rw [gLo_none e, ih]
      refine ⟨fun ⟨h1, h2⟩ => ⟨h1, fun j hj hn => ?_⟩, fun ⟨h1, h2⟩ => ⟨h1, fun j hj hn => h2 j (by omega) hn⟩⟩
      by_cases e2 : j = k
      · subst e2; exact absurd e hn
      · exact h2 j (by omega) hn
    · rw [gLo_some e]
      constructor
      · intro h
        obtain ⟨h1, h2⟩ := ih.1 (by omega)
        refine ⟨h1, fun j hj hn => ?_⟩
        by_cases e2 : j = k
        · subst e2; omega
        · exact h2 j (by omega) hn
      · rintro ⟨h1, h2⟩
        have := ih.2 ⟨h1, fun j hj hn => h2 j (by omega) hn⟩
        have := h2 k (by omega) e
        omega
theorem gHi_iff (zs : List Int) (hi st : Int) (i : Nat) (b : Int) : ∀ k, b ≤ gHi zs hi st i k ↔ b ≤ hi ∧ ∀ j, j < k → zs.getD j 0 ≠ -9999 → b ≤ zs.getD j 0 + gFar j i st
  | 0 => ⟨fun h => ⟨h, fun j hj => absurd hj (by omega)⟩, fun h => h.1⟩
  | k + 1 => by
    have ih := gHi_iff zs hi st i b k
    by_cases e : zs.getD k 0 = -9999
    · rw [gHi_none e, ih]
      refine ⟨fun ⟨h1, h2⟩ => ⟨h1, fun j hj hn => ?_⟩, fun ⟨h1, h2⟩ => ⟨h1, fun j hj hn => h2 j (by omega) hn⟩⟩
      by_cases e2 : j = k
      · subst e2; exact absurd e hn
      · exact h2 j (by omega) hn
    · rw [gHi_some e]
      constructor
      · intro h
        obtain ⟨h1, h2⟩ := ih.1 (by omega)
        refine ⟨h1, fun j hj hn => ?_⟩
        by_cases e2 : j = k
        · subst e2; omega
        · exact h2 j (by omega) hn
      · rintro ⟨h1, h2⟩
        have := ih.2 ⟨h1, fun j hj hn => h2 j (by omega) hn⟩
        have := h2 k (by omega) e
        omega
theorem gFar_lip (k i : Nat) {st : Int} (h0 : 0 ≤ st) : gFar k (i + 1) st ≤ gFar k i st + st ∧ gFar k i st ≤ gFar k (i + 1) st + st := by
  by_cases h : k ≤ i
  · rw [gFar_succ h]; omega
  · rw [gFar_pred (show i < k by omega)]; omega
theorem gLo_lip (zs : List Int) (lo : Int) {st : Int} (h0 : 0 ≤ st) (i : Nat) : ∀ k, gLo zs lo st i k - st ≤ gLo zs lo st (i + 1) k ∧ gLo zs lo st (i + 1) k - st ≤ gLo zs lo st i k
  | 0 => by simp only [gLo]; omega
  | k + 1 => by
    have ih := gLo_lip zs lo h0 i k
    have hf := gFar_lip k i h0
    by_cases e : zs.getD k 0 = -9999
    · rw [gLo_none e, gLo_none e]; exact ih
    · rw [gLo_some e, gLo_some e]; omega
theorem gHi_lip (zs : List Int) (hi : Int) {st : Int} (h0 : 0 ≤ st) (i : Nat) : ∀ k, gHi zs hi st i k - st ≤ gHi zs hi st (i + 1) k ∧ gHi zs hi st (i + 1) k - st ≤ gHi zs hi st i k
  | 0 => by simp only [gHi]; omega
  | k + 1 => by
    have ih := gHi_lip zs hi h0 i k
    have hf := gFar_lip k i h0
    by_cases e : zs.getD k 0 = -9999
    · rw [gHi_none e, gHi_none e]; exact ih
    · rw [gHi_some e, gHi_some e]; omega
/-- A value that is there is kept. -/
theorem g_known {zs : List Int} (lo hi st : Int) {i : Nat} (hi' : i < zs.length) (h : zs.getD i 0 ≠ -9999) : zs.getD i 0 ≤ gL zs lo st i ∧ gH zs hi st i ≤ zs.getD i 0 := by
  have a := gLo_mono zs lo st i (show i + 1 ≤ zs.length by omega)
  have b := gHi_mono zs hi st i (show i + 1 ≤ zs.length by omega)
  rw [gLo_some h, gFar_self] at a
  rw [gHi_some h, gFar_self] at b
  unfold gL gH; omega
theorem gOk_facts {zs : List Int} {lo hi st : Int} (h : gOk zs lo hi st = true) : gaB zs lo hi st = true ∧ ∀ i, i < zs.length → gL zs lo st i ≤ gH zs hi st i := by
  simp only [gOk, Bool.and_eq_true] at h
  exact ⟨h.1, fun i hi' => gAll_at h.2 hi'⟩
theorem gOk_of {zs : List Int} {lo hi st : Int} (h : gaB zs lo hi st = true) (h2 : ∀ i, i < zs.length → gL zs lo st i ≤ gH zs hi st i) : gOk zs lo hi st = true := by
  rw [gOk, h, gAll_yes h2]; rfl
theorem g_bounds (zs : List Int) (lo hi st : Int) (i : Nat) : lo ≤ gL zs lo st i ∧ gH zs hi st i ≤ hi := ⟨gLo_ge _ _ _ _ _, gHi_le _ _ _ _ _⟩
/-- Neighbouring values that agree are near each other; any two are near enough. -/
theorem ff_far {zs ds : List Int} {lo hi st : Int} (h0 : 0 ≤ st) {n : Nat} (h : ffN zs ds lo hi st n = true) (i : Nat) : ∀ d, i + d < n → ds.getD (i + d) 0 - ds.getD i 0 ≤ (d : Int) * st ∧ ds.getD i 0 - ds.getD (i + d) 0 ≤ (d : Int) * st
  | 0, _ => by simp
  | d + 1, hd => by
    have ih := ff_far h0 h i d (by omega)
    have h1 := (ffD_facts (ffN_at h (show i + (d + 1) < n from hd))).2.2
    rcases h1 with h1 | h1
    · omega
    · rw [show i + (d + 1) - 1 = i + d by omega] at h1
      have e : ((d + 1 : Nat) : Int) * st = (d : Int) * st + st := by rw [show ((d + 1 : Nat) : Int) = (d : Int) + 1 by omega, Int.add_mul, Int.one_mul]
      omega
theorem ff_near {zs ds : List Int} {lo hi st : Int} (h0 : 0 ≤ st) {n : Nat} (h : ffN zs ds lo hi st n = true) {i j : Nat} (hi' : i < n) (hj : j < n) : ds.getD j 0 - ds.getD i 0 ≤ gFar j i st ∧ ds.getD i 0 - ds.getD j 0 ≤ gFar j i st := by
  by_cases hij : i ≤ j
  · have := ff_far h0 h i (j - i) (by omega)
    rw [show i + (j - i) = j by omega] at this
    have e : gFar j i st = ((j - i : Nat) : Int) * st := by unfold gFar; congr 2; split <;> omega
    rw [e]; omega
  · have := ff_far h0 h j (i - j) (by omega)
    rw [show j + (i - j) = i by omega] at this
    have e : gFar j i st = ((i - j : Nat) : Int) * st := by unfold gFar; congr 2; split <;> omega
    rw [e]; omega
/-- Values that agree lie in the ranges. -/
theorem ff_in {zs ds : List Int} {lo hi st : Int} (h : ffV zs ds lo hi st = true) {i : Nat} (hi' : i < zs.length) : gL zs lo st i ≤ ds.getD i 0 ∧ ds.getD i 0 ≤ gH zs hi st i := by
  obtain ⟨h1, h2, h3⟩ := ffV_facts h
  obtain ⟨_, _, _, h0, _⟩ := gaB_facts h1
  have hb := (ffD_facts (ffN_at h3 hi')).1
  constructor
  · refine (gLo_iff zs lo st i _ _).2 ⟨hb.1, fun j hj hn => ?_⟩
    have hk := (ffD_facts (ffN_at h3 hj)).2.1
    have := ff_near h0 h3 hi' hj
    rcases hk with hk | hk
    · exact absurd hk hn
    · rw [hk]; omega
  · refine (gHi_iff zs hi st i _ _).2 ⟨hb.2, fun j hj hn => ?_⟩
    have hk := (ffD_facts (ffN_at h3 hj)).2.1
    have := ff_near h0 h3 hi' hj
    rcases hk with hk | hk
    · exact absurd hk hn
    · rw [hk]; omega
theorem ff_ok {zs ds : List Int} {lo hi st : Int} (h : ffV zs ds lo hi st = true) : gOk zs lo hi st = true :=
  gOk_of (ffV_facts h).1 fun i hi' => by have := ff_in h hi'; omega
theorem ffN_all {zs ds : List Int} {lo hi st : Int} : ∀ n, (∀ k, k < n → ffD zs ds lo hi st k = true) → ffN zs ds lo hi st n = true
  | 0, _ => rfl
  | n + 1, h => ffN_yes (ffN_all n fun k hk => h k (by omega)) (h n (by omega))
/-- Both bounds agree. -/
def loL (zs : List Int) (lo st : Int) : List Int := (List.range zs.length).map fun i => gL zs lo st i
def hiL (zs : List Int) (hi st : Int) : List Int := (List.range zs.length).map fun i => gH zs hi st i
theorem loL_len (zs : List Int) (lo st : Int) : (loL zs lo st).length = zs.length := by simp [loL]
theorem hiL_len (zs : List Int) (hi st : Int) : (hiL zs hi st).length = zs.length := by simp [hiL]
theorem loL_at {zs : List Int} {lo st : Int} {i : Nat} (h : i < zs.length) : (loL zs lo st).getD i 0 = gL zs lo st i := by simp [loL, List.getD_eq_getElem?_getD, h]
theorem hiL_at {zs : List Int} {hi st : Int} {i : Nat} (h : i < zs.length) : (hiL zs hi st).getD i 0 = gH zs hi st i := by simp [hiL, List.getD_eq_getElem?_getD, h]
theorem lo_fits {zs : List Int} {lo hi st : Int} (h : gOk zs lo hi st = true) : ffV zs (loL zs lo st) lo hi st = true := by
  obtain ⟨h1, h2⟩ := gOk_facts h
  obtain ⟨_, _, _, h0, _⟩ := gaB_facts h1
  rw [ffV, h1, loL_len, ffN_all _ fun k hk => ?_]
  · simp
  · refine ffD_of ?_
    rw [loL_at hk]
    have hb := g_bounds zs lo hi st k
    have ho := h2 k hk
    refine ⟨⟨hb.1, by omega⟩, ?_, ?_⟩
    · by_cases e : zs.getD k 0 = -9999
      · exact .inl e
      · right; have := g_known lo hi st hk e; omega
    · cases k with
      | zero => exact .inl rfl
      | succ k =>
        right
        rw [show k + 1 - 1 = k by omega, loL_at (show k < zs.length by omega)]
        have := gLo_lip zs lo h0 k zs.length
        unfold gL; omega
theorem hi_fits {zs : List Int} {lo hi st : Int} (h : gOk zs lo hi st = true) : ffV zs (hiL zs hi st) lo hi st = true := by
  obtain ⟨h1, h2⟩ := gOk_facts h
  obtain ⟨_, _, _, h0, _⟩ := gaB_facts h1
  rw [ffV, h1, hiL_len, ffN_all _ fun k hk => ?_]
  · simp
  · refine ffD_of ?_
    rw [hiL_at hk]
    have hb := g_bounds zs lo hi st k
    have ho := h2 k hk
    refine ⟨⟨by omega, hb.2⟩, ?_, ?_⟩
    · by_cases e : zs.getD k 0 = -9999
      · exact .inl e
      · right; have := g_known lo hi st hk e; omega
    · cases k with
      | zero => exact .inl rfl
      | succ k =>
        right
        rw [show k + 1 - 1 = k by omega, hiL_at (show k < zs.length by omega)]
        have := gHi_lip zs hi h0 k zs.length
        unfold gH; omega
/-- Days have no direction. -/
theorem rev_getD {zs : List Int} {j : Nat} (h : j < zs.length) : zs.reverse.getD j 0 = zs.getD (zs.length - 1 - j) 0 := by
  rw [List.getD_eq_getElem?_getD, List.getElem?_reverse h, ← List.getD_eq_getElem?_getD]
theorem gFar_rev {n i j : Nat} (hi : i < n) (hj : j < n) (st : Int) : gFar (n - 1 - j) (n - 1 - i) st = gFar j i st := by
  unfold gFar; congr 2; split <;> split <;> omega
theorem gL_rev {zs : List Int} (lo st : Int) {i : Nat} (hi : i < zs.length) : gL zs.reverse lo st i = gL zs lo st (zs.length - 1 - i) := by
  have key : ∀ b, gL zs.reverse lo st i ≤ b ↔ gL zs lo st (zs.length - 1 - i) ≤ b := fun b => by
    unfold gL
    rw [gLo_iff, gLo_iff, List.length_reverse]
    refine and_congr_right fun _ => ⟨fun h j hj hn => ?_, fun h j hj hn => ?_⟩
    · have := h (zs.length - 1 - j) (by omega) (by rw [rev_getD (by omega), show zs.length - 1 - (zs.length - 1 - j) = j by omega]; exact hn)
      rw [rev_getD (by omega), show zs.length - 1 - (zs.length - 1 - j) = j by omega] at this
      have e := gFar_rev (n := zs.length) (show i < zs.length from hi) (show zs.length - 1 - j < zs.length by omega) st
      rw [show zs.length - 1 - (zs.length - 1 - j) = j by omega] at e
      rw [e]; exact this
    · rw [rev_getD hj] at hn ⊢
      have := h (zs.length - 1 - j) (by omega) hn
      rw [gFar_rev hi hj] at this; exact this
  exact Int.le_antisymm ((key _).2 (Int.le_refl _)) ((key _).1 (Int.le_refl _))
theorem gH_rev {zs : List Int} (hi st : Int) {i : Nat} (hi' : i < zs.length) : gH zs.reverse hi st i = gH zs hi st (zs.length - 1 - i) := by
  have key : ∀ b, b ≤ gH zs.reverse hi st i ↔ b ≤ gH zs hi st (zs.length - 1 - i) := fun b => by
    unfold gH
    rw [gHi_iff, gHi_iff, List.length_reverse]
    refine and_congr_right fun _ => ⟨fun h j hj hn => ?_, fun h j hj hn => ?_⟩
    · have := h (zs.length - 1 - j) (by omega) (by rw [rev_getD (by omega), show zs.length - 1 - (zs.length - 1 - j) = j by omega]; exact hn)
      rw [rev_getD (by omega), show zs.length - 1 - (zs.length - 1 - j) = j by omega] at this
      have e := gFar_rev (n := zs.length) (show i < zs.length from hi') (show zs.length - 1 - j < zs.length by omega) st
      rw [show zs.length - 1 - (zs.length - 1 - j) = j by omega] at e
      rw [e]; exact this
    · rw [rev_getD hj] at hn ⊢
      have := h (zs.length - 1 - j) (by omega) hn
      rw [gFar_rev hi' hj] at this; exact this
  exact Int.le_antisymm ((key _).1 (Int.le_refl _)) ((key _).2 (Int.le_refl _))
theorem gaB_rev (zs : List Int) (lo hi st : Int) : gaB zs.reverse lo hi st = gaB zs lo hi st := by rw [gaB, gaB, sq_rev]
theorem gOk_rev {zs : List Int} {lo hi st : Int} (h : gOk zs lo hi st = true) : gOk zs.reverse lo hi st = true := by
  obtain ⟨h1, h2⟩ := gOk_facts h
  refine gOk_of (by rw [gaB_rev]; exact h1) fun i hi' => ?_
  rw [List.length_reverse] at hi'
  rw [gL_rev lo st hi', gH_rev hi st hi']
  exact h2 _ (by omega)
/-- One more value leaves less. -/
theorem g_more {zs : List Int} {lo hi st : Int} (h : gOk zs lo hi st = true) {k : Nat} (hk : k < zs.length) :
    gOk (zs.set k (gL zs lo st k)) lo hi st = true ∧ ∀ i, i < zs.length → gL zs lo st i ≤ gL (zs.set k (gL zs lo st k)) lo st i ∧ gH (zs.set k (gL zs lo st k)) hi st i ≤ gH zs hi st i := by
  obtain ⟨h1, h2⟩ := gOk_facts h
  have hf := lo_fits h
  obtain ⟨_, hl, hN⟩ := ffV_facts hf
  obtain ⟨hsq, ⟨hlo, hhi⟩, hlh, h0, h00⟩ := gaB_facts h1
  have hv : lo ≤ gL zs lo st k ∧ gL zs lo st k ≤ hi := by
    have := g_bounds zs lo hi st k
    have := h2 k hk
    omega
  have hset : ∀ j, j < zs.length → (zs.set k (gL zs lo st k)).getD j 0 = if j = k then gL zs lo st k else zs.getD j 0 := fun j hj => by
    by_cases e : j = k
    · subst e; simp [List.getD_eq_getElem?_getD, hj]
    · have e2 : k ≠ j := fun h => e h.symm
      simp [List.getD_eq_getElem?_getD, e, e2]
  have hq : sqB (zs.set k (gL zs lo st k)) = true := by
    obtain ⟨q1, q2, q3⟩ := sq_facts hsq
    refine sq_all ?_ (by rw [List.length_set]; exact ⟨q2, q3⟩)
    rw [List.all_eq_true]
    intro x hx
    rcases List.mem_or_eq_of_mem_set hx with h | rfl
    · exact List.all_eq_true.1 q1 x h
    · exact qB_of (.inr ⟨by omega, by omega⟩)
  have hga : gaB (zs.set k (gL zs lo st k)) lo hi st = true := by
    rw [gaB, hsq] at h1
    rw [gaB, hq]; exact h1
  have hff : ffV (zs.set k (gL zs lo st k)) (loL zs lo st) lo hi st = true := by
    rw [ffV, hga, List.length_set, loL_len, ffN_all _ fun j hj => ?_]
    · simp
    · obtain ⟨a, b, c⟩ := ffD_facts (ffN_at hN hj)
      refine ffD_of ⟨a, ?_, c⟩
      rw [hset j hj]
      split
      · rename_i e; right; rw [loL_at hj, e]
      · exact b
  refine ⟨ff_ok hff, fun i hi' => ⟨?_, ?_⟩⟩
  · refine (gLo_iff zs lo st i _ _).2 ⟨(g_bounds _ lo hi st i).1, fun j hj hn => ?_⟩
    have := (gLo_iff (zs.set k (gL zs lo st k)) lo st i _ _).1 (Int.le_refl (gL (zs.set k (gL zs lo st k)) lo st i))
    rw [List.length_set] at this
    have hz : (zs.set k (gL zs lo st k)).getD j 0 = zs.getD j 0 := by
      rw [hset j hj]; split
      · rename_i e; subst e; have := g_known lo hi st hj hn; have := h2 j hj; omega
      · rfl
    have := this.2 j hj (by rw [hz]; exact hn)
    rw [hz] at this; exact this
  · refine (gHi_iff zs hi st i _ _).2 ⟨(g_bounds _ lo hi st i).2, fun j hj hn => ?_⟩
    have := (gHi_iff (zs.set k (gL zs lo st k)) hi st i _ _).1 (Int.le_refl (gH (zs.set k (gL zs lo st k)) hi st i))
    rw [List.length_set] at this
    have hz : (zs.set k (gL zs lo st k)).getD j 0 = zs.getD j 0 := by
      rw [hset j hj]; split
      · rename_i e; subst e; have := g_known lo hi st hj hn; have := h2 j hj; omega
      · rfl
    have := this.2 j hj (by rw [hz]; exact hn)
    rw [hz] at this; exact this
/-- A greater step leaves more. -/
theorem gFar_step (j i : Nat) (st : Int) : gFar j i st ≤ gFar j i (st + 1) := by
  unfold gFar
  generalize (if j < i then i - j else j - i : Nat) = d
  rw [Int.mul_add, Int.mul_one]; omega
theorem g_step {zs : List Int} {lo hi st : Int} (i : Nat) : gL zs lo (st + 1) i ≤ gL zs lo st i ∧ gH zs hi st i ≤ gH zs hi (st + 1) i := by
  constructor
  · refine (gLo_iff zs lo (st + 1) i _ _).2 ⟨gLo_ge _ _ _ _ _, fun j hj hn => ?_⟩
    have := ((gLo_iff zs lo st i _ _).1 (Int.le_refl (gL zs lo st i))).2 j hj hn
    have := gFar_step j i st
    omega
  · refine (gHi_iff zs hi (st + 1) i _ _).2 ⟨gHi_le _ _ _ _ _, fun j hj hn => ?_⟩
    have := ((gHi_iff zs hi st i _ _).1 (Int.le_refl (gH zs hi st i))).2 j hj hn
    have := gFar_step j i st
    omega
theorem gOk_step {zs : List Int} {lo hi st : Int} (h : gOk zs lo hi st = true) (hs : st < 19999) : gOk zs lo hi (st + 1) = true := by
  obtain ⟨h1, h2⟩ := gOk_facts h
  refine gOk_of ?_ fun i hi' => ?_
  · have h3 := (gaB_facts h1).2.2.2.1
    simp only [gaB, inB, Bool.and_eq_true, decide_eq_true_eq] at h1 ⊢
    exact ⟨h1.1, h1.2.1, h1.2.2.1, h1.2.2.2.1, by omega, by omega⟩
  · have := g_step (zs := zs) (lo := lo) (hi := hi) (st := st) i
    have := h2 i hi'
    omega
/-- Values that agree, as a series. -/
theorem ff_self {zs ds : List Int} {lo hi st : Int} (h : ffV zs ds lo hi st = true) : ffV ds ds lo hi st = true ∧ ∀ i, i < ds.length → gL ds lo st i = ds.getD i 0 ∧ gH ds hi st i = ds.getD i 0 := by
  obtain ⟨h1, h2, h3⟩ := ffV_facts h
  obtain ⟨hsq, ⟨hlo, hhi⟩, hlh, h0, h00⟩ := gaB_facts h1
  obtain ⟨q1, q2, q3⟩ := sq_facts hsq
  have hb : ∀ i, i < ds.length → lo ≤ ds.getD i 0 ∧ ds.getD i 0 ≤ hi := fun i hi' => (ffD_facts (ffN_at h3 (show i < zs.length by omega))).1
  have hq : sqB ds = true := by
    refine sq_all ?_ (by omega)
    rw [List.all_eq_true]
    intro x hx
    obtain ⟨i, hi', rfl⟩ := List.getElem_of_mem hx
    have := hb i hi'
    rw [show ds.getD i 0 = ds[i] by simp [List.getD_eq_getElem?_getD, hi']] at this
    exact qB_of (.inr ⟨by omega, by omega⟩)
  have hga : gaB ds lo hi st = true := by
    rw [gaB, hsq] at h1
    rw [gaB, hq]; exact h1
  have hf : ffV ds ds lo hi st = true := by
    rw [ffV, hga, ffN_all _ fun j hj => ?_]
    · simp
    · obtain ⟨a, b, c⟩ := ffD_facts (ffN_at h3 (show j < zs.length by omega))
      exact ffD_of ⟨a, .inr rfl, c⟩
  refine ⟨hf, fun i hi' => ?_⟩
  have a := ff_in hf hi'
  have b := g_known lo hi st hi' (show ds.getD i 0 ≠ -9999 by have := hb i hi'; omega)
  omega
end Go.Proofs.Ytkiibklenpncpaa
