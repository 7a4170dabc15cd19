/- Adjustments: mathematics. 'prt': the part of a day; 'adL': values with steps; 'asl': the steps; 'bk': what has been reckoned when some parts have come. -/
import Derived.Test.YtehjjoalnfpgdaaKx
namespace Go.Proofs.Ytehjjoalnfpgdaa
open Go.RowKit
set_option linter.unusedVariables false

def prt (cs : List Int) (i : Int) : Nat := cs.countP (fun c => decide (c ≤ i))
def ajB (zs cs : List Int) : Bool := shB zs && ctB cs zs.length
theorem ajB_facts {zs cs : List Int} (h : ajB zs cs = true) : shB zs = true ∧ ctB cs zs.length = true := by
  rw [ajB, Bool.and_eq_true] at h; exact h
theorem ajB_cc {zs cs : List Int} (h : ajB zs cs = true) : ccB zs cs 0 = true := by
  obtain ⟨h1, h2⟩ := ajB_facts h
  rw [ccB, h1, h2]; rfl
theorem ajB_len {zs cs : List Int} (h : ajB zs cs = true) : 1 ≤ zs.length ∧ zs.length ≤ 8 ∧ cs.length < zs.length := by
  obtain ⟨a, b, c, _⟩ := cc_len (ajB_cc h)
  exact ⟨a, b, c⟩
/-- Where part k begins and ends. -/
def pS (cs : List Int) (k : Nat) : Nat := (ctP cs k).toNat
def pE (zs cs : List Int) (k : Nat) : Nat := if k < cs.length then (cs.getD k 0).toNat else zs.length
theorem pS_zero (cs : List Int) : pS cs 0 = 0 := rfl
theorem pS_succ {zs cs : List Int} {k : Nat} (hk : k < cs.length) : pS cs (k + 1) = pE zs cs k := by
  rw [pS, ctP_succ, pE, if_pos hk]
theorem pE_last (zs cs : List Int) : pE zs cs cs.length = zs.length := by rw [pE, if_neg (Nat.lt_irrefl _)]
theorem p_bd {zs cs : List Int} (h : ajB zs cs = true) {k : Nat} (hk : k ≤ cs.length) : (ctP cs k = (pS cs k : Int)) ∧ pS cs k < pE zs cs k ∧ pE zs cs k ≤ zs.length ∧ (k < cs.length → cs.getD k 0 = (pE zs cs k : Int) ∧ pE zs cs k < zs.length) := by
  have h2 := ajB_cc h
  by_cases hlt : k < cs.length
  · obtain ⟨p, q, v, e1, e2, e3, h1, h3, _⟩ := cc_step h2 hlt
    rw [pE, if_pos hlt, pS, e1, e2]
    simp only [Int.toNat_natCast]
    exact ⟨trivial, h1, by omega, fun _ => ⟨trivial, h3⟩⟩
  · obtain rfl : k = cs.length := by omega
    obtain ⟨p, v, e1, h1, _⟩ := cc_last h2
    rw [pE, if_neg hlt, pS, e1]
    simp only [Int.toNat_natCast]
    exact ⟨trivial, h1, Nat.le_refl _, fun h => absurd h hlt⟩
theorem ct_at_le {cs : List Int} {n : Int} (h : ctB cs n = true) {i j : Nat} (hij : i ≤ j) (hj : j < cs.length) : cs.getD i 0 ≤ cs.getD j 0 := by
  rcases Nat.lt_or_eq_of_le hij with h1 | rfl
  · exact Int.le_of_lt (ct_mono h h1 hj)
  · exact Int.le_refl _
theorem prt_in {zs cs : List Int} (h : ajB zs cs = true) {k : Nat} (hk : k ≤ cs.length) {i : Nat} (h1 : pS cs k ≤ i) (h2 : i < pE zs cs k) : prt cs (i : Int) = k := by
  obtain ⟨e1, _, e3, e4⟩ := p_bd h hk
  have hc := (ajB_facts h).2
  have hsplit : cs = cs.take k ++ cs.drop k := (List.take_append_drop k cs).symm
  have hA : (cs.take k).countP (fun c => decide (c ≤ (i : Int))) = k := by
    have hl : (cs.take k).length = k := by rw [List.length_take]; omega
    have : (cs.take k).countP (fun c => decide (c ≤ (i : Int))) = (cs.take k).length := by
      rw [List.countP_eq_length]
      intro c hcm
      obtain ⟨j, hj, rfl⟩ := List.mem_iff_getElem.1 hcm
      rw [hl] at hj
      have hle := ct_at_le hc (i := j) (j := k - 1) (by omega) (by omega)
      have hck : ctP cs k = cs.getD (k - 1) 0 := by rw [ctP, if_neg (by omega)]
      have : (cs.take k)[j] = cs.getD j 0 := by simp [List.getD_eq_getElem?_getD, show j < cs.length by omega]
      rw [this]
      simp only [decide_eq_true_eq]
      omega
    rw [this, hl]
  have hB : (cs.drop k).countP (fun c => decide (c ≤ (i : Int))) = 0 := by
    rw [List.countP_eq_zero]
    intro c hcm
    obtain ⟨j, hj, rfl⟩ := List.mem_iff_getElem.1 hcm
    rw [List.length_drop] at hj
    have hle := ct_at_le hc (i := k) (j := k + j) (by omega) (by omega)
    have : (cs.drop k)[j] = cs.getD (k + j) 0 := by simp [List.getD_eq_getElem?_getD, show k + j < cs.length by omega]
    rw [this]
    have := (e4 (by omega)).1
    simp only [decide_eq_true_eq]
    omega
  rw [prt, hsplit, List.countP_append, hA, hB]
  simp
theorem prt_le {zs cs : List Int} (h : ajB zs cs = true) (i : Int) : prt cs i ≤ cs.length := List.countP_le_length
/-- Each day lies in a part. -/
theorem day_in {zs cs : List Int} (h : ajB zs cs = true) : ∀ k, k ≤ cs.length → ∀ i, i < pE zs cs k → ∃ j, j ≤ k ∧ pS cs j ≤ i ∧ i < pE zs cs j
  | 0, _, i, hi => ⟨0, Nat.le_refl _, Nat.zero_le _, hi⟩
  | k + 1, hk, i, hi => by
    by_cases hp : pS cs (k + 1) ≤ i
    · exact ⟨k + 1, Nat.le_refl _, hp, hi⟩
    · rw [pS_succ (zs := zs) (by omega)] at hp
      obtain ⟨j, h1, h2, h3⟩ := day_in h k (by omega) i (by omega)
      exact ⟨j, by omega, h2, h3⟩
/-- Values with steps. -/
def adL (zs cs st : List Int) : List Int := (List.range zs.length).map fun i => zs.getD i 0 + st.getD (prt cs (i : Int)) 0
theorem adL_len (zs cs st : List Int) : (adL zs cs st).length = zs.length := by simp [adL]
theorem adL_at {zs cs st : List Int} {i : Nat} (h : i < zs.length) : (adL zs cs st).getD i 0 = zs.getD i 0 + st.getD (prt cs (i : Int)) 0 := by
  simp [adL, List.getD_eq_getElem?_getD, h]
theorem adL_snoc {zs cs st : List Int} {i : Nat} (h : i < zs.length) : (adL zs cs st).take (i + 1) = (adL zs cs st).take i ++ [zs.getD i 0 + st.getD (prt cs (i : Int)) 0] := by
  rw [List.take_succ_eq_append_getElem (by rw [adL_len]; exact h), ← adL_at h]
  simp [List.getD_eq_getElem?_getD, adL_len, h]
theorem getD_ext {A B : List Int} (h : A.length = B.length) (h2 : ∀ i, i < A.length → A.getD i 0 = B.getD i 0) : A = B := by
  apply List.ext_getElem h
  intro i h3 h4
  have := h2 i h3
  simpa [List.getD_eq_getElem?_getD, h3, h4] using this
theorem map_getD (f : Int → Int) {L : List Int} {i : Nat} (h : i < L.length) : (L.map f).getD i 0 = f (L.getD i 0) := by
  simp [List.getD_eq_getElem?_getD, h]
/-- A part with its step. -/
theorem adL_seg {zs cs st : List Int} (h : ajB zs cs = true) {k : Nat} (hk : k ≤ cs.length) : seg (adL zs cs st) (pS cs k) (pE zs cs k) = (seg zs (pS cs k) (pE zs cs k)).map (· + st.getD k 0) := by
  obtain ⟨_, h1, h2, _⟩ := p_bd h hk
  have l1 : (seg (adL zs cs st) (pS cs k) (pE zs cs k)).length = pE zs cs k - pS cs k := seg_len _ (by omega) (by rw [adL_len]; exact h2)
  have l2 : (seg zs (pS cs k) (pE zs cs k)).length = pE zs cs k - pS cs k := seg_len _ (by omega) h2
  apply getD_ext
  · rw [l1, List.length_map, l2]
  · intro i hi
    rw [l1] at hi
    rw [seg_at _ hi, adL_at (by omega), map_getD _ (by rw [l2]; exact hi), seg_at _ hi, prt_in h hk (by omega) (by omega)]
theorem take_seg {L : List Int} {p q : Nat} (h : p ≤ q) : L.take q = L.take p ++ seg L p q := by
  rw [seg, ← List.take_add, Nat.add_sub_of_le h]
theorem adL_take {zs cs st : List Int} (h : ajB zs cs = true) {k : Nat} (hk : k ≤ cs.length) : (adL zs cs st).take (pE zs cs k) = (adL zs cs st).take (pS cs k) ++ (seg zs (pS cs k) (pE zs cs k)).map (· + st.getD k 0) := by
  rw [take_seg (Nat.le_of_lt (p_bd h hk).2.1), adL_seg h hk]
/-- The median of a part. -/
def mdP (zs cs : List Int) (k : Nat) : Int := mdL (seg zs (pS cs k) (pE zs cs k))
theorem seg_p {zs cs : List Int} (h : ajB zs cs = true) {k : Nat} (hk : k ≤ cs.length) : shB (seg zs (pS cs k) (pE zs cs k)) = true ∧ (seg zs (pS cs k) (pE zs cs k)).length = pE zs cs k - pS cs k := by
  obtain ⟨_, h1, h2, _⟩ := p_bd h hk
  exact ⟨seg_sh (ajB_facts h).1 h1 h2, seg_len _ (by omega) h2⟩
theorem mdP_bd {zs cs : List Int} (h : ajB zs cs = true) {k : Nat} (hk : k ≤ cs.length) : -999 ≤ mdP zs cs k ∧ mdP zs cs k ≤ 10999 := by
  obtain ⟨_, _, a, b⟩ := sh_mo (seg_p h hk).1
  exact ⟨a, b⟩
/-- The steps. -/
def asl (zs cs : List Int) : List Int := (List.range (cs.length + 1)).map fun j => mdP zs cs cs.length - mdP zs cs j
theorem asl_len (zs cs : List Int) : (asl zs cs).length = cs.length + 1 := by simp [asl]
theorem asl_at {zs cs : List Int} {j : Nat} (h : j ≤ cs.length) : (asl zs cs).getD j 0 = mdP zs cs cs.length - mdP zs cs j := by
  have h2 : j < cs.length + 1 := by omega
  simp [asl, List.getD_eq_getElem?_getD, h2]
theorem asl_last (zs cs : List Int) : (asl zs cs).getD cs.length 0 = 0 := by rw [asl_at (Nat.le_refl _)]; omega
def asL (zs cs : List Int) : List Int := if ajB zs cs = true then asl zs cs else []
theorem asL_yes {zs cs : List Int} (h : ajB zs cs = true) : asL zs cs = asl zs cs := by rw [asL, if_pos h]
theorem asL_no {zs cs : List Int} (h : ajB zs cs = false) : asL zs cs = [] := by rw [asL, if_neg (by rw [h]; simp)]
/-- Adjusted values. -/
def aoB (zs cs : List Int) : Bool := ajB zs cs && shB (adL zs cs (asl zs cs))
def aoL (zs cs : List Int) : List Int := if aoB zs cs = true then adL zs cs (asl zs cs) else []
theorem aoB_facts {zs cs : List Int} (h : aoB zs cs = true) : ajB zs cs = true ∧ shB (adL zs cs (asl zs cs)) = true := by
  rw [aoB, Bool.and_eq_true] at h; exact h
theorem aoB_no {zs cs : List Int} (h : ajB zs cs = false) : aoB zs cs = false := by rw [aoB, h]; rfl
theorem aoB_sh {zs cs : List Int} (h : ajB zs cs = true) : aoB zs cs = shB (adL zs cs (asl zs cs)) := by rw [aoB, h]; rfl
theorem aoL_yes {zs cs : List Int} (h : aoB zs cs = true) : aoL zs cs = adL zs cs (asl zs cs) := by rw [aoL, if_pos h]
theorem aoL_no {zs cs : List Int} (h : aoB zs cs = false) : aoL zs cs = [] := by rw [aoL, if_neg (by rw [h]; simp)]
/-- Values before steps. -/
def ngL (st : List Int) : List Int := st.map (fun x => -x)
theorem ngL_len (st : List Int) : (ngL st).length = st.length := by simp [ngL]
theorem ngL_at (st : List Int) (j : Nat) : (ngL st).getD j 0 = -(st.getD j 0) := by
  by_cases h : j < st.length <;> simp [ngL, List.getD_eq_getElem?_getD, h]
def stA (st : List Int) : Bool := st.all fun x => inB x (-19999) 19999
def abG (zs cs st : List Int) : Bool := ajB zs cs && (decide (st.length = cs.length + 1) && stA st)
def abB (zs cs st : List Int) : Bool := abG zs cs st && shB (adL zs cs (ngL st))
def abL (zs cs st : List Int) : List Int := if abB zs cs st = true then adL zs cs (ngL st) else []
theorem abG_facts {zs cs st : List Int} (h : abG zs cs st = true) : ajB zs cs = true ∧ st.length = cs.length + 1 ∧ stA st = true := by
  rw [abG, Bool.and_eq_true, Bool.and_eq_true, decide_eq_true_eq] at h; exact h
theorem abG_of {zs cs st : List Int} (h : ajB zs cs = true) (h2 : st.length = cs.length + 1) (h3 : stA st = true) : abG zs cs st = true := by
  rw [abG, h, h3, decide_eq_true h2]; rfl
theorem abB_no {zs cs st : List Int} (h : abG zs cs st = false) : abB zs cs st = false := by rw [abB, h]; rfl
theorem abB_sh {zs cs st : List Int} (h : abG zs cs st = true) : abB zs cs st = shB (adL zs cs (ngL st)) := by rw [abB, h]; rfl
theorem abB_facts {zs cs st : List Int} (h : abB zs cs st = true) : abG zs cs st = true ∧ shB (adL zs cs (ngL st)) = true := by
  rw [abB, Bool.and_eq_true] at h; exact h
theorem abL_yes {zs cs st : List Int} (h : abB zs cs st = true) : abL zs cs st = adL zs cs (ngL st) := by rw [abL, if_pos h]
theorem abL_no {zs cs st : List Int} (h : abB zs cs st = false) : abL zs cs st = [] := by rw [abL, if_neg (by rw [h]; simp)]
theorem stA_at {st : List Int} (h : stA st = true) {j : Nat} (hj : j < st.length) : -19999 ≤ st.getD j 0 ∧ st.getD j 0 ≤ 19999 := by
  have h1 := List.all_eq_true.1 h (st.getD j 0) (by simp [List.getD_eq_getElem?_getD, hj])
  simpa [inB] using h1
theorem stA_take {st : List Int} {k : Nat} (h : (st.take k).all (fun x => inB x (-19999) 19999) = true) (hk : k < st.length) (h2 : inB (st.getD k 0) (-19999) 19999 = true) : (st.take (k + 1)).all (fun x => inB x (-19999) 19999) = true := by
  rw [List.take_succ_eq_append_getElem hk, List.all_append, h]
  simp only [List.getD_eq_getElem?_getD, hk, List.getElem?_eq_getElem, Option.getD_some] at h2
  simp [h2]
theorem stA_not {st : List Int} {k : Nat} (hk : k < st.length) (h2 : inB (st.getD k 0) (-19999) 19999 = false) : stA st = false := by
  rw [stA, List.all_eq_false]
  exact ⟨st.getD k 0, by simp [List.getD_eq_getElem?_getD, hk], by rw [h2]; simp⟩
/-! What stepsOf has reckoned when parts have come. -/
def bkS (M : Int) (D : Nat → Int) (m : Nat) (s : Int × List Int) (x : Nat) : Int × List Int :=
  if m - 1 - x + 1 = m then (M, s.2) else (s.1, s.2.set (m - 1 - x) (s.1 - D (m - 1 - x)))
def bk (M : Int) (D : Nat → Int) (m : Nat) (pre : List Nat) : Int × List Int := pre.foldl (bkS M D m) (0, List.replicate m 0)
theorem bk_nil (M : Int) (D : Nat → Int) (m : Nat) : bk M D m [] = (0, List.replicate m 0) := rfl
theorem bk_snoc (M : Int) (D : Nat → Int) (m : Nat) (pre : List Nat) (x : Nat) : bk M D m (pre ++ [x]) = bkS M D m (bk M D m pre) x := by simp [bk]
theorem bk_inv (M : Int) (D : Nat → Int) (m : Nat) (pre : List Nat) : (bk M D m pre).2.length = m ∧ ((bk M D m pre).1 = 0 ∨ (bk M D m pre).1 = M) := by
  suffices h : ∀ (pre : List Nat) (s : Int × List Int), s.2.length = m → (s.1 = 0 ∨ s.1 = M) → (pre.foldl (bkS M D m) s).2.length = m ∧ ((pre.foldl (bkS M D m) s).1 = 0 ∨ (pre.foldl (bkS M D m) s).1 = M) from
    h pre _ (by simp) (.inl rfl)
  intro pre
  induction pre with
  | nil => intro s h1 h2; exact ⟨h1, h2⟩
  | cons x pre ih =>
    intro s h1 h2
    rw [List.foldl_cons]
    apply ih
    · unfold bkS; split
      · exact h1
      · rw [List.length_set]; exact h1
    · unfold bkS; split
      · exact .inr rfl
      · exact h2
theorem bk_range {M : Int} {D : Nat → Int} {m : Nat} (hm : 1 ≤ m) (hD : D (m - 1) = M) : ∀ k, k + 1 ≤ m → (bk M D m (List.range (k + 1))).1 = M ∧ ∀ i, i < m → (bk M D m (List.range (k + 1))).2.getD i 0 = if m - 1 - k ≤ i then M - D i else 0
  | 0, _ => by
    rw [List.range_succ, List.range_zero, bk_snoc, bk_nil, bkS, if_pos (by omega)]
    refine ⟨rfl, fun i hi => ?_⟩
    simp only [Nat.sub_zero]
    by_cases h : m - 1 ≤ i
    · obtain rfl : i = m - 1 := by omega
      rw [if_pos (Nat.le_refl _), hD]
      simp [List.getD_eq_getElem?_getD, hi]
    · rw [if_neg h]
      simp [List.getD_eq_getElem?_getD, hi]
  | k + 1, hk => by
    obtain ⟨h1, h2⟩ := bk_range (D := D) hm hD k (by omega)
    have hl := (bk_inv M D m (List.range (k + 1))).1
    rw [List.range_succ, bk_snoc, bkS, if_neg (by omega)]
    refine ⟨h1, fun i hi => ?_⟩
    simp only
    rw [h1]
    by_cases h : i = m - 1 - (k + 1)
    · subst h
      rw [if_pos (Nat.le_refl _)]
      simp [List.getD_eq_getElem?_getD, hl, hi]
    · have h3 := h2 i hi
      have h4 : m - 1 - (k + 1) ≠ i := fun e => h e.symm
      have e : ((bk M D m (List.range (k + 1))).2.set (m - 1 - (k + 1)) (M - D (m - 1 - (k + 1)))).getD i 0 = (bk M D m (List.range (k + 1))).2.getD i 0 := by
        simp [List.getD_eq_getElem?_getD, h4]
      rw [e, h3]
      by_cases h5 : m - 1 - k ≤ i
      · rw [if_pos h5, if_pos (by omega)]
      · rw [if_neg h5, if_neg (by omega)]
theorem bk_all (zs cs : List Int) : (bk (mdP zs cs cs.length) (mdP zs cs) (cs.length + 1) (List.range (cs.length + 1))).2 = asl zs cs := by
  obtain ⟨_, h2⟩ := bk_range (M := mdP zs cs cs.length) (D := mdP zs cs) (m := cs.length + 1) (by omega) (by simp) cs.length (Nat.le_refl _)
  apply getD_ext
  · rw [(bk_inv _ _ _ _).1, asl_len]
  · intro i hi
    rw [(bk_inv _ _ _ _).1] at hi
    rw [h2 i hi, if_pos (by omega), asl_at (by omega)]
end Go.Proofs.Ytehjjoalnfpgdaa
