/- Adjustments: what the laws say, of lists. -/
import Derived.Test.YtehjjoalnfpgdaaAj
namespace Go.Proofs.Ytehjjoalnfpgdaa
open Go.RowKit
set_option linter.unusedVariables false

theorem pE_congr {A B : List Int} (cs : List Int) (k : Nat) (h : A.length = B.length) : pE A cs k = pE B cs k := by unfold pE; rw [h]
theorem ajB_ad {zs cs st : List Int} (h : ajB zs cs = true) (hs : shB (adL zs cs st) = true) : ajB (adL zs cs st) cs = true := by
  rw [ajB, hs, adL_len, (ajB_facts h).2]; rfl
theorem mdP_ad {zs cs st : List Int} (h : ajB zs cs = true) {k : Nat} (hk : k ≤ cs.length) : mdP (adL zs cs st) cs k = mdP zs cs k + st.getD k 0 := by
  have hp := (p_bd h hk).2.1
  unfold mdP
  rw [pE_congr cs k (adL_len zs cs st), adL_seg h hk, mdL_add (by rw [(seg_p h hk).2]; omega)]
theorem mdP_ao {zs cs : List Int} (h : ajB zs cs = true) {k : Nat} (hk : k ≤ cs.length) : mdP (adL zs cs (asl zs cs)) cs k = mdP zs cs cs.length := by
  rw [mdP_ad h hk, asl_at hk]; omega
theorem zeros_at (n j : Nat) : (List.replicate n (0 : Int)).getD j 0 = 0 := by
  by_cases h : j < n <;> simp [List.getD_eq_getElem?_getD, h]
theorem asl_ao {zs cs : List Int} (h : ajB zs cs = true) : asl (adL zs cs (asl zs cs)) cs = List.replicate (cs.length + 1) 0 := by
  apply getD_ext
  · rw [asl_len, List.length_replicate]
  · intro i hi
    rw [asl_len] at hi
    rw [asl_at (by omega), mdP_ao h (Nat.le_refl _), mdP_ao h (by omega), zeros_at]; omega
theorem adL_zero (zs cs : List Int) (n : Nat) : adL zs cs (List.replicate n 0) = zs := by
  apply getD_ext (adL_len _ _ _)
  intro i hi
  rw [adL_len] at hi
  rw [adL_at hi, zeros_at]; omega
theorem adL_back (zs cs st : List Int) : adL (adL zs cs st) cs (ngL st) = zs := by
  apply getD_ext (by rw [adL_len, adL_len])
  intro i hi
  rw [adL_len, adL_len] at hi
  rw [adL_at (by rw [adL_len]; exact hi), adL_at hi, ngL_at]; omega
theorem ngL_ng (st : List Int) : ngL (ngL st) = st := by
  apply getD_ext (by rw [ngL_len, ngL_len])
  intro i _
  rw [ngL_at, ngL_at]; omega
theorem ao_yes {zs cs : List Int} (h : aoB zs cs = true) : ajB zs cs = true ∧ shB (aoL zs cs) = true ∧ (aoL zs cs).length = zs.length ∧ ajB (aoL zs cs) cs = true ∧ (∀ k, k ≤ cs.length → mdP (aoL zs cs) cs k = mdP zs cs cs.length) := by
  obtain ⟨h1, h2⟩ := aoB_facts h
  rw [aoL_yes h]
  exact ⟨h1, h2, adL_len _ _ _, ajB_ad h1 h2, fun k hk => mdP_ao h1 hk⟩
theorem ao_twice {zs cs : List Int} (h : aoB zs cs = true) : aoB (aoL zs cs) cs = true ∧ aoL (aoL zs cs) cs = aoL zs cs ∧ ajB (aoL zs cs) cs = true ∧ asL (aoL zs cs) cs = List.replicate (cs.length + 1) 0 := by
  obtain ⟨h1, h2⟩ := aoB_facts h
  have h3 := ajB_ad h1 h2
  have h4 := asl_ao h1
  rw [aoL_yes h]
  have h5 : aoB (adL zs cs (asl zs cs)) cs = true := by rw [aoB_sh h3, h4, adL_zero]; exact h2
  refine ⟨h5, ?_, h3, ?_⟩
  · rw [aoL_yes h5, h4, adL_zero]
  · rw [asL_yes h3, h4]
theorem stA_of {st : List Int} (h : ∀ j, j < st.length → -19999 ≤ st.getD j 0 ∧ st.getD j 0 ≤ 19999) : stA st = true := by
  rw [stA, List.all_eq_true]
  intro x hx
  obtain ⟨j, hj, rfl⟩ := List.mem_iff_getElem.1 hx
  have := h j hj
  simp only [List.getD_eq_getElem?_getD, hj, List.getElem?_eq_getElem, Option.getD_some] at this
  simp [inB, this]
theorem asl_st {zs cs : List Int} (h : ajB zs cs = true) : stA (asl zs cs) = true := stA_of fun j hj => by
  rw [asl_len] at hj
  rw [asl_at (by omega)]
  have h1 := mdP_bd h (k := cs.length) (Nat.le_refl _)
  have h2 := mdP_bd h (k := j) (by omega)
  omega
theorem ao_back {zs cs : List Int} (h : aoB zs cs = true) : abB (aoL zs cs) cs (asL zs cs) = true ∧ abL (aoL zs cs) cs (asL zs cs) = zs := by
  obtain ⟨h1, h2⟩ := aoB_facts h
  have h3 := ajB_ad h1 h2
  rw [aoL_yes h, asL_yes h1]
  have h4 : abB (adL zs cs (asl zs cs)) cs (asl zs cs) = true := by
    rw [abB_sh (abG_of h3 (asl_len zs cs) (asl_st h1)), adL_back]; exact (ajB_facts h1).1
  exact ⟨h4, by rw [abL_yes h4, adL_back]⟩
theorem ajB_nil {zs : List Int} (h : shB zs = true) : ajB zs [] = true := by
  obtain ⟨h1, h2, _⟩ := shB_facts h
  have h3 := (sq_facts h1).2
  rw [ajB, h, ctB]
  have : inB (zs.length : Int) 1 8 = true := by simp [inB]; omega
  rw [this]; rfl
theorem ao_none {zs : List Int} (h : shB zs = true) : aoB zs [] = true ∧ aoL zs [] = zs := by
  have h1 := ajB_nil h
  have h2 : asl zs [] = List.replicate 1 0 := by
    apply getD_ext (by rw [asl_len]; rfl)
    intro i hi
    rw [asl_len] at hi
    simp only [List.length_nil] at hi
    obtain rfl : i = 0 := by omega
    rw [asl_at (cs := []) (j := 0) (Nat.zero_le _), zeros_at]
    simp
  have h3 : aoB zs [] = true := by rw [aoB_sh h1, h2, adL_zero]; exact h
  exact ⟨h3, by rw [aoL_yes h3, h2, adL_zero]⟩
theorem pc_ad {zs cs st : List Int} (h : ajB zs cs = true) (hs : shB (adL zs cs st) = true) {k : Nat} (hk : k ≤ cs.length) : pcV (seg (adL zs cs st) (pS cs k) (pE zs cs k)) = pcV (seg zs (pS cs k) (pE zs cs k)) := by
  have h3 := ajB_ad h hs
  have e1 := (seg_p h3 hk).1
  rw [pE_congr cs k (adL_len zs cs st)] at e1
  have hp := (p_bd h hk).2.1
  rw [pcV_S e1, pcV_S (seg_p h hk).1, adL_seg h hk, mdL_add (by rw [(seg_p h hk).2]; omega), pcS_add]
theorem ccN_ad {zs cs st : List Int} (h : ajB zs cs = true) (hs : shB (adL zs cs st) = true) : ∀ k, k ≤ cs.length → ccN (adL zs cs st) cs k = ccN zs cs k
  | 0, _ => rfl
  | k + 1, hk => by
    have h9 := pc_ad h hs (k := k) (by omega)
    rw [pE, if_pos (show k < cs.length by omega), pS] at h9
    rw [ccN, ccN, ccN_ad h hs k (by omega), h9]
theorem cc_ad {zs cs st : List Int} (h : ajB zs cs = true) (hs : shB (adL zs cs st) = true) (price : Int) : ccV (adL zs cs st) cs price = ccV zs cs price := by
  have h9 := pc_ad h hs (k := cs.length) (Nat.le_refl _)
  rw [pE_last, pS] at h9
  have hB : ccB (adL zs cs st) cs price = ccB zs cs price := by
    rw [ccB, ccB, hs, (ajB_facts h).1, adL_len]
  unfold ccV
  rw [hB, ccR, ccR, ccN_ad h hs _ (Nat.le_refl _), adL_len, h9]
theorem cc_ao {zs cs : List Int} (h : aoB zs cs = true) (price : Int) : ccV (aoL zs cs) cs price = ccV zs cs price := by
  obtain ⟨h1, h2⟩ := aoB_facts h
  rw [aoL_yes h]; exact cc_ad h1 h2 price
/-- Taken back, then turned. -/
theorem ab_turn {zs cs st : List Int} (h : abB zs cs st = true) : abB (abL zs cs st) cs (ngL st) = true ∧ abL (abL zs cs st) cs (ngL st) = zs ∧ (abL zs cs st).length = zs.length ∧ (∀ i, i < zs.length → (abL zs cs st).getD i 0 = zs.getD i 0 - st.getD (prt cs (i : Int)) 0) := by
  obtain ⟨h1, h2⟩ := abB_facts h
  obtain ⟨h3, h4, h5⟩ := abG_facts h1
  rw [abL_yes h]
  have h6 : adL (adL zs cs (ngL st)) cs (ngL (ngL st)) = zs := adL_back zs cs (ngL st)
  have h7 : abB (adL zs cs (ngL st)) cs (ngL st) = true := by
    rw [abB_sh (abG_of (ajB_ad h3 h2) (by rw [ngL_len]; exact h4) (stA_of fun j hj => by rw [ngL_len] at hj; rw [ngL_at]; have := stA_at h5 hj; omega)), h6]
    exact (ajB_facts h3).1
  refine ⟨h7, by rw [abL_yes h7, h6], adL_len _ _ _, fun i hi => ?_⟩
  rw [adL_at hi, ngL_at]; omega
theorem prt_zero {zs cs : List Int} (h : ajB zs cs = true) : prt cs 0 = 0 := by
  have h1 := (p_bd h (k := 0) (Nat.zero_le _)).2.1
  exact prt_in h (Nat.zero_le _) (Nat.le_refl _) (by rw [pS_zero] at h1; exact h1)
/-- The part of the next day. -/
theorem prt_next {zs cs : List Int} (h : ajB zs cs = true) (i : Int) : prt cs i = prt cs (i - 1) + (if i ∈ cs then 1 else 0) := by
  have hpw := ct_asc (ajB_facts h).2
  clear h
  unfold prt
  induction cs with
  | nil => simp
  | cons c cs ih =>
    rw [List.pairwise_cons] at hpw
    have ih := ih hpw.2
    rw [List.countP_cons, List.countP_cons, ih]
    by_cases h1 : c = i
    · subst h1
      have hn : c ∉ cs := fun hm => by have := hpw.1 c hm; omega
      simp [hn]; omega
    · have e1 : (decide (c ≤ i)) = decide (c ≤ i - 1) := by
        rw [decide_eq_decide]; omega
      have e2 : (i ∈ c :: cs) ↔ i ∈ cs := by
        rw [List.mem_cons]
        exact ⟨fun h => h.resolve_left (fun e => h1 e.symm), .inr⟩
      rw [e1]
      by_cases h3 : i ∈ cs
      · rw [if_pos h3, if_pos (e2.2 h3)]; omega
      · rw [if_neg h3, if_neg (fun h => h3 (e2.1 h))]; omega
end Go.Proofs.Ytehjjoalnfpgdaa
