/- A heap of sites by a key: what sifting up and sifting down keep. -/
import Derived.Test.YtpgdbhafdnfhcaaSi
namespace Go.Proofs.Ytpgdbhafdnfhcaa
open Go.RowKit
set_option linter.unusedVariables false

theorem getD_set (H : List R3) (i j : Nat) (x : R3) (hi : i < H.length) : (H.set i x).getD j t0 = if j = i then x else H.getD j t0 := by
  by_cases e : j = i
  · subst e; simp [List.getD_eq_getElem?_getD, hi]
  · have e2 : i ≠ j := fun h => e h.symm
    simp [List.getD_eq_getElem?_getD, e, e2]
/-- Sites i and j exchanged. -/
def swp (H : List R3) (i j : Nat) : List R3 := (H.set i (H.getD j t0)).set j (H.getD i t0)
theorem swp_len (H : List R3) (i j : Nat) : (swp H i j).length = H.length := by simp [swp]
theorem swp_at (H : List R3) {i j : Nat} (hi : i < H.length) (hj : j < H.length) (m : Nat) : (swp H i j).getD m t0 = if m = j then H.getD i t0 else if m = i then H.getD j t0 else H.getD m t0 := by
  rw [swp, getD_set _ _ _ _ (by simpa using hj), getD_set _ _ _ _ hi]
theorem swp_perm (H : List R3) {i j : Nat} (hi : i < H.length) (hj : j < H.length) : (swp H i j).Perm H := by
  have e1 : H.getD i t0 = H[i] := by simp [List.getD_eq_getElem?_getD, hi]
  have e2 : H.getD j t0 = H[j] := by simp [List.getD_eq_getElem?_getD, hj]
  rw [swp, e1, e2]
  exact List.set_set_perm hi hj
/-- A heap by key k. -/
def hp (k : R3 → Int) (H : List R3) : Prop := ∀ i, 0 < i → i < H.length → k (H.getD ((i - 1) / 2) t0) ≤ k (H.getD i t0)
/-- A heap but for site j, which may be too low. -/
def upI (k : R3 → Int) (H : List R3) (j : Nat) : Prop :=
  (∀ i, 0 < i → i < H.length → i ≠ j → k (H.getD ((i - 1) / 2) t0) ≤ k (H.getD i t0)) ∧ (0 < j → ∀ i, 0 < i → i < H.length → (i - 1) / 2 = j → k (H.getD ((j - 1) / 2) t0) ≤ k (H.getD i t0))
theorem upI_push {k : R3 → Int} {H : List R3} (h : hp k H) (r : R3) : upI k (H ++ [r]) H.length := by
  have e : ∀ i, i < H.length → (H ++ [r]).getD i t0 = H.getD i t0 := fun i hi => by
    rw [List.getD_eq_getElem?_getD, List.getElem?_append_left hi, List.getD_eq_getElem?_getD]
  refine ⟨fun i h0 hi hne => ?_, fun h0 i h1 hi hp => ?_⟩
  · rw [List.length_append, List.length_singleton] at hi
    rw [e i (by omega), e _ (by omega)]
    exact h i h0 (by omega)
  · rw [List.length_append, List.length_singleton] at hi
    omega
theorem upI_done {k : R3 → Int} {H : List R3} {j : Nat} (h : upI k H j) (hd : j = 0 ∨ k (H.getD ((j - 1) / 2) t0) ≤ k (H.getD j t0)) : hp k H := by
  intro i h0 hi
  by_cases e : i = j
  · subst e
    rcases hd with hd | hd
    · omega
    · exact hd
  · exact h.1 i h0 hi e
theorem upI_step {k : R3 → Int} {H : List R3} {j : Nat} (h : upI k H j) (hj : j < H.length) (h0 : 0 < j) (hlt : k (H.getD j t0) < k (H.getD ((j - 1) / 2) t0)) : upI k (swp H ((j - 1) / 2) j) ((j - 1) / 2) := by
  obtain ⟨p, hp⟩ : ∃ p, (j - 1) / 2 = p := ⟨_, rfl⟩
  have hpj : p < j := by omega
  have hpl : p < H.length := by omega
  obtain ⟨h1, h2⟩ := h
  rw [hp] at hlt ⊢
  have h2 := h2 h0
  rw [hp] at h2
  refine ⟨fun i i0 hi hne => ?_, fun p0 i i0 hi he => ?_⟩
  · rw [swp_len] at hi
    have h3 := h1 i i0 hi
    have h4 := h2 i i0 hi
    rw [swp_at _ hpl hj, swp_at _ hpl hj]
    obtain ⟨q, hq⟩ : ∃ q, (i - 1) / 2 = q := ⟨_, rfl⟩
    rw [hq] at h3 h4 ⊢
    by_cases c1 : i = j
    · subst c1
      obtain rfl : q = p := by omega
      rw [if_pos rfl, if_neg (by omega), if_pos rfl]; omega
    · rw [if_neg c1, if_neg hne]
      by_cases c2 : q = j
      · rw [if_pos c2]; exact h4 c2
      · rw [if_neg c2]
        by_cases c3 : q = p
        · rw [if_pos c3]
          have := h3 c1
          rw [c3] at this; omega
        · rw [if_neg c3]; exact h3 c1
  · rw [swp_len] at hi
    have h5 := h1 p p0 hpl (by omega)
    rw [swp_at _ hpl hj, swp_at _ hpl hj]
    rw [if_neg (show (p - 1) / 2 ≠ j by omega), if_neg (show (p - 1) / 2 ≠ p by omega)]
    by_cases c1 : i = j
    · rw [if_pos c1]; exact h5
    · rw [if_neg c1, if_neg (by omega)]
      have := h1 i i0 hi c1
      rw [he] at this; omega
/-- The first n sites are a heap but for site i, which may be too high. -/
def dnI (k : R3 → Int) (H : List R3) (n i : Nat) : Prop :=
  (∀ m, 0 < m → m < n → (m - 1) / 2 ≠ i → k (H.getD ((m - 1) / 2) t0) ≤ k (H.getD m t0)) ∧ (0 < i → ∀ m, 0 < m → m < n → (m - 1) / 2 = i → k (H.getD ((i - 1) / 2) t0) ≤ k (H.getD m t0))
theorem dnI_start {k : R3 → Int} {H : List R3} {n : Nat} (h : hp k H) (hn : H.length = n + 1) : dnI k (swp H 0 n) n 0 := by
  refine ⟨fun m m0 hm hne => ?_, fun h0 => absurd h0 (by omega)⟩
  rw [swp_at _ (by omega) (by omega), swp_at _ (by omega) (by omega), if_neg (by omega), if_neg (by omega), if_neg (by omega), if_neg (by omega)]
  exact h m m0 (by omega)
theorem dnI_done {k : R3 → Int} {H : List R3} {n i : Nat} (h : dnI k H n i) (hn : n ≤ H.length) (hd : ∀ m, 0 < m → m < n → (m - 1) / 2 = i → k (H.getD i t0) ≤ k (H.getD m t0)) : hp k (H.take n) := by
  have e : ∀ m, m < n → (H.take n).getD m t0 = H.getD m t0 := fun m hm => by
    rw [List.getD_eq_getElem?_getD, List.getElem?_take_of_lt hm, List.getD_eq_getElem?_getD]
  intro m m0 hm
  rw [List.length_take] at hm
  rw [e m (by omega), e _ (by omega)]
  by_cases c : (m - 1) / 2 = i
  · rw [c]; exact hd m m0 (by omega) c
  · exact h.1 m m0 (by omega) c
theorem dnI_step {k : R3 → Int} {H : List R3} {n i j : Nat} (h : dnI k H n i) (hn : n ≤ H.length) (hj : j < n) (j0 : 0 < j) (hpj : (j - 1) / 2 = i)
    (hmin : ∀ m, 0 < m → m < n → (m - 1) / 2 = i → k (H.getD j t0) ≤ k (H.getD m t0)) (hlt : k (H.getD j t0) < k (H.getD i t0)) : dnI k (swp H i j) n j := by
  obtain ⟨h1, h2⟩ := h
  have hi : i < H.length := by omega
  have hjl : j < H.length := by omega
  refine ⟨fun m m0 hm hne => ?_, fun _ m m0 hm he => ?_⟩
  · have h3 := h1 m m0 hm
    have h4 := hmin m m0 hm
    rw [swp_at _ hi hjl, swp_at _ hi hjl, if_neg hne]
    obtain ⟨q, hq⟩ : ∃ q, (m - 1) / 2 = q := ⟨_, rfl⟩
    rw [hq] at h3 h4 hne ⊢
    by_cases c1 : m = j
    · obtain rfl : q = i := by rw [← hq, c1]; exact hpj
      rw [if_pos rfl, if_pos c1]; omega
    · rw [if_neg c1]
      by_cases c2 : m = i
      · subst c2
        have h5 := h2 m0 j j0 hj hpj
        rw [hq] at h5
        rw [if_neg (show q ≠ m by omega), if_pos rfl]; exact h5
      · rw [if_neg c2]
        by_cases c3 : q = i
        · rw [if_pos c3]; exact h4 c3
        · rw [if_neg c3]; exact h3 c3
  · have h3 := h1 m m0 hm (by omega)
    rw [he] at h3
    rw [swp_at _ hi hjl, swp_at _ hi hjl, hpj, if_neg (show i ≠ j by omega), if_pos rfl, if_neg (show m ≠ j by omega), if_neg (show m ≠ i by omega)]
    exact h3
/-- The first site of a heap is a least one. -/
theorem hp_min {k : R3 → Int} {H : List R3} (h : hp k H) : ∀ i, i < H.length → k (H.getD 0 t0) ≤ k (H.getD i t0) := by
  intro i
  induction i using Nat.strongRecOn with
  | ind i ih =>
    intro hi
    by_cases h0 : i = 0
    · rw [h0]; exact Int.le_refl _
    · have h1 := ih ((i - 1) / 2) (by omega) (by omega)
      have h2 := h i (by omega) hi
      omega
/-- Sites by key. -/
def srt (k : R3 → Int) (L : List R3) : List R3 := L.mergeSort fun a b => decide (k a ≤ k b)
theorem srt_perm (k : R3 → Int) (L : List R3) : (srt k L).Perm L := List.mergeSort_perm _ _
theorem srt_pw (k : R3 → Int) (L : List R3) : (srt k L).Pairwise (fun a b => k a ≤ k b) := by
  have h := List.pairwise_mergeSort (le := fun a b : R3 => decide (k a ≤ k b)) (fun a b c h1 h2 => by simp at *; omega) (fun a b => by simp; omega) L
  exact h.imp (fun h => by simpa using h)
/-- The least one of what is left is the next one. -/
theorem next_is {k : R3 → Int} {L H : List R3} {m : Nat} (hinj : ∀ a ∈ L, ∀ b ∈ L, k a = k b → a = b) (hm : m < (srt k L).length) (hH : H.Perm ((srt k L).drop m)) {r : R3} (hr : r ∈ H) (hle : ∀ s ∈ H, k r ≤ k s) : r = (srt k L).getD m t0 := by
  have hd : (srt k L).drop m = (srt k L)[m] :: (srt k L).drop (m + 1) := List.drop_eq_getElem_cons hm
  have hpw : ((srt k L).drop m).Pairwise (fun a b => k a ≤ k b) := (srt_pw k L).sublist (List.drop_sublist _ _)
  have hg : (srt k L).getD m t0 = (srt k L)[m] := by simp [List.getD_eq_getElem?_getD, hm]
  have hmem : ∀ s ∈ H, s ∈ L := fun s hs => (srt_perm k L).subset (List.mem_of_mem_drop (hH.subset hs))
  have h1 : (srt k L)[m] ∈ H := hH.symm.subset (by rw [hd]; exact List.mem_cons_self)
  rw [hg]
  refine hinj _ (hmem _ hr) _ (hmem _ h1) ?_
  have h2 := hle _ h1
  have h3 := hH.subset hr
  rw [hd] at h3 hpw
  rcases List.mem_cons.1 h3 with h4 | h4
  · rw [h4]
  · have := (List.pairwise_cons.1 hpw).1 _ h4
    omega
theorem next_perm {k : R3 → Int} {L H H' : List R3} {m : Nat} {r : R3} (hm : m < (srt k L).length) (hH : H.Perm ((srt k L).drop m)) (he : r = (srt k L).getD m t0) (hr : (r :: H').Perm H) : H'.Perm ((srt k L).drop (m + 1)) := by
  have hd : (srt k L).drop m = (srt k L)[m] :: (srt k L).drop (m + 1) := List.drop_eq_getElem_cons hm
  have hg : (srt k L).getD m t0 = (srt k L)[m] := by simp [List.getD_eq_getElem?_getD, hm]
  have h := hr.trans hH
  rw [hd, he, hg] at h
  exact h.cons_inv
/-- What is popped: the list that is swapped and sifted, cut. -/
theorem pop_perm {H H2 : List R3} {n : Nat} (hn : H.length = n + 1) (h2 : H2.Perm H) (hl : H2.getD n t0 = H.getD 0 t0) : (H.getD 0 t0 :: H2.take n).Perm H := by
  have hl2 : H2.length = n + 1 := by rw [h2.length_eq, hn]
  have e : H2 = H2.take n ++ [H2.getD n t0] := by
    have h3 : H2.getD n t0 = H2[n] := by simp [List.getD_eq_getElem?_getD, hl2]
    rw [h3, List.take_append_getElem (by omega), List.take_of_length_le (by omega)]
  have h4 : (H.getD 0 t0 :: H2.take n).Perm (H2.take n ++ [H.getD 0 t0]) := (List.perm_append_singleton _ _).symm
  refine h4.trans ?_
  rw [← hl, ← e]
  exact h2
end Go.Proofs.Ytpgdbhafdnfhcaa
