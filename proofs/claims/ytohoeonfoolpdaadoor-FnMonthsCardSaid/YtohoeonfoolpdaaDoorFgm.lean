/- Checks of a series, what the laws say of them: bits of flags, runs of four, moved and widened limits, cleaning twice. Without the program. -/
import Derived.Test.YtohoeonfoolpdaaDoorFg
namespace Go.Proofs.YtohoeonfoolpdaaDoor
open Go.RowKit
set_option linter.unusedVariables false

theorem dn_ge {zs : List Int} {k c : Nat} (hk : k < zs.length) (hc : c ≤ k) (h : ∀ j, j < c → zs.getD (k - 1 - j) 0 = zs.getD k 0) : c ≤ dnR zs k := by
  induction c with
  | zero => exact Nat.zero_le _
  | succ c ih =>
    have h1 := ih (by omega) (fun j hj => h j (by omega))
    have := (dn_step hk h1).2 ⟨by omega, h c (by omega)⟩
    omega
theorem up_ge {zs : List Int} {k c : Nat} (hk : k < zs.length) (hc : k + c < zs.length) (h : ∀ j, j < c → zs.getD (k + 1 + j) 0 = zs.getD k 0) : c ≤ up zs k := by
  induction c with
  | zero => exact Nat.zero_le _
  | succ c ih =>
    have h1 := ih (by omega) (fun j hj => h j (by omega))
    have := (up_step h1).2 ⟨by omega, h c (by omega)⟩
    omega
theorem dn_all {zs : List Int} {k j : Nat} (hk : k < zs.length) (hj : j < dnR zs k) : zs.getD (k - 1 - j) 0 = zs.getD k 0 := ((dn_step hk (Nat.le_of_lt hj)).1 hj).2
theorem up_all {zs : List Int} {k j : Nat} (hj : j < up zs k) : zs.getD (k + 1 + j) 0 = zs.getD k 0 := ((up_step (Nat.le_of_lt hj)).1 hj).2
/-- The law's own count of equal values, m places behind s. -/
def rwN (zs : List Int) (i s : Nat) : Nat → Nat
  | 0 => 0
  | m + 1 => if zs.getD (s + m) 0 = zs.getD i 0 then rwN zs i s m + 1 else 0
theorem rwN_le (zs : List Int) (i s : Nat) : ∀ m, rwN zs i s m ≤ m
  | 0 => Nat.le_refl _
  | m + 1 => by have := rwN_le zs i s m; simp only [rwN]; split <;> omega
theorem rwN_all (zs : List Int) (i s : Nat) : ∀ m j, j < rwN zs i s m → zs.getD (s + m - 1 - j) 0 = zs.getD i 0
  | 0, j, h => by simp [rwN] at h
  | m + 1, j, h => by
    simp only [rwN] at h
    split at h
    · rename_i e
      cases j with
      | zero => rw [show s + (m + 1) - 1 - 0 = s + m by omega]; exact e
      | succ j =>
        rw [show s + (m + 1) - 1 - (j + 1) = s + m - 1 - j by omega]
        exact rwN_all zs i s m j (by omega)
    · omega
theorem rwN_ge (zs : List Int) (i s : Nat) : ∀ m c, c ≤ m → (∀ j, j < c → zs.getD (s + m - 1 - j) 0 = zs.getD i 0) → c ≤ rwN zs i s m
  | 0, c, hc, _ => by omega
  | m + 1, 0, _, _ => Nat.zero_le _
  | m + 1, c + 1, hc, h => by
    have h0 := h 0 (by omega)
    rw [show s + (m + 1) - 1 - 0 = s + m by omega] at h0
    have h1 := rwN_ge zs i s m c (by omega) (fun j hj => by
      have := h (j + 1) (by omega)
      rw [show s + (m + 1) - 1 - (j + 1) = s + m - 1 - j by omega] at this
      exact this)
    simp only [rwN, if_pos h0]
    omega
/-- The law's count comes to four just where there is a run of four. -/
theorem rwN_run {zs : List Int} {i m : Nat} (hi : i < zs.length) (hm1 : i - 3 + m ≤ zs.length) (hm2 : i - 3 + m ≤ i + 4) (hlt : ∀ m', m' < m → rwN zs i (i - 3) m' < 4)
    (hend : 4 ≤ rwN zs i (i - 3) m ∨ i - 3 + m = zs.length ∨ i - 3 + m = i + 4) : (decide (rwN zs i (i - 3) m = 4)) = samB zs i := by
  have hup4 : rwN zs i (i - 3) m ≤ 4 := by
    cases m with
    | zero => simp [rwN]
    | succ m => have := hlt m (by omega); simp only [rwN]; split <;> omega
  have hmle := rwN_le zs i (i - 3) m
  rw [samB, Bool.eq_iff_iff, decide_eq_true_eq, decide_eq_true_eq]
  constructor
  · intro h4
    have hall := rwN_all zs i (i - 3) m
    rw [h4] at hall
    obtain ⟨t, ht⟩ : ∃ t, i - 3 + m = t + 4 := ⟨i - 3 + m - 4, by omega⟩
    have hw : ∀ j, j < 4 → zs.getD (t + 3 - j) 0 = zs.getD i 0 := fun j hj => by
      have := hall j hj
      rw [show i - 3 + m - 1 - j = t + 3 - j by omega] at this; exact this
    have d1 : i - t ≤ dnR zs i := dn_ge hi (by omega) (fun j hj => by
      have := hw (t + 3 - (i - 1 - j)) (by omega)
      rw [show t + 3 - (t + 3 - (i - 1 - j)) = i - 1 - j by omega] at this; exact this)
    have d2 : t + 3 - i ≤ up zs i := up_ge hi (by omega) (fun j hj => by
      have := hw (t + 3 - (i + 1 + j)) (by omega)
      rw [show t + 3 - (t + 3 - (i + 1 + j)) = i + 1 + j by omega] at this; exact this)
    omega
  · intro hs
    by_cases h4 : 4 ≤ rwN zs i (i - 3) m
    · omega
    exfalso
    have hdl := dn_le hi
    have hul := up_le hi
    have hE : i - 3 + m = zs.length ∨ i - 3 + m = i + 4 := by omega
    obtain ⟨t, ht⟩ : ∃ t, t = i - min (dnR zs i) 3 := ⟨_, rfl⟩
    have hm0 : t + 4 - (i - 3) ≤ m := by omega
    have hge : 4 ≤ rwN zs i (i - 3) (t + 4 - (i - 3)) := rwN_ge zs i (i - 3) _ 4 (by omega) (fun j hj => by
      rw [show i - 3 + (t + 4 - (i - 3)) - 1 - j = t + 3 - j by omega]
      by_cases hlt' : t + 3 - j < i
      · have := dn_all hi (j := i - 1 - (t + 3 - j)) (by omega)
        rw [show i - 1 - (i - 1 - (t + 3 - j)) = t + 3 - j by omega] at this; exact this
      · by_cases he : t + 3 - j = i
        · rw [he]
        · have := up_all (zs := zs) (k := i) (j := t + 3 - j - (i + 1)) (by omega)
          rw [show i + 1 + (t + 3 - j - (i + 1)) = t + 3 - j by omega] at this; exact this)
    rcases Nat.lt_or_eq_of_le hm0 with h | h
    · have := hlt _ h; omega
    · rw [h] at hge; exact h4 hge

/-- The flags as three answers. -/
theorem fl_cases (zs : List Int) (lo hi st : Int) (k : Nat) : (zs.getD k 0 = -9999 ∧ fl zs lo hi st k = 1) ∨
    (zs.getD k 0 ≠ -9999 ∧ fl zs lo hi st k = bt (limB lo hi (zs.getD k 0)) 2 + bt (stpB zs st k) 4 + bt (samB zs k) 8) := by
  by_cases h : zs.getD k 0 = -9999
  · exact .inl ⟨h, by rw [fl, if_pos h]⟩
  · exact .inr ⟨h, by rw [fl, if_neg h]⟩
theorem fl_bd (zs : List Int) (lo hi st : Int) (k : Nat) : 0 ≤ fl zs lo hi st k ∧ fl zs lo hi st k ≤ 15 := by
  rcases fl_cases zs lo hi st k with ⟨_, h⟩ | ⟨_, h⟩
  · omega
  · rw [h]; unfold bt; (repeat' split) <;> omega

/-- Values moved by one. -/
def add1 (x : Int) : Int := if x = -9999 then -9999 else x + 1
theorem add1_at (zs : List Int) {k : Nat} (h : k < zs.length) : (zs.map add1).getD k 0 = add1 (zs.getD k 0) := by simp [List.getD_eq_getElem?_getD, h]
theorem add1_inj {zs : List Int} (h : sqB zs = true) {i k : Nat} (hi : i < zs.length) (hk : k < zs.length) : (zs.map add1).getD i 0 = (zs.map add1).getD k 0 ↔ zs.getD i 0 = zs.getD k 0 := by
  rw [add1_at zs hi, add1_at zs hk]
  have h1 := sq_at h hi
  have h2 := sq_at h hk
  unfold add1
  split <;> split <;> omega
theorem dn_add {zs : List Int} (h : sqB zs = true) {k : Nat} (hk : k < zs.length) : dnR (zs.map add1) k = dnR zs k := by
  have hk' : k < (zs.map add1).length := by simpa using hk
  apply Nat.le_antisymm
  · refine dn_ge hk (dn_le hk') fun j hj => ?_
    have h1 := dn_all hk' hj
    have h2 := dn_le hk'
    exact (add1_inj h (by omega) hk).1 h1
  · refine dn_ge hk' (dn_le hk) fun j hj => ?_
    have h1 := dn_all hk hj
    have h2 := dn_le hk
    exact (add1_inj h (by omega) hk).2 h1
theorem up_add {zs : List Int} (h : sqB zs = true) {k : Nat} (hk : k < zs.length) : up (zs.map add1) k = up zs k := by
  have hk' : k < (zs.map add1).length := by simpa using hk
  have e : (zs.map add1).length = zs.length := by simp
  have l1 := up_le hk
  have l2 := up_le hk'
  apply Nat.le_antisymm
  · refine up_ge hk (by omega) fun j hj => ?_
    exact (add1_inj h (by omega) hk).1 (up_all hj)
  · refine up_ge hk' (by omega) fun j hj => ?_
    exact (add1_inj h (by omega) hk).2 (up_all hj)
theorem fl_add {zs : List Int} (h : sqB zs = true) (lo hi st : Int) {k : Nat} (hk : k < zs.length) : fl (zs.map add1) (lo + 1) (hi + 1) st k = fl zs lo hi st k := by
  have h1 := sq_at h hk
  have e1 : samB (zs.map add1) k = samB zs k := by rw [samB, samB, dn_add h hk, up_add h hk]
  by_cases hn : zs.getD k 0 = -9999
  · have e2 : (zs.map add1).getD k 0 = -9999 := by rw [add1_at zs hk, hn]; rfl
    rw [fl, fl, if_pos hn, if_pos e2]
  · have e2 : (zs.map add1).getD k 0 = zs.getD k 0 + 1 := by rw [add1_at zs hk, add1, if_neg hn]
    have e3 : limB (lo + 1) (hi + 1) (zs.getD k 0 + 1) = limB lo hi (zs.getD k 0) := by
      unfold limB inB; rw [Bool.eq_iff_iff]; simp
    have e4 : stpB (zs.map add1) st k = stpB zs st k := by
      unfold stpB
      by_cases h0 : 0 < k
      · have h2 := sq_at h (show k - 1 < zs.length by omega)
        have e5 := add1_at zs (show k - 1 < zs.length by omega)
        rw [e5, e2]
        by_cases hm : zs.getD (k - 1) 0 = -9999
        · rw [hm]; simp [add1]
        · have e6 : add1 (zs.getD (k - 1) 0) = zs.getD (k - 1) 0 + 1 := by rw [add1, if_neg hm]
          rw [e6, show zs.getD k 0 + 1 - (zs.getD (k - 1) 0 + 1) = zs.getD k 0 - zs.getD (k - 1) 0 by omega]
          have e7 : (zs.getD (k - 1) 0 + 1 != -9999) = true := bne_iff_ne.2 (by omega)
          have e8 : (zs.getD (k - 1) 0 != -9999) = true := bne_iff_ne.2 (by omega)
          rw [e7, e8]
      · simp [h0]
    rw [fl, fl, if_neg hn, e2, if_neg (by omega), e3, e4, e1]
theorem flL_add {zs : List Int} (h : sqB zs = true) (lo hi st : Int) : flL (zs.map add1) (lo + 1) (hi + 1) st = flL zs lo hi st := by
  unfold flL
  rw [List.length_map]
  refine List.map_congr_left fun k hk => ?_
  exact fl_add h lo hi st (by simpa using hk)

/-- Cleaning. -/
theorem fcl_valid {zs fs : List Int} (h : sqB zs = true) : sqB (fcl zs fs) = true := by
  obtain ⟨h1, h2, h3⟩ := sq_facts h
  refine sq_all ?_ (by rw [fcl_len]; exact ⟨h2, h3⟩)
  rw [List.all_eq_true]
  intro x hx
  simp only [fcl, List.mem_map, List.mem_range] at hx
  obtain ⟨k, hk, rfl⟩ := hx
  unfold fcv
  split
  · exact all_at h1 hk
  · rfl
theorem fcl_twice (zs fs : List Int) : fcl (fcl zs fs) fs = fcl zs fs := by
  have e : fcl (fcl zs fs) fs = (List.range zs.length).map fun k => fcv ((fcl zs fs).getD k 0) (fs.getD k 0) := by
    unfold fcl; simp
  rw [e]
  show _ = (List.range zs.length).map fun k => fcv (zs.getD k 0) (fs.getD k 0)
  refine List.map_congr_left fun k hk => ?_
  rw [fcl_at (by simpa using hk)]
  unfold fcv
  split <;> rfl
theorem fcl_ok {zs fs : List Int} (h : fcOk zs fs = true) : fcOk (fcl zs fs) fs = true := by
  obtain ⟨h1, h2, h3⟩ := fcOk_facts h
  rw [fcOk, fcl_valid h1, fcl_len, h3]
  simp [h2]
theorem getD_congr {zs : List Int} {n k : Nat} (e : zs.length = n) (hk : k < n) : k < zs.length := by omega
theorem fcl_zero {zs fs : List Int} (hl : fs.length = zs.length) (h : ∀ k, k < zs.length → fs.getD k 0 = 0) : fcl zs fs = zs := by
  apply List.ext_getElem
  · exact fcl_len zs fs
  · intro k h1 h2
    have e := fcl_at (fs := fs) h2
    rw [h k h2] at e
    have e2 : fcv (zs.getD k 0) 0 = zs.getD k 0 := rfl
    rw [e2] at e
    simpa [List.getD_eq_getElem?_getD, h1, h2] using e
theorem knN_mono {zs ys : List Int} (h : ∀ k, ys.getD k 0 = -9999 ∨ ys.getD k 0 = zs.getD k 0) : ∀ n, knN ys n ≤ knN zs n
  | 0 => Nat.le_refl _
  | n + 1 => by
    have := knN_mono h n
    have h2 := h n
    simp only [knN]
    rcases h2 with h2 | h2
    · rw [h2]; simp; omega
    · rw [h2]; omega
/-- Known values. -/
def knl (zs : List Int) : List Int := zs.filter fun x => x != -9999
theorem knN_filter (zs : List Int) : ∀ k, k ≤ zs.length → knN zs k = (knl (zs.take k)).length
  | 0, _ => by simp [knN, knl]
  | k + 1, h => by
    have ih := knN_filter zs k (by omega)
    have e : zs.getD k 0 = zs[k] := by simp [List.getD_eq_getElem?_getD, show k < zs.length by omega]
    rw [List.take_succ_eq_append_getElem (by omega)]
    simp only [knN, ih, knl, List.filter_append, List.length_append, e]
    congr 1
    by_cases hx : zs[k] = -9999
    · simp [hx]
    · simp [hx]
theorem knN_all (zs : List Int) : knN zs zs.length = (knl zs).length := by rw [knN_filter zs _ (Nat.le_refl _), List.take_length]
theorem knl_rev (zs : List Int) : (knl zs.reverse).length = (knl zs).length := by unfold knl; rw [List.filter_reverse, List.length_reverse]
theorem sq_rev {zs : List Int} : sqB zs.reverse = sqB zs := by unfold sqB; rw [List.all_reverse, List.length_reverse]
theorem sk_rev (zs : List Int) : sk zs.reverse = sk zs := by
  unfold sk
  rw [sq_rev, knN_all, knN_all, knl_rev]
/-- A step, part by part. -/
theorem stp_cases {zs : List Int} (st : Int) {k : Nat} (hq : sqB zs = true) (hk : k < zs.length) : (k = 0 ∧ stpB zs st k = false) ∨ (∃ q, k = q + 1 ∧ zs.getD q 0 = -9999 ∧ stpB zs st k = false) ∨
    (∃ q, k = q + 1 ∧ zs.getD q 0 ≠ -9999 ∧ (-999 ≤ zs.getD q 0 ∧ zs.getD q 0 ≤ 10999) ∧ stpB zs st k = !(inB (zs.getD k 0 - zs.getD q 0) (-st) st)) := by
  by_cases h0 : k = 0
  · left; subst h0; exact ⟨rfl, rfl⟩
  · right
    obtain ⟨q, rfl⟩ : ∃ q, k = q + 1 := ⟨k - 1, by omega⟩
    have yb := sq_at hq (show q < zs.length by omega)
    by_cases hy : zs.getD q 0 = -9999
    · left; exact ⟨q, rfl, hy, by unfold stpB; rw [show q + 1 - 1 = q by omega, hy]; simp⟩
    · right
      refine ⟨q, rfl, hy, by omega, ?_⟩
      have hy2 : (zs.getD q 0 != -9999) = true := bne_iff_ne.2 hy
      unfold stpB
      have hd : decide (0 < q + 1) = true := by simp
      rw [show q + 1 - 1 = q by omega, hy2, hd, Bool.true_and, Bool.true_and]
theorem stp_parts (x y st : Int) : ((!(inB (x - y) (-st) st)) = true ∧ decide (st < x - y) = true) ∨ ((!(inB (x - y) (-st) st)) = true ∧ decide (st < x - y) = false ∧ decide (st < y - x) = true) ∨ ((!(inB (x - y) (-st) st)) = false ∧ decide (st < x - y) = false ∧ decide (st < y - x) = false) := by
  by_cases h1 : st < x - y
  · left; exact ⟨by rw [inB_no (by omega)]; rfl, decide_eq_true h1⟩
  · by_cases h2 : st < y - x
    · right; left; exact ⟨by rw [inB_no (by omega)]; rfl, decide_eq_false h1, decide_eq_true h2⟩
    · right; right; exact ⟨by rw [inB_yes (by omega)]; rfl, decide_eq_false h1, decide_eq_false h2⟩
theorem fl_wide (zs : List Int) (lo hi st : Int) (k : Nat) : (fl zs (lo - 1) (hi + 1) (st + 1) k = 1 ∧ fl zs lo hi st k = 1) ∨
    (∃ l l' s s' m : Bool, (l' = true → l = true) ∧ (s' = true → s = true) ∧ fl zs (lo - 1) (hi + 1) (st + 1) k = bt l' 2 + bt s' 4 + bt m 8 ∧ fl zs lo hi st k = bt l 2 + bt s 4 + bt m 8) := by
  by_cases h : zs.getD k 0 = -9999
  · exact .inl ⟨by rw [fl, if_pos h], by rw [fl, if_pos h]⟩
  · refine .inr ⟨limB lo hi (zs.getD k 0), limB (lo - 1) (hi + 1) (zs.getD k 0), stpB zs st k, stpB zs (st + 1) k, samB zs k, ?_, ?_, by rw [fl, if_neg h], by rw [fl, if_neg h]⟩
    · unfold limB inB; simp; omega
    · unfold stpB inB
      simp only [Bool.and_eq_true]
      rintro ⟨h1, h2, h3⟩
      refine ⟨h1, h2, ?_⟩
      simp at h3 ⊢; omega
end Go.Proofs.YtohoeonfoolpdaaDoor
