/- Extremes, without the program: values of a level 'abN', runs 'spR', 'spM', 'spF', records 'rcG', 'rcB', 'rcl'. -/
import Derived.Test.YtohoeonfoolpdaaDoorMp
namespace Go.Proofs.YtohoeonfoolpdaaDoor
open Go.RowKit
set_option linter.unusedVariables false

/-- A value that is there and is at least a level. -/
def reB (lv x : Int) : Bool := (x != -9999) && decide (lv ≤ x)
theorem reB_none (lv : Int) : reB lv (-9999) = false := rfl
theorem reB_cases (lv x : Int) : (x = -9999 ∧ reB lv x = false) ∨ ((x != -9999) = true ∧ (x == -9999) = false ∧ x < lv ∧ reB lv x = false) ∨ ((x != -9999) = true ∧ (x == -9999) = false ∧ lv ≤ x ∧ reB lv x = true) := by
  by_cases h : x = -9999
  · left; subst h; exact ⟨rfl, rfl⟩
  · have h1 : (x != -9999) = true := bne_iff_ne.2 h
    have h2 : (x == -9999) = false := beq_eq_false_iff_ne.2 h
    by_cases h3 : lv ≤ x
    · right; right; exact ⟨h1, h2, h3, by rw [reB, h1, decide_eq_true h3]; rfl⟩
    · right; left; exact ⟨h1, h2, by omega, by rw [reB, h1, decide_eq_false h3]; rfl⟩

def abN (zs : List Int) (lv : Int) : Nat → Nat
  | 0 => 0
  | k + 1 => abN zs lv k + (if reB lv (zs.getD k 0) then 1 else 0)
theorem abN_le (zs : List Int) (lv : Int) : ∀ k, abN zs lv k ≤ k
  | 0 => Nat.le_refl _
  | k + 1 => by have := abN_le zs lv k; simp only [abN]; split <;> omega
theorem abN_yes {zs : List Int} {lv : Int} {k : Nat} (h : reB lv (zs.getD k 0) = true) : abN zs lv (k + 1) = abN zs lv k + 1 := by simp only [abN, h, if_true]
theorem abN_no {zs : List Int} {lv : Int} {k : Nat} (h : reB lv (zs.getD k 0) = false) : abN zs lv (k + 1) = abN zs lv k := by simp only [abN, h, Bool.false_eq_true, if_false, Nat.add_zero]
def abV (zs : List Int) (lv : Int) : Int := if sqB zs then (abN zs lv zs.length : Int) else -1
theorem abV_yes {zs : List Int} (lv : Int) (h : sqB zs = true) : abV zs lv = (abN zs lv zs.length : Int) := by simp [abV, h]
theorem abV_no {zs : List Int} (lv : Int) (h : sqB zs = false) : abV zs lv = -1 := by simp [abV, h]
theorem abN_count (zs : List Int) (lv : Int) : ∀ k, k ≤ zs.length → abN zs lv k = (zs.take k).countP (reB lv)
  | 0, _ => rfl
  | k + 1, h => by
    rw [List.take_succ_eq_append_getElem h, List.countP_append, ← abN_count zs lv k (by omega)]
    simp [abN, List.getD_eq_getElem?_getD, show k < zs.length by omega, List.countP_cons]
/-- What is there is above or below. -/
theorem ab_parts (zs : List Int) (lv : Int) : abN zs lv zs.length + cLt (knl zs) lv = (knl zs).length := by
  rw [abN_count zs lv _ (Nat.le_refl _), List.take_length]
  induction zs with
  | nil => rfl
  | cons x zs ih =>
    rcases reB_cases lv x with ⟨rfl, h⟩ | ⟨h1, _, h3, h⟩ | ⟨h1, _, h3, h⟩
    · rw [List.countP_cons, h]
      have : knl (-9999 :: zs) = knl zs := by simp [knl]
      rw [this]; simpa using ih
    · rw [List.countP_cons, h]
      have e : knl (x :: zs) = x :: knl zs := by simp only [knl, List.filter_cons, h1]; rfl
      rw [e, cLt, List.countP_cons, List.length_cons]
      simp only [cLt] at ih
      simp [h3]; omega
    · rw [List.countP_cons, h]
      have e : knl (x :: zs) = x :: knl zs := by simp only [knl, List.filter_cons, h1]; rfl
      rw [e, cLt, List.countP_cons, List.length_cons]
      simp only [cLt] at ih
      have h4 : ¬ x < lv := by omega
      simp [h4]; omega

/-- The run up to a day, the longest run up to a day, and its first day. -/
def spR (zs : List Int) (lv : Int) : Nat → Nat
  | 0 => 0
  | k + 1 => if reB lv (zs.getD k 0) then spR zs lv k + 1 else 0
def spM (zs : List Int) (lv : Int) : Nat → Nat
  | 0 => 0
  | k + 1 => if spM zs lv k < spR zs lv (k + 1) then spR zs lv (k + 1) else spM zs lv k
def spF (zs : List Int) (lv : Int) : Nat → Nat
  | 0 => 0
  | k + 1 => if spM zs lv k < spR zs lv (k + 1) then k + 1 - spR zs lv (k + 1) else spF zs lv k
theorem spR_no {zs : List Int} {lv : Int} {k : Nat} (h : reB lv (zs.getD k 0) = false) : spR zs lv (k + 1) = 0 ∧ spM zs lv (k + 1) = spM zs lv k ∧ spF zs lv (k + 1) = spF zs lv k := by
  have e : spR zs lv (k + 1) = 0 := by simp only [spR, h, Bool.false_eq_true, if_false]
  refine ⟨e, ?_, ?_⟩
  · rw [spM, e, if_neg (by omega)]
  · rw [spF, e, if_neg (by omega)]
theorem spR_yes {zs : List Int} {lv : Int} {k : Nat} (h : reB lv (zs.getD k 0) = true) : spR zs lv (k + 1) = spR zs lv k + 1 := by simp only [spR, h, if_true]
theorem spM_more {zs : List Int} {lv : Int} {k : Nat} (h : reB lv (zs.getD k 0) = true) (h2 : spM zs lv k < spR zs lv k + 1) : spM zs lv (k + 1) = spR zs lv k + 1 ∧ spF zs lv (k + 1) = k - spR zs lv k := by
  have e := spR_yes h
  constructor
  · rw [spM, e, if_pos h2]
  · rw [spF, e, if_pos h2]; omega
theorem spM_less {zs : List Int} {lv : Int} {k : Nat} (h : reB lv (zs.getD k 0) = true) (h2 : ¬ spM zs lv k < spR zs lv k + 1) : spM zs lv (k + 1) = spM zs lv k ∧ spF zs lv (k + 1) = spF zs lv k := by
  have e := spR_yes h
  constructor
  · rw [spM, e, if_neg h2]
  · rw [spF, e, if_neg h2]
theorem spR_le (zs : List Int) (lv : Int) : ∀ k, spR zs lv k ≤ k
  | 0 => Nat.le_refl _
  | k + 1 => by have := spR_le zs lv k; simp only [spR]; split <;> omega
theorem spR_M (zs : List Int) (lv : Int) : ∀ k, spR zs lv k ≤ spM zs lv k ∧ spF zs lv k + spM zs lv k ≤ k
  | 0 => ⟨Nat.le_refl _, Nat.le_refl _⟩
  | k + 1 => by
    have h := spR_M zs lv k
    have hr := spR_le zs lv (k + 1)
    simp only [spM, spF]
    split <;> constructor <;> omega
theorem spR_run (zs : List Int) (lv : Int) : ∀ k j, j < spR zs lv k → reB lv (zs.getD (k - 1 - j) 0) = true
  | 0, j, h => by simp [spR] at h
  | k + 1, j, h => by
    simp only [spR] at h
    split at h
    · rename_i e
      cases j with
      | zero => exact e
      | succ j =>
        have := spR_run zs lv k j (by omega)
        rwa [show k + 1 - 1 - (j + 1) = k - 1 - j by omega]
    · omega
theorem spR_end (zs : List Int) (lv : Int) : ∀ k, spR zs lv k = k ∨ reB lv (zs.getD (k - 1 - spR zs lv k) 0) = false
  | 0 => .inl rfl
  | k + 1 => by
    rcases Bool.eq_false_or_eq_true (reB lv (zs.getD k 0)) with h | h
    · rw [spR_yes h]
      rcases spR_end zs lv k with h2 | h2
      · left; omega
      · right; rwa [show k + 1 - 1 - (spR zs lv k + 1) = k - 1 - spR zs lv k by omega]
    · rw [(spR_no h).1]; right; exact h
/-- The longest run is one, and it ends. -/
theorem spM_run (zs : List Int) (lv : Int) : ∀ k, (spM zs lv k = 0 → spF zs lv k = 0) ∧ (0 < spM zs lv k →
      (∀ j, j < spM zs lv k → reB lv (zs.getD (spF zs lv k + j) 0) = true) ∧ (spF zs lv k = 0 ∨ reB lv (zs.getD (spF zs lv k - 1) 0) = false) ∧
      ((spF zs lv k + spM zs lv k = k ∧ spR zs lv k = spM zs lv k) ∨ reB lv (zs.getD (spF zs lv k + spM zs lv k) 0) = false))
  | 0 => ⟨fun _ => rfl, fun h => by simp [spM] at h⟩
  | k + 1 => by
    have ih := spM_run zs lv k
    have hM := spR_M zs lv k
    rcases Bool.eq_false_or_eq_true (reB lv (zs.getD k 0)) with h | h
    · by_cases h2 : spM zs lv k < spR zs lv k + 1
      · obtain ⟨e1, e2⟩ := spM_more h h2
        have e3 := spR_yes h
        rw [e1, e2, e3]
        have hl := spR_le zs lv k
        refine ⟨fun h0 => by omega, fun _ => ⟨fun j hj => ?_, ?_, .inl ⟨by omega, rfl⟩⟩⟩
        · have := spR_run zs lv (k + 1) (spR zs lv k - j) (by rw [e3]; omega)
          rwa [show k + 1 - 1 - (spR zs lv k - j) = k - spR zs lv k + j by omega] at this
        · rcases spR_end zs lv k with h3 | h3
          · left; omega
          · right; rwa [show k - spR zs lv k - 1 = k - 1 - spR zs lv k by omega]
      · obtain ⟨e1, e2⟩ := spM_less h h2
        rw [e1, e2]
        refine ⟨ih.1, fun h0 => ?_⟩
        obtain ⟨a, b, c⟩ := ih.2 h0
        refine ⟨a, b, ?_⟩
        rcases c with ⟨c1, c2⟩ | c
        · omega
        · exact .inr c
    · obtain ⟨e0, e1, e2⟩ := spR_no h
      rw [e1, e2, e0]
      refine ⟨ih.1, fun h0 => ?_⟩
      obtain ⟨a, b, c⟩ := ih.2 h0
      refine ⟨a, b, .inr ?_⟩
      rcases c with ⟨c1, c2⟩ | c
      · rw [c1]; exact h
      · exact c
/-- No run is longer, and none of the same length is earlier. -/
theorem spM_mono (zs : List Int) (lv : Int) {k n : Nat} (h : k ≤ n) : spM zs lv k ≤ spM zs lv n := by
  induction n with
  | zero => obtain rfl : k = 0 := by omega
            exact Nat.le_refl _
  | succ n ih =>
    by_cases e : k = n + 1
    · rw [e]; exact Nat.le_refl _
    · refine Nat.le_trans (ih (by omega)) ?_
      simp only [spM]; split <;> omega
theorem spM_first (zs : List Int) (lv : Int) {k n : Nat} (h : k ≤ n) (hr : spR zs lv k = spM zs lv n) (h0 : 0 < spR zs lv k) : spF zs lv n ≤ k - spR zs lv k := by
  induction n with
  | zero => obtain rfl : k = 0 := by omega
            simp [spR] at h0
  | succ n ih =>
    by_cases e : k = n + 1
    · subst e
      rw [spF]
      split
      · exact Nat.le_refl _
      · rename_i hn
        have h1 := spR_M zs lv (n + 1)
        have h2 : spM zs lv (n + 1) = spM zs lv n := by rw [spM, if_neg hn]
        have h3 := spR_M zs lv n
        omega
    · have hk : k ≤ n := by omega
      have h1 := (spR_M zs lv k).1
      have h2 := spM_mono zs lv hk
      rw [spM] at hr
      rw [spF]
      split at hr
      · omega
      · rename_i hn
        rw [if_neg hn]
        exact ih hk hr
/-- A run is not longer than there are values. -/
theorem sp_ab (zs : List Int) (lv : Int) : ∀ k, spR zs lv k ≤ abN zs lv k ∧ spM zs lv k ≤ abN zs lv k
  | 0 => ⟨Nat.le_refl _, Nat.le_refl _⟩
  | k + 1 => by
    have h := sp_ab zs lv k
    rcases Bool.eq_false_or_eq_true (reB lv (zs.getD k 0)) with h1 | h1
    · rw [abN_yes h1]
      have e := spR_yes h1
      refine ⟨by omega, ?_⟩
      rw [spM]; split <;> omega
    · rw [abN_no h1]
      obtain ⟨e0, e1, _⟩ := spR_no h1
      rw [e0, e1]
      exact ⟨by omega, h.2⟩
/-- What SpellOf answers. -/
def spA (zs : List Int) (lv : Int) : Int := if sqB zs then (spF zs lv zs.length : Int) else 0
def spN (zs : List Int) (lv : Int) : Int := if sqB zs then (spM zs lv zs.length : Int) else 0
theorem sp_yes {zs : List Int} (lv : Int) (h : sqB zs = true) : spA zs lv = (spF zs lv zs.length : Int) ∧ spN zs lv = (spM zs lv zs.length : Int) := by simp [spA, spN, h]
theorem sp_no {zs : List Int} (lv : Int) (h : sqB zs = false) : spA zs lv = 0 ∧ spN zs lv = 0 := by simp [spA, spN, h]

/-- The greatest value of the first days (-1000 if there is none), and whether a day is a record. -/
def rcG (zs : List Int) : Nat → Int
  | 0 => -1000
  | k + 1 => if zs.getD k 0 ≠ -9999 ∧ rcG zs k < zs.getD k 0 then zs.getD k 0 else rcG zs k
def rcB (zs : List Int) (k : Nat) : Bool := (zs.getD k 0 != -9999) && decide (rcG zs k < zs.getD k 0)
def rcl (zs : List Int) : Nat → List Int
  | 0 => []
  | k + 1 => if rcB zs k then rcl zs k ++ [(k : Int)] else rcl zs k
theorem rc_cases (zs : List Int) (k : Nat) : (zs.getD k 0 = -9999 ∧ rcG zs (k + 1) = rcG zs k ∧ rcl zs (k + 1) = rcl zs k ∧ rcB zs k = false) ∨
    (zs.getD k 0 ≠ -9999 ∧ zs.getD k 0 ≤ rcG zs k ∧ rcG zs (k + 1) = rcG zs k ∧ rcl zs (k + 1) = rcl zs k ∧ rcB zs k = false) ∨
    (zs.getD k 0 ≠ -9999 ∧ rcG zs k < zs.getD k 0 ∧ rcG zs (k + 1) = zs.getD k 0 ∧ rcl zs (k + 1) = rcl zs k ++ [(k : Int)] ∧ rcB zs k = true) := by
  by_cases h : zs.getD k 0 = -9999
  · have hb : rcB zs k = false := by rw [rcB, h]; rfl
    left; exact ⟨h, by rw [rcG, if_neg (fun e => e.1 h)], by rw [rcl, hb]; rfl, hb⟩
  · have h1 : (zs.getD k 0 != -9999) = true := bne_iff_ne.2 h
    by_cases h2 : rcG zs k < zs.getD k 0
    · have hb : rcB zs k = true := by rw [rcB, h1, decide_eq_true h2]; rfl
      right; right; exact ⟨h, h2, by rw [rcG, if_pos ⟨h, h2⟩], by rw [rcl, hb]; rfl, hb⟩
    · have hb : rcB zs k = false := by rw [rcB, h1, decide_eq_false h2]; rfl
      right; left; exact ⟨h, by omega, by rw [rcG, if_neg (fun e => h2 e.2)], by rw [rcl, hb]; rfl, hb⟩
theorem rcl_len (zs : List Int) : ∀ k, (rcl zs k).length ≤ k
  | 0 => Nat.le_refl _
  | k + 1 => by have := rcl_len zs k; simp only [rcl]; split <;> simp <;> omega
def rcL (zs : List Int) : List Int := if sqB zs then rcl zs zs.length else []
theorem rcL_yes {zs : List Int} (h : sqB zs = true) : rcL zs = rcl zs zs.length := by simp [rcL, h]
theorem rcL_no {zs : List Int} (h : sqB zs = false) : rcL zs = [] := by simp [rcL, h]
theorem rcL_len (zs : List Int) : (rcL zs).length ≤ 12 := by
  cases h : sqB zs
  · rw [rcL_no h]; simp
  · rw [rcL_yes h]; exact Nat.le_trans (rcl_len _ _) (sq_facts h).2.2
theorem rcG_bd {zs : List Int} (h : sqB zs = true) : ∀ k, k ≤ zs.length → -1000 ≤ rcG zs k ∧ rcG zs k ≤ 10999
  | 0, _ => by simp [rcG]
  | k + 1, hk => by
    have h1 := rcG_bd h k (by omega)
    have h2 := sq_at h (show k < zs.length by omega)
    simp only [rcG]; split <;> omega
theorem rcl_mem (zs : List Int) (i : Nat) : ∀ k, ((i : Int) ∈ rcl zs k ↔ i < k ∧ rcB zs i = true)
  | 0 => by simp [rcl]
  | k + 1 => by
    have ih := rcl_mem zs i k
    simp only [rcl]
    split
    · rename_i hb
      rw [List.mem_append, ih, List.mem_singleton]
      constructor
      · rintro (h | h)
        · exact ⟨by omega, h.2⟩
        · obtain rfl : i = k := by omega
          exact ⟨by omega, hb⟩
      · rintro ⟨h1, h2⟩
        by_cases e : i = k
        · right; omega
        · left; exact ⟨by omega, h2⟩
    · rename_i hb
      rw [ih]
      constructor
      · rintro ⟨h1, h2⟩; exact ⟨by omega, h2⟩
      · rintro ⟨h1, h2⟩
        by_cases e : i = k
        · subst e; exact absurd h2 hb
        · exact ⟨by omega, h2⟩
/-- The law's own look at the days before a day. -/
def rcA (zs : List Int) (i : Nat) : Nat → Bool
  | 0 => zs.getD i 0 != -9999
  | k + 1 => rcA zs i k && (decide (zs.getD k 0 = -9999) || decide (zs.getD k 0 < zs.getD i 0))
theorem rcA_eq (zs : List Int) (i : Nat) (hx : -1000 < zs.getD i 0 ∨ zs.getD i 0 = -9999) : ∀ k, rcA zs i k = ((zs.getD i 0 != -9999) && decide (rcG zs k < zs.getD i 0))
  | 0 => by
    rcases hx with hx | hx
    · rw [rcA, rcG, decide_eq_true hx, Bool.and_true]
    · rw [rcA, hx]; rfl
  | k + 1 => by
    rw [rcA, rcA_eq zs i hx k, rcG]
    generalize zs.getD i 0 = x
    generalize zs.getD k 0 = y
    generalize rcG zs k = g
    cases h3 : (x != -9999)
    · rfl
    · simp only [Bool.true_and]
      by_cases h : y = -9999
      · rw [if_neg (fun e => e.1 h), decide_eq_true h, Bool.true_or, Bool.and_true]
      · rw [decide_eq_false h, Bool.false_or]
        by_cases h2 : g < y
        · rw [if_pos ⟨h, h2⟩]
          rw [Bool.eq_iff_iff, Bool.and_eq_true, decide_eq_true_eq, decide_eq_true_eq]; omega
        · rw [if_neg (fun e => h2 e.2)]
          rw [Bool.eq_iff_iff, Bool.and_eq_true, decide_eq_true_eq, decide_eq_true_eq]; omega
end Go.Proofs.YtohoeonfoolpdaaDoor
