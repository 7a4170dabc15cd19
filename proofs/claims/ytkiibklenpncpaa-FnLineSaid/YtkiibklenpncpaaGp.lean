/- Gaps, without the program: the least and the greatest value of a day 'gLo', 'gHi', found from all values at once, or from the first day on 'gfw' and from the last one on. -/
import Derived.Test.YtkiibklenpncpaaFgm
namespace Go.Proofs.Ytkiibklenpncpaa
open Go.RowKit
set_option linter.unusedVariables false

/-- How far two days are from each other, times a step. -/
def gFar (i j : Nat) (st : Int) : Int := ((if i < j then j - i else i - j : Nat) : Int) * st
/-- The least value of day i by the first k values. -/
def gLo (zs : List Int) (lo st : Int) (i : Nat) : Nat → Int
  | 0 => lo
  | k + 1 => if zs.getD k 0 = -9999 then gLo zs lo st i k else max (gLo zs lo st i k) (zs.getD k 0 - gFar k i st)
def gHi (zs : List Int) (hi st : Int) (i : Nat) : Nat → Int
  | 0 => hi
  | k + 1 => if zs.getD k 0 = -9999 then gHi zs hi st i k else min (gHi zs hi st i k) (zs.getD k 0 + gFar k i st)
theorem gFar_succ {i j : Nat} (h : j ≤ i) (st : Int) : gFar j (i + 1) st = gFar j i st + st := by
  unfold gFar
  have e1 : ((if j < i + 1 then i + 1 - j else j - (i + 1) : Nat) : Int) = ((if j < i then i - j else j - i : Nat) : Int) + 1 := by split <;> split <;> omega
  rw [e1, Int.add_mul, Int.one_mul]
theorem gFar_pred {i j : Nat} (h : i < j) (st : Int) : gFar j i st = gFar j (i + 1) st + st := by
  unfold gFar
  have e1 : ((if j < i then i - j else j - i : Nat) : Int) = ((if j < i + 1 then i + 1 - j else j - (i + 1) : Nat) : Int) + 1 := by split <;> split <;> omega
  rw [e1, Int.add_mul, Int.one_mul]
theorem gFar_self (i : Nat) (st : Int) : gFar i i st = 0 := by simp [gFar]
theorem gFar_nn {i j : Nat} {st : Int} (h : 0 ≤ st) : 0 ≤ gFar i j st := Int.mul_nonneg (Int.natCast_nonneg _) h
theorem gFar_comm (i j : Nat) (st : Int) : gFar i j st = gFar j i st := by
  unfold gFar; congr 2; split <;> split <;> omega
theorem gFar_bd {i j : Nat} {st : Int} (hi : i < 12) (hj : j < 12) (h0 : 0 ≤ st) (h1 : st ≤ 20000) : 0 ≤ gFar i j st ∧ gFar i j st ≤ 220000 := by
  refine ⟨gFar_nn h0, ?_⟩
  unfold gFar
  generalize hd : (if i < j then j - i else i - j : Nat) = d
  have h3 : d ≤ 11 := by split at hd <;> omega
  have h4 : (d : Int) * st ≤ 11 * st := Int.mul_le_mul_of_nonneg_right (by omega) h0
  omega
theorem gLo_none {zs : List Int} {lo st : Int} {i k : Nat} (h : zs.getD k 0 = -9999) : gLo zs lo st i (k + 1) = gLo zs lo st i k := by simp only [gLo, if_pos h]
theorem gLo_some {zs : List Int} {lo st : Int} {i k : Nat} (h : zs.getD k 0 ≠ -9999) : gLo zs lo st i (k + 1) = max (gLo zs lo st i k) (zs.getD k 0 - gFar k i st) := by simp only [gLo, if_neg h]
theorem gHi_none {zs : List Int} {hi st : Int} {i k : Nat} (h : zs.getD k 0 = -9999) : gHi zs hi st i (k + 1) = gHi zs hi st i k := by simp only [gHi, if_pos h]
theorem gHi_some {zs : List Int} {hi st : Int} {i k : Nat} (h : zs.getD k 0 ≠ -9999) : gHi zs hi st i (k + 1) = min (gHi zs hi st i k) (zs.getD k 0 + gFar k i st) := by simp only [gHi, if_neg h]
theorem gLo_ge (zs : List Int) (lo st : Int) (i : Nat) : ∀ k, lo ≤ gLo zs lo st i k
  | 0 => Int.le_refl _
  | k + 1 => by have := gLo_ge zs lo st i k; simp only [gLo]; split <;> omega
theorem gHi_le (zs : List Int) (hi st : Int) (i : Nat) : ∀ k, gHi zs hi st i k ≤ hi
  | 0 => Int.le_refl _
  | k + 1 => by have := gHi_le zs hi st i k; simp only [gHi]; split <;> omega
theorem gLo_mono (zs : List Int) (lo st : Int) (i : Nat) {k m : Nat} (h : k ≤ m) : gLo zs lo st i k ≤ gLo zs lo st i m := by
  induction m with
  | zero => obtain rfl : k = 0 := by omega
            exact Int.le_refl _
  | succ m ih =>
    by_cases e : k = m + 1
    · rw [e]; exact Int.le_refl _
    · have := ih (by omega)
      simp only [gLo]; split <;> omega
theorem gHi_mono (zs : List Int) (hi st : Int) (i : Nat) {k m : Nat} (h : k ≤ m) : gHi zs hi st i m ≤ gHi zs hi st i k := by
  induction m with
  | zero => obtain rfl : k = 0 := by omega
            exact Int.le_refl _
  | succ m ih =>
    by_cases e : k = m + 1
    · rw [e]; exact Int.le_refl _
    · have := ih (by omega)
      simp only [gHi]; split <;> omega
/-- From a day to the next one. -/
theorem gLo_next (zs : List Int) (lo st : Int) (h0 : 0 ≤ st) (i : Nat) : ∀ k, k ≤ i + 1 → gLo zs lo st (i + 1) k = max lo (gLo zs lo st i k - st)
  | 0, _ => by simp only [gLo]; omega
  | k + 1, h => by
    have ih := gLo_next zs lo st h0 i k (by omega)
    by_cases e : zs.getD k 0 = -9999
    · rw [gLo_none e, gLo_none e, ih]
    · rw [gLo_some e, gLo_some e, ih, gFar_succ (show k ≤ i by omega)]; omega
theorem gHi_next (zs : List Int) (hi st : Int) (h0 : 0 ≤ st) (i : Nat) : ∀ k, k ≤ i + 1 → gHi zs hi st (i + 1) k = min hi (gHi zs hi st i k + st)
  | 0, _ => by simp only [gHi]; omega
  | k + 1, h => by
    have ih := gHi_next zs hi st h0 i k (by omega)
    by_cases e : zs.getD k 0 = -9999
    · rw [gHi_none e, gHi_none e, ih]
    · rw [gHi_some e, gHi_some e, ih, gFar_succ (show k ≤ i by omega)]; omega
/-- From a day back to the one before. -/
theorem gLo_prev (zs : List Int) (lo st : Int) (h0 : 0 ≤ st) (i : Nat) : ∀ m, gLo zs lo st i (i + 1 + m) = max (gLo zs lo st i (i + 1)) (gLo zs lo st (i + 1) (i + 1 + m) - st)
  | 0 => by
    have h1 := gLo_next zs lo st h0 i (i + 1) (Nat.le_refl _)
    have h2 := gLo_ge zs lo st i (i + 1)
    rw [Nat.add_zero, h1]; omega
  | m + 1 => by
    have ih := gLo_prev zs lo st h0 i m
    rw [show i + 1 + (m + 1) = (i + 1 + m) + 1 by omega]
    by_cases e : zs.getD (i + 1 + m) 0 = -9999
    · rw [gLo_none e, gLo_none e, ih]
    · rw [gLo_some e, gLo_some e, ih, gFar_pred (show i < i + 1 + m by omega)]; omega
theorem gHi_prev (zs : List Int) (hi st : Int) (h0 : 0 ≤ st) (i : Nat) : ∀ m, gHi zs hi st i (i + 1 + m) = min (gHi zs hi st i (i + 1)) (gHi zs hi st (i + 1) (i + 1 + m) + st)
  | 0 => by
    have h1 := gHi_next zs hi st h0 i (i + 1) (Nat.le_refl _)
    have h2 := gHi_le zs hi st i (i + 1)
    rw [Nat.add_zero, h1]; omega
  | m + 1 => by
    have ih := gHi_prev zs hi st h0 i m
    rw [show i + 1 + (m + 1) = (i + 1 + m) + 1 by omega]
    by_cases e : zs.getD (i + 1 + m) 0 = -9999
    · rw [gHi_none e, gHi_none e, ih]
    · rw [gHi_some e, gHi_some e, ih, gFar_pred (show i < i + 1 + m by omega)]; omega
/-- The range of a day by all values. -/
def gL (zs : List Int) (lo st : Int) (i : Nat) : Int := gLo zs lo st i zs.length
def gH (zs : List Int) (hi st : Int) (i : Nat) : Int := gHi zs hi st i zs.length
/-- The range of a day by the values up to it. -/
def fwL (zs : List Int) (lo st : Int) (i : Nat) : Int := gLo zs lo st i (i + 1)
def fwH (zs : List Int) (hi st : Int) (i : Nat) : Int := gHi zs hi st i (i + 1)
/-- .. before its own value is looked at. -/
def nrL (zs : List Int) (lo st : Int) (i : Nat) : Int := gLo zs lo st i i
def nrH (zs : List Int) (hi st : Int) (i : Nat) : Int := gHi zs hi st i i
theorem nrL_zero (zs : List Int) (lo st : Int) : nrL zs lo st 0 = lo := rfl
theorem nrH_zero (zs : List Int) (hi st : Int) : nrH zs hi st 0 = hi := rfl
theorem nrL_succ (zs : List Int) (lo st : Int) (h0 : 0 ≤ st) (i : Nat) : nrL zs lo st (i + 1) = max lo (fwL zs lo st i - st) := gLo_next zs lo st h0 i (i + 1) (Nat.le_refl _)
theorem nrH_succ (zs : List Int) (hi st : Int) (h0 : 0 ≤ st) (i : Nat) : nrH zs hi st (i + 1) = min hi (fwH zs hi st i + st) := gHi_next zs hi st h0 i (i + 1) (Nat.le_refl _)
theorem fwL_none {zs : List Int} {lo st : Int} {i : Nat} (h : zs.getD i 0 = -9999) : fwL zs lo st i = nrL zs lo st i := gLo_none h
theorem fwH_none {zs : List Int} {hi st : Int} {i : Nat} (h : zs.getD i 0 = -9999) : fwH zs hi st i = nrH zs hi st i := gHi_none h
theorem fwL_some {zs : List Int} {lo st : Int} {i : Nat} (h : zs.getD i 0 ≠ -9999) (h2 : nrL zs lo st i ≤ zs.getD i 0) : fwL zs lo st i = zs.getD i 0 := by
  unfold nrL at h2
  rw [fwL, gLo_some h, gFar_self]; omega
theorem fwH_some {zs : List Int} {hi st : Int} {i : Nat} (h : zs.getD i 0 ≠ -9999) (h2 : zs.getD i 0 ≤ nrH zs hi st i) : fwH zs hi st i = zs.getD i 0 := by
  unfold nrH at h2
  rw [fwH, gHi_some h, gFar_self]; omega
/-- Day i agrees with those before it. -/
def fitB (zs : List Int) (lo hi st : Int) (i : Nat) : Prop := zs.getD i 0 = -9999 ∨ (nrL zs lo st i ≤ zs.getD i 0 ∧ zs.getD i 0 ≤ nrH zs hi st i)
/-- What does not fit leaves a day without a value. -/
theorem unfit {zs : List Int} {lo hi st : Int} {i : Nat} (hi' : i < zs.length) (h : ¬ fitB zs lo hi st i) : gH zs hi st i < gL zs lo st i := by
  unfold fitB at h
  have h1 : zs.getD i 0 ≠ -9999 := fun e => h (.inl e)
  have h2 : ¬ (nrL zs lo st i ≤ zs.getD i 0 ∧ zs.getD i 0 ≤ nrH zs hi st i) := fun e => h (.inr e)
  have a := gLo_mono zs lo st i (show i + 1 ≤ zs.length by omega)
  have b := gHi_mono zs hi st i (show i + 1 ≤ zs.length by omega)
  rw [gLo_some h1, gFar_self] at a
  rw [gHi_some h1, gFar_self] at b
  unfold nrL nrH at h2
  unfold gL gH
  omega
/-- As long as all fit, no day up to there is empty. -/
theorem fw_ok {zs : List Int} {lo hi st : Int} (h0 : 0 ≤ st) (hlh : lo ≤ hi) : ∀ i, (∀ j, j ≤ i → fitB zs lo hi st j) → fwL zs lo st i ≤ fwH zs hi st i
  | 0, h => by
    rcases h 0 (Nat.le_refl _) with e | ⟨e1, e2⟩
    · rw [fwL_none e, fwH_none e]; exact hlh
    · by_cases e : zs.getD 0 0 = -9999
      · rw [fwL_none e, fwH_none e]; exact hlh
      · rw [fwL_some e e1, fwH_some e e2]; exact Int.le_refl _
  | i + 1, h => by
    have ih := fw_ok h0 hlh i (fun j hj => h j (by omega))
    have a1 := gLo_ge zs lo st i (i + 1)
    have a2 := gHi_le zs hi st i (i + 1)
    have e3 := nrL_succ zs lo st h0 i
    have e4 := nrH_succ zs hi st h0 i
    unfold fwL at ih e3
    unfold fwH at ih e4
    by_cases e : zs.getD (i + 1) 0 = -9999
    · rw [fwL_none e, fwH_none e, e3, e4]; omega
    · rcases h (i + 1) (Nat.le_refl _) with e' | ⟨e1, e2⟩
      · exact absurd e' e
      · rw [fwL_some e e1, fwH_some e e2]; exact Int.le_refl _
/-- A day is within what the day before allows. -/
theorem fw_step {zs : List Int} {lo hi st : Int} (h0 : 0 ≤ st) {i : Nat} (h : fitB zs lo hi st (i + 1)) : fwL zs lo st i - st ≤ fwL zs lo st (i + 1) ∧ fwH zs hi st (i + 1) ≤ fwH zs hi st i + st := by
  have e3 := nrL_succ zs lo st h0 i
  have e4 := nrH_succ zs hi st h0 i
  by_cases e : zs.getD (i + 1) 0 = -9999
  · rw [fwL_none e, fwH_none e, e3, e4]; omega
  · rcases h with e' | ⟨e1, e2⟩
    · exact absurd e' e
    · rw [fwL_some e e1, fwH_some e e2]; omega
/-- Back from the last day. -/
theorem gL_last {zs : List Int} {lo st : Int} {i : Nat} (h : i + 1 = zs.length) : gL zs lo st i = fwL zs lo st i := by rw [gL, ← h]; rfl
theorem gH_last {zs : List Int} {hi st : Int} {i : Nat} (h : i + 1 = zs.length) : gH zs hi st i = fwH zs hi st i := by rw [gH, ← h]; rfl
theorem gL_prev {zs : List Int} {lo st : Int} (h0 : 0 ≤ st) {i : Nat} (h : i + 1 < zs.length) : gL zs lo st i = max (fwL zs lo st i) (gL zs lo st (i + 1) - st) := by
  have := gLo_prev zs lo st h0 i (zs.length - (i + 1))
  rwa [show i + 1 + (zs.length - (i + 1)) = zs.length by omega] at this
theorem gH_prev {zs : List Int} {hi st : Int} (h0 : 0 ≤ st) {i : Nat} (h : i + 1 < zs.length) : gH zs hi st i = min (fwH zs hi st i) (gH zs hi st (i + 1) + st) := by
  have := gHi_prev zs hi st h0 i (zs.length - (i + 1))
  rwa [show i + 1 + (zs.length - (i + 1)) = zs.length by omega] at this
theorem fw_in (zs : List Int) (lo hi st : Int) (i : Nat) : lo ≤ fwL zs lo st i ∧ fwH zs hi st i ≤ hi := ⟨gLo_ge _ _ _ _ _, gHi_le _ _ _ _ _⟩
/-- If all fit, no day is empty: counted back from the last day. -/
theorem g_ok {zs : List Int} {lo hi st : Int} (h0 : 0 ≤ st) (hlh : lo ≤ hi) (h : ∀ j, j < zs.length → fitB zs lo hi st j) : ∀ m i, i + 1 + m = zs.length → gL zs lo st i ≤ gH zs hi st i ∧ fwL zs lo st i ≤ gL zs lo st i ∧ gH zs hi st i ≤ fwH zs hi st i
  | 0, i, e => by
    rw [gL_last (show i + 1 = zs.length by omega), gH_last (show i + 1 = zs.length by omega)]
    exact ⟨fw_ok h0 hlh i (fun j hj => h j (by omega)), Int.le_refl _, Int.le_refl _⟩
  | m + 1, i, e => by
    have ih := g_ok h0 hlh h m (i + 1) (by omega)
    have h1 := fw_ok h0 hlh i (fun j hj => h j (by omega))
    have h2 := fw_step (lo := lo) (hi := hi) h0 (h (i + 1) (by omega))
    rw [gL_prev h0 (show i + 1 < zs.length by omega), gH_prev h0 (show i + 1 < zs.length by omega)]
    omega
theorem g_all {zs : List Int} {lo hi st : Int} (h0 : 0 ≤ st) (hlh : lo ≤ hi) (h : ∀ j, j < zs.length → fitB zs lo hi st j) {i : Nat} (hi' : i < zs.length) : gL zs lo st i ≤ gH zs hi st i :=
  (g_ok h0 hlh h (zs.length - (i + 1)) i (by omega)).1
/-- Arguments. -/
def gaB (zs : List Int) (lo hi st : Int) : Bool := sqB zs && (rdB lo && (rdB hi && (decide (lo ≤ hi) && inB st 0 19999)))
theorem gaB_facts {zs : List Int} {lo hi st : Int} (h : gaB zs lo hi st = true) : sqB zs = true ∧ (-999 ≤ lo ∧ hi ≤ 10999) ∧ lo ≤ hi ∧ 0 ≤ st ∧ st ≤ 19999 := by
  simp only [gaB, Bool.and_eq_true, decide_eq_true_eq, inB] at h
  have h1 := rd_bd h.2.1
  have h2 := rd_bd h.2.2.1
  exact ⟨h.1, ⟨h1.1, h2.2⟩, h.2.2.2.1, h.2.2.2.2.1, h.2.2.2.2.2⟩
def gAll (zs : List Int) (lo hi st : Int) : Bool := (List.range zs.length).all fun i => decide (gL zs lo st i ≤ gH zs hi st i)
theorem gAll_yes {zs : List Int} {lo hi st : Int} (h : ∀ i, i < zs.length → gL zs lo st i ≤ gH zs hi st i) : gAll zs lo hi st = true := by
  rw [gAll, List.all_eq_true]
  intro i hi; exact decide_eq_true (h i (List.mem_range.1 hi))
theorem gAll_no {zs : List Int} {lo hi st : Int} {i : Nat} (hi' : i < zs.length) (h : gH zs hi st i < gL zs lo st i) : gAll zs lo hi st = false := by
  rw [gAll, List.all_eq_false]
  exact ⟨i, List.mem_range.2 hi', by simp; omega⟩
theorem gAll_at {zs : List Int} {lo hi st : Int} (h : gAll zs lo hi st = true) {i : Nat} (hi' : i < zs.length) : gL zs lo st i ≤ gH zs hi st i := by
  rw [gAll, List.all_eq_true] at h
  exact of_decide_eq_true (h i (List.mem_range.2 hi'))
/-- What FillOf answers. -/
def gOk (zs : List Int) (lo hi st : Int) : Bool := gaB zs lo hi st && gAll zs lo hi st
def gRl (zs : List Int) (lo hi st : Int) : List (Int × Int) := (List.range zs.length).map fun i => (gL zs lo st i, gH zs hi st i)
def gRL (zs : List Int) (lo hi st : Int) : List (Int × Int) := if gOk zs lo hi st then gRl zs lo hi st else []
theorem gRl_len (zs : List Int) (lo hi st : Int) : (gRl zs lo hi st).length = zs.length := by simp [gRl]
theorem gRL_yes {zs : List Int} {lo hi st : Int} (h : gOk zs lo hi st = true) : gRL zs lo hi st = gRl zs lo hi st := by simp [gRL, h]
theorem gRL_no {zs : List Int} {lo hi st : Int} (h : gOk zs lo hi st = false) : gRL zs lo hi st = [] := by simp [gRL, h]

/-- Values of all days that agree. -/
def ffD (zs ds : List Int) (lo hi st : Int) (k : Nat) : Bool := inB (ds.getD k 0) lo hi && ((decide (zs.getD k 0 = -9999) || decide (zs.getD k 0 = ds.getD k 0)) && (decide (k = 0) || inB (ds.getD k 0 - ds.getD (k - 1) 0) (-st) st))
def ffN (zs ds : List Int) (lo hi st : Int) : Nat → Bool
  | 0 => true
  | k + 1 => ffN zs ds lo hi st k && ffD zs ds lo hi st k
theorem ffN_yes {zs ds : List Int} {lo hi st : Int} {k : Nat} (h : ffN zs ds lo hi st k = true) (h2 : ffD zs ds lo hi st k = true) : ffN zs ds lo hi st (k + 1) = true := by rw [ffN, h, h2]; rfl
theorem ffN_no {zs ds : List Int} {lo hi st : Int} {k n : Nat} (h : k < n) (h2 : ffD zs ds lo hi st k = false) : ffN zs ds lo hi st n = false := by
  induction n with
  | zero => omega
  | succ n ih =>
    rw [ffN]
    by_cases e : k = n
    · subst e; rw [h2, Bool.and_false]
    · rw [ih (by omega)]; rfl
theorem ffN_at {zs ds : List Int} {lo hi st : Int} {n : Nat} (h : ffN zs ds lo hi st n = true) {k : Nat} (hk : k < n) : ffD zs ds lo hi st k = true := by
  cases e : ffD zs ds lo hi st k
  · rw [ffN_no hk e] at h; cases h
  · rfl
def ffV (zs ds : List Int) (lo hi st : Int) : Bool := gaB zs lo hi st && (decide (ds.length = zs.length) && ffN zs ds lo hi st zs.length)
theorem ffV_facts {zs ds : List Int} {lo hi st : Int} (h : ffV zs ds lo hi st = true) : gaB zs lo hi st = true ∧ ds.length = zs.length ∧ ffN zs ds lo hi st zs.length = true := by
  simpa [ffV] using h
theorem ffD_facts {zs ds : List Int} {lo hi st : Int} {k : Nat} (h : ffD zs ds lo hi st k = true) : (lo ≤ ds.getD k 0 ∧ ds.getD k 0 ≤ hi) ∧ (zs.getD k 0 = -9999 ∨ zs.getD k 0 = ds.getD k 0) ∧ (k = 0 ∨ (-st ≤ ds.getD k 0 - ds.getD (k - 1) 0 ∧ ds.getD k 0 - ds.getD (k - 1) 0 ≤ st)) := by
  simp only [ffD, inB, Bool.and_eq_true, Bool.or_eq_true, decide_eq_true_eq] at h
  exact h
theorem ffD_of {zs ds : List Int} {lo hi st : Int} {k : Nat} (h : (lo ≤ ds.getD k 0 ∧ ds.getD k 0 ≤ hi) ∧ (zs.getD k 0 = -9999 ∨ zs.getD k 0 = ds.getD k 0) ∧ (k = 0 ∨ (-st ≤ ds.getD k 0 - ds.getD (k - 1) 0 ∧ ds.getD k 0 - ds.getD (k - 1) 0 ≤ st))) : ffD zs ds lo hi st k = true := by
  simp only [ffD, inB, Bool.and_eq_true, Bool.or_eq_true, decide_eq_true_eq]
  exact h
end Go.Proofs.Ytkiibklenpncpaa
