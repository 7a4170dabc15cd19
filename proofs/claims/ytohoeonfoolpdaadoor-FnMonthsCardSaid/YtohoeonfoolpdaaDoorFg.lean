/- Checks of a series, without the program: what a series is 'sqB', the flags of a day 'fl', runs of equal values 'dnR', 'up', cleaned series 'fcL', known values 'knN'. -/
import Derived.Test.YtohoeonfoolpdaaDoorHl
import Derived.Test.YtohoeonfoolpdaaDoorRv
namespace Go.Proofs.YtohoeonfoolpdaaDoor
open Go.RowKit
set_option linter.unusedVariables false

def qB (x : Int) : Bool := decide (x = -9999) || rdB x
def sqB (zs : List Int) : Bool := zs.all qB && decide (1 ≤ zs.length ∧ zs.length ≤ 12)
theorem qB_bd {x : Int} (h : qB x = true) : x = -9999 ∨ (-999 ≤ x ∧ x ≤ 10999) := by
  simp only [qB, Bool.or_eq_true, decide_eq_true_eq] at h
  rcases h with h | h
  · exact .inl h
  · exact .inr (rd_bd h)
theorem qB_wide {x : Int} (h : qB x = true) : -9999 ≤ x ∧ x ≤ 10999 := by have := qB_bd h; omega
theorem qB_no {x : Int} (h : qB x = false) : x ≠ -9999 ∧ (x < -999 ∨ 10999 < x) := by
  simp only [qB, Bool.or_eq_false_iff, decide_eq_false_iff_not] at h
  exact ⟨h.1, rd_no h.2⟩
theorem qB_ne {x : Int} (h : x ≠ -9999) : qB x = rdB x := by rw [qB]; simp [h]
theorem qB_of {x : Int} (h : x = -9999 ∨ (-999 ≤ x ∧ x ≤ 10999)) : qB x = true := by
  cases hq : qB x
  · have := qB_no hq; omega
  · rfl
theorem sq_facts {zs : List Int} (h : sqB zs = true) : zs.all qB = true ∧ 1 ≤ zs.length ∧ zs.length ≤ 12 := by
  simp only [sqB, Bool.and_eq_true, decide_eq_true_eq] at h; exact ⟨h.1, h.2.1, h.2.2⟩
theorem sq_len_no {zs : List Int} (h : ¬ (1 ≤ zs.length ∧ zs.length ≤ 12)) : sqB zs = false := by simp [sqB, h]
theorem sq_all {zs : List Int} (h : zs.all qB = true) (h2 : 1 ≤ zs.length ∧ zs.length ≤ 12) : sqB zs = true := by simp only [sqB, h, h2]; rfl
theorem sq_bad {zs : List Int} (h : zs.all qB = false) : sqB zs = false := by rw [sqB, h]; rfl
theorem sq_at {zs : List Int} (h : sqB zs = true) {k : Nat} (hk : k < zs.length) : zs.getD k 0 = -9999 ∨ (-999 ≤ zs.getD k 0 ∧ zs.getD k 0 ≤ 10999) := qB_bd (all_at (sq_facts h).1 hk)

theorem tw_step (p : Int → Bool) (l : List Int) : ∀ j, j ≤ (l.takeWhile p).length → (j < (l.takeWhile p).length ↔ j < l.length ∧ p (l.getD j 0) = true) := by
  induction l with
  | nil => intro j hj; simp
  | cons y r ih =>
    intro j hj
    by_cases hp : p y = true
    · rw [List.takeWhile_cons_of_pos hp] at hj ⊢
      cases j with
      | zero => simp [hp]
      | succ j =>
        have := ih j (by simpa using hj)
        simpa using this
    · rw [List.takeWhile_cons_of_neg hp] at hj ⊢
      have : j = 0 := by simpa using hj
      subst this
      simp [hp]
/-- How many equal values there are just before a day, and just behind it. -/
def dnR (zs : List Int) (k : Nat) : Nat := ((zs.take k).reverse.takeWhile (· == zs.getD k 0)).length
def up (zs : List Int) (k : Nat) : Nat := ((zs.drop (k + 1)).takeWhile (· == zs.getD k 0)).length
theorem rev_take_at (zs : List Int) {k j : Nat} (hj : j < k) (hk : k < zs.length) : (zs.take k).reverse.getD j 0 = zs.getD (k - 1 - j) 0 := by
  have hl : (zs.take k).length = k := by rw [List.length_take]; omega
  have h1 : j < (zs.take k).length := by omega
  simp only [List.getD_eq_getElem?_getD]
  rw [List.getElem?_reverse h1, hl, List.getElem?_take]
  rw [if_pos (by omega)]
theorem dn_step {zs : List Int} {k j : Nat} (hk : k < zs.length) (hj : j ≤ dnR zs k) : j < dnR zs k ↔ j < k ∧ zs.getD (k - 1 - j) 0 = zs.getD k 0 := by
  have h := tw_step (· == zs.getD k 0) (zs.take k).reverse j hj
  have hl : (zs.take k).reverse.length = k := by rw [List.length_reverse, List.length_take]; omega
  rw [hl] at h
  refine h.trans ⟨fun ⟨h1, h2⟩ => ⟨h1, ?_⟩, fun ⟨h1, h2⟩ => ⟨h1, ?_⟩⟩
  · rw [rev_take_at zs h1 hk] at h2; simpa using h2
  · rw [rev_take_at zs h1 hk]; simpa using h2
theorem dn_le {zs : List Int} {k : Nat} (hk : k < zs.length) : dnR zs k ≤ k := by
  have h := (List.takeWhile_prefix (p := (· == zs.getD k 0)) (l := (zs.take k).reverse)).length_le
  have hl : (zs.take k).reverse.length = k := by rw [List.length_reverse, List.length_take]; omega
  unfold dnR; omega
theorem up_step {zs : List Int} {k j : Nat} (hj : j ≤ up zs k) : j < up zs k ↔ k + 1 + j < zs.length ∧ zs.getD (k + 1 + j) 0 = zs.getD k 0 := by
  have h := tw_step (· == zs.getD k 0) (zs.drop (k + 1)) j hj
  have hl : (zs.drop (k + 1)).length = zs.length - (k + 1) := List.length_drop
  rw [hl] at h
  have hg : (zs.drop (k + 1)).getD j 0 = zs.getD (k + 1 + j) 0 := by simp [List.getD_eq_getElem?_getD]
  rw [hg] at h
  refine h.trans ⟨fun ⟨h1, h2⟩ => ⟨by omega, by simpa using h2⟩, fun ⟨h1, h2⟩ => ⟨by omega, by simpa using h2⟩⟩
theorem up_le {zs : List Int} {k : Nat} (hk : k < zs.length) : k + 1 + up zs k ≤ zs.length := by
  have h := (List.takeWhile_prefix (p := (· == zs.getD k 0)) (l := zs.drop (k + 1))).length_le
  have hl : (zs.drop (k + 1)).length = zs.length - (k + 1) := List.length_drop
  unfold up; omega

def bt (b : Bool) (n : Int) : Int := if b then n else 0
def limB (lo hi x : Int) : Bool := !(inB x lo hi)
def stpB (zs : List Int) (st : Int) (k : Nat) : Bool := decide (0 < k) && (zs.getD (k - 1) 0 != -9999 && !(inB (zs.getD k 0 - zs.getD (k - 1) 0) (-st) st))
def samB (zs : List Int) (k : Nat) : Bool := decide (4 ≤ dnR zs k + 1 + up zs k)
/-- The flags of a day. -/
def fl (zs : List Int) (lo hi st : Int) (k : Nat) : Int := if zs.getD k 0 = -9999 then 1 else bt (limB lo hi (zs.getD k 0)) 2 + bt (stpB zs st k) 4 + bt (samB zs k) 8
def flL (zs : List Int) (lo hi st : Int) : List Int := (List.range zs.length).map fun k => fl zs lo hi st k
theorem flL_len (zs : List Int) (lo hi st : Int) : (flL zs lo hi st).length = zs.length := by simp [flL]
theorem flL_at {zs : List Int} {lo hi st : Int} {k : Nat} (h : k < zs.length) : (flL zs lo hi st).getD k 0 = fl zs lo hi st k := by
  simp [flL, List.getD_eq_getElem?_getD, h]
theorem flL_snoc {zs : List Int} {lo hi st : Int} {k : Nat} (h : k < zs.length) : (flL zs lo hi st).take (k + 1) = (flL zs lo hi st).take k ++ [fl zs lo hi st k] := by
  rw [List.take_succ_eq_append_getElem (by rw [flL_len]; exact h)]
  congr 2
  simp [flL]
def foOk (zs : List Int) (st : Int) : Bool := sqB zs && inB st 0 19999
def foL (zs : List Int) (lo hi st : Int) : List Int := if foOk zs st then flL zs lo hi st else []
theorem foL_no {zs : List Int} {lo hi st : Int} (h : foOk zs st = false) : foL zs lo hi st = [] := by simp [foL, h]
theorem foL_yes {zs : List Int} {lo hi st : Int} (h : foOk zs st = true) : foL zs lo hi st = flL zs lo hi st := by simp [foL, h]
theorem foOk_facts {zs : List Int} {st : Int} (h : foOk zs st = true) : sqB zs = true ∧ 0 ≤ st ∧ st ≤ 19999 := by
  simp only [foOk, inB, Bool.and_eq_true, decide_eq_true_eq] at h; omega
theorem foL_len (zs : List Int) (lo hi st : Int) : (foL zs lo hi st).length ≤ 12 := by
  cases h : foOk zs st
  · rw [foL_no h]; simp
  · rw [foL_yes h, flL_len]; exact (sq_facts (foOk_facts h).1).2.2

/-- The cleaned series. -/
def fcOk (zs fs : List Int) : Bool := sqB zs && (decide (fs.length = zs.length) && fs.all fun f => inB f 0 15)
def fcv (x f : Int) : Int := if f = 0 then x else -9999
def fcl (zs fs : List Int) : List Int := (List.range zs.length).map fun k => fcv (zs.getD k 0) (fs.getD k 0)
def fcL (zs fs : List Int) : List Int := if fcOk zs fs then fcl zs fs else []
theorem fcl_len (zs fs : List Int) : (fcl zs fs).length = zs.length := by simp [fcl]
theorem fcl_at {zs fs : List Int} {k : Nat} (h : k < zs.length) : (fcl zs fs).getD k 0 = fcv (zs.getD k 0) (fs.getD k 0) := by
  simp [fcl, List.getD_eq_getElem?_getD, h]
theorem fcl_snoc {zs fs : List Int} {k : Nat} (h : k < zs.length) : (fcl zs fs).take (k + 1) = (fcl zs fs).take k ++ [fcv (zs.getD k 0) (fs.getD k 0)] := by
  rw [List.take_succ_eq_append_getElem (by rw [fcl_len]; exact h)]
  congr 2
  simp [fcl]
theorem fcL_no {zs fs : List Int} (h : fcOk zs fs = false) : fcL zs fs = [] := by simp [fcL, h]
theorem fcL_yes {zs fs : List Int} (h : fcOk zs fs = true) : fcL zs fs = fcl zs fs := by simp [fcL, h]
theorem fcOk_facts {zs fs : List Int} (h : fcOk zs fs = true) : sqB zs = true ∧ fs.length = zs.length ∧ fs.all (fun f => inB f 0 15) = true := by
  simp only [fcOk, Bool.and_eq_true, decide_eq_true_eq] at h; exact ⟨h.1, h.2.1, h.2.2⟩
theorem fcL_len (zs fs : List Int) : (fcL zs fs).length ≤ 12 := by
  cases h : fcOk zs fs
  · rw [fcL_no h]; simp
  · rw [fcL_yes h, fcl_len]; exact (sq_facts (fcOk_facts h).1).2.2

/-- How many of the first k days have a value. -/
def knN (zs : List Int) : Nat → Nat
  | 0 => 0
  | k + 1 => knN zs k + (if zs.getD k 0 = -9999 then 0 else 1)
theorem knN_le (zs : List Int) : ∀ k, knN zs k ≤ k
  | 0 => Nat.le_refl _
  | k + 1 => by have := knN_le zs k; simp only [knN]; split <;> omega
def sk (zs : List Int) : Int := if sqB zs then (knN zs zs.length : Int) else -1
theorem sk_yes {zs : List Int} (h : sqB zs = true) : sk zs = (knN zs zs.length : Int) := by simp [sk, h]
theorem sk_no {zs : List Int} (h : sqB zs = false) : sk zs = -1 := by simp [sk, h]
end Go.Proofs.YtohoeonfoolpdaaDoor
