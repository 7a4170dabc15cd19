/- Versions, without the program: histories 'hsL', first versions 'voV', compact stores 'cpL', and what the laws say of them. -/
import Derived.Test.YtamdfdbhkmgflaaSe
namespace Go.Proofs.Ytamdfdbhkmgflaa
open Go.RowKit
set_option linter.unusedVariables false

/-- The values of a key in the first n reports, without repetition. -/
def hsN (rs : List R4) (s d t : Int) : Nat → List Int
  | 0 => []
  | n + 1 => if rM s d t (rs.getD n r0) && decide (vN rs s d t n ≠ rV (rs.getD n r0)) then hsN rs s d t n ++ [rV (rs.getD n r0)] else hsN rs s d t n
def hsL (rs : List R4) (s d t : Int) : List Int := if stB rs then hsN rs s d t rs.length else []
theorem hsL_yes {rs : List R4} (h : stB rs = true) (s d t : Int) : hsL rs s d t = hsN rs s d t rs.length := by simp [hsL, h]
theorem hsL_no {rs : List R4} (h : stB rs = false) (s d t : Int) : hsL rs s d t = [] := by simp [hsL, h]
theorem hsN_len (rs : List R4) (s d t : Int) : ∀ n, (hsN rs s d t n).length ≤ n
  | 0 => Nat.le_refl _
  | n + 1 => by
    have := hsN_len rs s d t n
    unfold hsN; split <;> (try simp only [List.length_append, List.length_cons, List.length_nil]) <;> omega
theorem rB_ne {r : R4} (h : rB r = true) : rV r ≠ -9999 := by
  have := rB_bd h
  omega
theorem at_B {rs : List R4} (h : rs.all rB = true) {k : Nat} (hk : k < rs.length) : rV (rs.getD k r0) ≠ -9999 := rB_ne (rall_at h hk)
/-- A history is empty if there is no value, and ends with the value otherwise. -/
theorem hs_last {rs : List R4} (h : rs.all rB = true) (s d t : Int) : ∀ n, n ≤ rs.length → (hsN rs s d t n = [] ∧ vN rs s d t n = -9999) ∨ ∃ l, hsN rs s d t n = l ++ [vN rs s d t n] ∧ vN rs s d t n ≠ -9999
  | 0, _ => .inl ⟨rfl, rfl⟩
  | n + 1, hn => by
    have ih := hs_last h s d t n (by omega)
    have hv := at_B h (show n < rs.length by omega)
    rw [hsN, vN]
    by_cases hm : rM s d t (rs.getD n r0) = true
    · rw [if_pos hm, hm, Bool.true_and]
      by_cases he : vN rs s d t n = rV (rs.getD n r0)
      · rw [if_neg (by simpa using he)]
        rcases ih with ⟨_, h2⟩ | ⟨l, h1, h2⟩
        · exact absurd (h2.symm.trans he) (fun e => hv e.symm)
        · exact .inr ⟨l, by rw [h1, he], hv⟩
      · rw [if_pos (by simpa using he)]
        exact .inr ⟨_, rfl, hv⟩
    · rw [if_neg hm, if_neg (by rw [Bool.and_eq_true]; exact fun h => hm h.1)]; exact ih
theorem hs_nil {rs : List R4} (h : rs.all rB = true) (s d t : Int) {n : Nat} (hn : n ≤ rs.length) : (hsN rs s d t n).length = 0 ↔ vN rs s d t n = -9999 := by
  rcases hs_last h s d t n hn with ⟨h1, h2⟩ | ⟨l, h1, h2⟩
  · rw [h1, h2]; simp
  · rw [h1]; simp [h2]
theorem hs_end {rs : List R4} (h : rs.all rB = true) (s d t : Int) {n : Nat} (hn : n ≤ rs.length) (h0 : 0 < (hsN rs s d t n).length) : (hsN rs s d t n).getD ((hsN rs s d t n).length - 1) 0 = vN rs s d t n := by
  rcases hs_last h s d t n hn with ⟨h1, h2⟩ | ⟨l, h1, h2⟩
  · rw [h1] at h0; simp at h0
  · rw [h1]; simp
/-- No value is followed by the same one. -/
theorem hs_adj {rs : List R4} (h : rs.all rB = true) (s d t : Int) : ∀ n, n ≤ rs.length → ∀ i, 0 < i → i < (hsN rs s d t n).length → (hsN rs s d t n).getD i 0 ≠ (hsN rs s d t n).getD (i - 1) 0
  | 0, _, i, _, hi => by simp [hsN] at hi
  | n + 1, hn, i, h0, hi => by
    have ih := hs_adj h s d t n (by omega) i h0
    rw [hsN] at hi ⊢
    split
    · rename_i hc
      rw [if_pos hc] at hi
      simp only [Bool.and_eq_true, decide_eq_true_eq] at hc
      simp only [List.length_append, List.length_cons, List.length_nil] at hi
      by_cases hl : i < (hsN rs s d t n).length
      · have := ih hl
        simp only [List.getD_eq_getElem?_getD] at this ⊢
        rw [List.getElem?_append_left hl, List.getElem?_append_left (by omega)]
        exact this
      · have he : i = (hsN rs s d t n).length := by omega
        have := hs_end h s d t (show n ≤ rs.length by omega) (by omega)
        rw [← he] at this
        simp only [List.getD_eq_getElem?_getD] at this ⊢
        rw [List.getElem?_append_right (by omega), List.getElem?_append_left (by omega), this, he]
        simp
        exact fun e => hc.2 (by simpa [List.getD_eq_getElem?_getD] using e.symm)
    · rename_i hc
      rw [if_neg hc] at hi
      exact ih hi
/-- A history has the values of all versions. -/
theorem hs_mem {rs : List R4} (h : rs.all rB = true) (s d t : Int) : ∀ n, n ≤ rs.length → ∀ i, i ≤ n → vN rs s d t i ≠ -9999 → vN rs s d t i ∈ hsN rs s d t n
  | 0, _, i, hi, h0 => by
    obtain rfl : i = 0 := by omega
    exact absurd rfl h0
  | n + 1, hn, i, hi, h0 => by
    by_cases he : i = n + 1
    · rw [he] at h0 ⊢
      rcases hs_last h s d t (n + 1) hn with ⟨_, h2⟩ | ⟨l, h1, _⟩
      · exact absurd h2 h0
      · rw [h1]; simp
    · have := hs_mem h s d t n (by omega) i (by omega) h0
      rw [hsN]; split
      · exact List.mem_append_left _ this
      · exact this
/-- The changes of a key among the first n reports. -/
def kcN (rs : List R4) (s d t : Int) : Nat → Nat
  | 0 => 0
  | n + 1 => if rM s d t (rs.getD n r0) && (decide (vN rs s d t n ≠ -9999) && decide (vN rs s d t n ≠ rV (rs.getD n r0))) then kcN rs s d t n + 1 else kcN rs s d t n
theorem kcN_le (rs : List R4) (s d t : Int) : ∀ n, kcN rs s d t n ≤ n
  | 0 => Nat.le_refl _
  | n + 1 => by have := kcN_le rs s d t n; rw [kcN]; split <;> omega
theorem hs_count {rs : List R4} (h : rs.all rB = true) (s d t : Int) : ∀ n, n ≤ rs.length → ((hsN rs s d t n).length = 0 ∧ kcN rs s d t n = 0) ∨ (hsN rs s d t n).length = kcN rs s d t n + 1
  | 0, _ => .inl ⟨rfl, rfl⟩
  | n + 1, hn => by
    have ih := hs_count h s d t n (by omega)
    have hz := hs_nil h s d t (show n ≤ rs.length by omega)
    rw [hsN, kcN]
    cases hm : rM s d t (rs.getD n r0) <;> simp only [Bool.true_and, Bool.false_and]
    · simpa using ih
    · by_cases he : vN rs s d t n = rV (rs.getD n r0)
      · have : vN rs s d t n ≠ -9999 := he ▸ at_B h (show n < rs.length by omega)
        simpa [he] using ih
      · by_cases h9 : vN rs s d t n = -9999
        · have := hz.2 h9
          rw [if_pos (by simpa using he), if_neg (by simp [h9])]
          right; rw [List.length_append, this]; rcases ih with ⟨_, k⟩ | k
          · rw [k]; rfl
          · omega
        · rw [if_pos (by simpa using he), if_pos (by rw [Bool.and_eq_true, decide_eq_true_eq, decide_eq_true_eq]; exact ⟨h9, he⟩)]
          rcases ih with ⟨k, _⟩ | k
          · exact absurd (hz.1 k) h9
          · right; rw [List.length_append, k]; rfl
/-- What a loop gathers that looks at its own last value. -/
theorem hs_step {rs : List R4} (h : rs.all rB = true) (s d t : Int) {n : Nat} (hn : n < rs.length) :
    hsN rs s d t (n + 1) = if rM s d t (rs.getD n r0) = true ∧ ((hsN rs s d t n).length = 0 ∨ (hsN rs s d t n).getD ((hsN rs s d t n).length - 1) 0 ≠ rV (rs.getD n r0)) then hsN rs s d t n ++ [rV (rs.getD n r0)] else hsN rs s d t n := by
  rw [hsN]
  by_cases hm : rM s d t (rs.getD n r0) = true
  · rw [hm, Bool.true_and]
    by_cases h0 : (hsN rs s d t n).length = 0
    · have h9 := (hs_nil h s d t (Nat.le_of_lt hn)).1 h0
      rw [if_pos (by simpa [h9] using fun e => at_B h hn e.symm), if_pos ⟨rfl, .inl h0⟩]
    · have := hs_end h s d t (Nat.le_of_lt hn) (by omega)
      rw [this]
      by_cases he : vN rs s d t n = rV (rs.getD n r0)
      · rw [if_neg (by simpa using he), if_neg (by rintro ⟨_, h | h⟩; exact h0 h; exact h he)]
      · rw [if_pos (by simpa using he), if_pos ⟨rfl, .inr he⟩]
  · rw [if_neg (by rw [Bool.and_eq_true]; exact fun h => hm h.1), if_neg (by rintro ⟨h, _⟩; exact hm h)]
/-- All values of a key. -/
def haN (rs : List R4) (s d t : Int) : Nat → List Int
  | 0 => []
  | n + 1 => if rM s d t (rs.getD n r0) then haN rs s d t n ++ [rV (rs.getD n r0)] else haN rs s d t n
theorem haN_len (rs : List R4) (s d t : Int) : ∀ n, (haN rs s d t n).length ≤ n
  | 0 => Nat.le_refl _
  | n + 1 => by
    have := haN_len rs s d t n
    unfold haN; split <;> (try simp only [List.length_append, List.length_cons, List.length_nil]) <;> omega
theorem ha_last (rs : List R4) (s d t : Int) : ∀ n, (haN rs s d t n = [] ∧ vN rs s d t n = -9999) ∨ ∃ l, haN rs s d t n = l ++ [vN rs s d t n]
  | 0 => .inl ⟨rfl, rfl⟩
  | n + 1 => by
    have ih := ha_last rs s d t n
    rw [haN, vN]
    split
    · exact .inr ⟨_, rfl⟩
    · exact ih

/-- The first version from m on back with the value of version k. -/
def bkN (rs : List R4) (s d t : Int) (k : Nat) : Nat → Nat
  | 0 => 0
  | m + 1 => if vN rs s d t m = vN rs s d t k then bkN rs s d t k m else m + 1
def voV (rs : List R4) (v s d t : Int) : Int := if svV rs v s d t = -9999 then -1 else (bkN rs s d t v.toNat v.toNat : Int)
theorem bk_le (rs : List R4) (s d t : Int) (k : Nat) : ∀ m, bkN rs s d t k m ≤ m
  | 0 => Nat.le_refl _
  | m + 1 => by have := bk_le rs s d t k m; rw [bkN]; split <;> omega
theorem bk_same (rs : List R4) (s d t : Int) (k : Nat) : ∀ m, vN rs s d t m = vN rs s d t k → ∀ i, bkN rs s d t k m ≤ i → i ≤ m → vN rs s d t i = vN rs s d t k
  | 0, h, i, _, hi => by obtain rfl : i = 0 := by omega
                         exact h
  | m + 1, h, i, h1, h2 => by
    rw [bkN] at h1
    split at h1
    · rename_i he
      by_cases hi : i = m + 1
      · rw [hi]; exact h
      · exact bk_same rs s d t k m he i h1 (by omega)
    · obtain rfl : i = m + 1 := by omega
      exact h
theorem bk_pos (rs : List R4) (s d t : Int) (k : Nat) (h9 : vN rs s d t k ≠ -9999) : ∀ m, vN rs s d t m = vN rs s d t k → 0 < bkN rs s d t k m ∧ vN rs s d t (bkN rs s d t k m - 1) ≠ vN rs s d t k
  | 0, h => absurd h.symm h9
  | m + 1, h => by
    rw [bkN]
    split
    · rename_i he; exact bk_pos rs s d t k h9 m he
    · rename_i he; exact ⟨by omega, he⟩
theorem voV_bd (rs : List R4) (v s d t : Int) (hv : v ≤ 1000) : -1 ≤ voV rs v s d t ∧ voV rs v s d t ≤ 1000 := by
  rw [voV]; split
  · omega
  · have := bk_le rs s d t v.toNat v.toNat; omega
theorem svV_some {rs : List R4} {v s d t : Int} (h : svV rs v s d t ≠ -9999) : ∃ m : Nat, v = (m : Int) ∧ m ≤ rs.length ∧ stB rs = true ∧ svV rs v s d t = vN rs s d t m := by
  cases hv : vrB rs v with
  | false => exact absurd (svV_no hv s d t) h
  | true =>
    obtain ⟨h1, _, m, rfl, h2⟩ := vrB_facts hv
    exact ⟨m, rfl, h2, h1, svV_yes hv s d t⟩

/-- The reports among the first n that tell something new. -/
def nwB (rs : List R4) (k : Nat) : Bool := decide (vN rs (rS (rs.getD k r0)) (rD (rs.getD k r0)) (rK (rs.getD k r0)) k ≠ rV (rs.getD k r0))
def cpN (rs : List R4) : Nat → List R4
  | 0 => []
  | n + 1 => if nwB rs n then cpN rs n ++ [rs.getD n r0] else cpN rs n
def cpL (rs : List R4) : List R4 := if stB rs then cpN rs rs.length else []
theorem cpL_yes {rs : List R4} (h : stB rs = true) : cpL rs = cpN rs rs.length := by simp [cpL, h]
theorem cpL_no {rs : List R4} (h : stB rs = false) : cpL rs = [] := by simp [cpL, h]
theorem cpN_len (rs : List R4) : ∀ n, (cpN rs n).length ≤ n
  | 0 => Nat.le_refl _
  | n + 1 => by
    have := cpN_len rs n
    unfold cpN; split <;> (try simp only [List.length_append, List.length_cons, List.length_nil]) <;> omega
theorem vN_app (A B : List R4) (s d t : Int) : ∀ n, n ≤ A.length → vN (A ++ B) s d t n = vN A s d t n
  | 0, _ => rfl
  | n + 1, h => by
    have e : (A ++ B).getD n r0 = A.getD n r0 := by simp [List.getD_eq_getElem?_getD, List.getElem?_append_left (show n < A.length by omega)]
    rw [vN, vN, e, vN_app A B s d t n (by omega)]
theorem vN_end (A : List R4) (r : R4) (s d t : Int) : vN (A ++ [r]) s d t (A ++ [r]).length = if rM s d t r then rV r else vN A s d t A.length := by
  have e : (A ++ [r]).getD A.length r0 = r := by simp [List.getD_eq_getElem?_getD]
  rw [List.length_append, List.length_singleton, vN, e, vN_app A [r] s d t A.length (Nat.le_refl _)]
theorem rM_key {s d t : Int} {r : R4} (h : rM s d t r = true) : s = rS r ∧ d = rD r ∧ t = rK r := by
  simp only [rM, Bool.and_eq_true, decide_eq_true_eq] at h; exact ⟨h.1.1.symm, h.1.2.symm, h.2.symm⟩
theorem rM_own (r : R4) : rM (rS r) (rD r) (rK r) r = true := by simp [rM]
/-- A compact store tells the same. -/
theorem cp_same (rs : List R4) (s d t : Int) : ∀ n, vN (cpN rs n) s d t (cpN rs n).length = vN rs s d t n
  | 0 => rfl
  | n + 1 => by
    have ih := cp_same rs s d t n
    rw [cpN, vN]
    by_cases hc : nwB rs n = true
    · rw [if_pos hc, vN_end, ih]
    · rw [if_neg hc, ih]
      by_cases hm : rM s d t (rs.getD n r0) = true
      · rw [if_pos hm]
        obtain ⟨rfl, rfl, rfl⟩ := rM_key hm
        simpa [nwB] using hc
      · rw [if_neg hm]
theorem cp_mem (rs : List R4) : ∀ n, n ≤ rs.length → ∀ x ∈ cpN rs n, x ∈ rs
  | 0, _, x, h => by simp [cpN] at h
  | n + 1, hn, x, h => by
    rw [cpN] at h
    split at h
    · rcases List.mem_append.1 h with h | h
      · exact cp_mem rs n (by omega) x h
      · rw [List.mem_singleton] at h; subst h; exact rgetD_mem (by omega)
    · exact cp_mem rs n (by omega) x h
theorem cp_st {rs : List R4} (h : stB rs = true) : stB (cpL rs) = true := by
  obtain ⟨h1, h2⟩ := stB_facts h
  rw [cpL_yes h]
  exact stB_yes (List.all_eq_true.2 fun x hx => List.all_eq_true.1 h1 x (cp_mem rs _ (Nat.le_refl _) x hx)) (Nat.le_trans (cpN_len rs _) h2)
theorem cp_val {rs : List R4} (h : stB rs = true) (s d t : Int) : svV (cpL rs) ((cpL rs).length : Nat) s d t = svV rs (rs.length : Nat) s d t := by
  have v1 : vrB (cpL rs) ((cpL rs).length : Nat) = true := by simp [vrB, cp_st h, inB]
  have v2 : vrB rs (rs.length : Nat) = true := by simp [vrB, h, inB]
  rw [svV_yes v1, svV_yes v2, cpL_yes h, cp_same]
theorem hsN_app (A B : List R4) (s d t : Int) : ∀ n, n ≤ A.length → hsN (A ++ B) s d t n = hsN A s d t n
  | 0, _ => rfl
  | n + 1, h => by
    have e : (A ++ B).getD n r0 = A.getD n r0 := by simp [List.getD_eq_getElem?_getD, List.getElem?_append_left (show n < A.length by omega)]
    rw [hsN, hsN, e, hsN_app A B s d t n (by omega), vN_app A B s d t n (by omega)]
theorem hsN_end (A : List R4) (r : R4) (s d t : Int) : hsN (A ++ [r]) s d t (A ++ [r]).length = if rM s d t r && decide (vN A s d t A.length ≠ rV r) then hsN A s d t A.length ++ [rV r] else hsN A s d t A.length := by
  have e : (A ++ [r]).getD A.length r0 = r := by simp [List.getD_eq_getElem?_getD]
  rw [List.length_append, List.length_singleton, hsN, e, vN_app A [r] s d t A.length (Nat.le_refl _), hsN_app A [r] s d t A.length (Nat.le_refl _)]
theorem cp_hs (rs : List R4) (s d t : Int) : ∀ n, hsN (cpN rs n) s d t (cpN rs n).length = hsN rs s d t n
  | 0 => rfl
  | n + 1 => by
    have ih := cp_hs rs s d t n
    have hs := cp_same rs s d t n
    rw [cpN, hsN]
    by_cases hc : nwB rs n = true
    · rw [if_pos hc, hsN_end, ih, hs]
    · rw [if_neg hc, ih, if_neg]
      intro h
      simp only [Bool.and_eq_true, decide_eq_true_eq] at h
      obtain ⟨hm, h2⟩ := h
      obtain ⟨rfl, rfl, rfl⟩ := rM_key hm
      exact hc (by simpa [nwB] using h2)
theorem cp_history {rs : List R4} (h : stB rs = true) (s d t : Int) : hsL (cpL rs) s d t = hsL rs s d t := by
  rw [hsL_yes h, hsL_yes (cp_st h), cpL_yes h, cp_hs]
theorem nwB_app (A B : List R4) {n : Nat} (h : n < A.length) : nwB (A ++ B) n = nwB A n := by
  have e : (A ++ B).getD n r0 = A.getD n r0 := by simp [List.getD_eq_getElem?_getD, List.getElem?_append_left h]
  rw [nwB, nwB, e, vN_app A B _ _ _ n (by omega)]
theorem cpN_app (A B : List R4) : ∀ n, n ≤ A.length → cpN (A ++ B) n = cpN A n
  | 0, _ => rfl
  | n + 1, h => by
    have e : (A ++ B).getD n r0 = A.getD n r0 := by simp [List.getD_eq_getElem?_getD, List.getElem?_append_left (show n < A.length by omega)]
    rw [cpN, cpN, e, cpN_app A B n (by omega), nwB_app A B h]
/-- A compact store is its own compact store. -/
theorem cp_twice (rs : List R4) : ∀ n, cpN (cpN rs n) (cpN rs n).length = cpN rs n
  | 0 => rfl
  | n + 1 => by
    have ih := cp_twice rs n
    by_cases hc : nwB rs n = true
    · have e0 : cpN rs (n + 1) = cpN rs n ++ [rs.getD n r0] := by rw [cpN, if_pos hc]
      rw [e0]
      have e : (cpN rs n ++ [rs.getD n r0]).getD (cpN rs n).length r0 = rs.getD n r0 := by simp [List.getD_eq_getElem?_getD]
      have hn : nwB (cpN rs n ++ [rs.getD n r0]) (cpN rs n).length = true := by
        rw [nwB, e, vN_app _ _ _ _ _ _ (Nat.le_refl _), cp_same]
        exact hc
      rw [List.length_append, List.length_singleton, cpN, if_pos hn, e, cpN_app _ _ _ (Nat.le_refl _), ih]
    · have e0 : cpN rs (n + 1) = cpN rs n := by rw [cpN, if_neg hc]
      rw [e0]; exact ih
theorem cp_twiceL {rs : List R4} (h : stB rs = true) : cpL (cpL rs) = cpL rs := by
  rw [cpL_yes (cp_st h)]
  rw [cpL_yes h, cp_twice]
end Go.Proofs.Ytamdfdbhkmgflaa
