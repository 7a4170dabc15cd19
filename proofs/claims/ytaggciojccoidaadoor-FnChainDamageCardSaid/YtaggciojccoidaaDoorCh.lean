/- Sums of versions, without the program: 'chL' (ChainOf), 'ckV' (ChainCheck), and what the laws say of them. -/
import Derived.Test.YtaggciojccoidaaDoorTx
import Derived.Test.YtaggciojccoidaaDoorSy
namespace Go.Proofs.YtaggciojccoidaaDoor
open Go.RowKit
set_option linter.unusedVariables false

/-- A sum goes on with the bytes of a text. -/
def chF (n : Nat) (l : List UInt8) : Nat := l.foldl (fun n b => (31 * n + b.toNat) % 9973) n
theorem chF_snoc (n : Nat) (l : List UInt8) (b : UInt8) : chF n (l ++ [b]) = (31 * chF n l + b.toNat) % 9973 := by simp [chF, List.foldl_append]
theorem chF_lt {n : Nat} (h : n < 9973) (l : List UInt8) : chF n l < 9973 := by
  rcases List.eq_nil_or_concat l with rfl | ⟨l', b, rfl⟩
  · simpa [chF] using h
  · rw [List.concat_eq_append, chF_snoc]; omega
theorem ch_next {s : ByteArray} {k : Nat} (n : Nat) (h : k < s.size) : chF n (s.data.toList.take (k + 1)) = (31 * chF n (s.data.toList.take k) + s[k].toNat) % 9973 := by
  have e : s.data.toList.take (k + 1) = s.data.toList.take k ++ [s[k]] := by
    rw [List.take_succ_eq_append_getElem (by simpa using h)]
    rfl
  rw [e, chF_snoc]
theorem ch_all (n : Nat) (s : ByteArray) : chF n (s.data.toList.take s.size) = chF n s.data.toList := by
  rw [List.take_of_length_le (by simp)]
/-- The text of a report. -/
def txR (r : R4) : ByteArray := tx (rS r) (rD r) (rK r) (rV r)
/-- The sum of the first n reports. -/
def chN (rs : List R4) : Nat → Nat
  | 0 => 1
  | n + 1 => chF (chN rs n) (txR (rs.getD n r0)).data.toList
theorem chN_lt (rs : List R4) : ∀ n, chN rs n < 9973
  | 0 => by simp [chN]
  | n + 1 => chF_lt (chN_lt rs n) _
theorem chN_take (rs : List R4) (k : Nat) : ∀ n, n ≤ k → chN (rs.take k) n = chN rs n
  | 0, _ => rfl
  | n + 1, hn => by
    rw [chN, chN, chN_take rs k n (by omega)]
    congr 3
    simp [List.getD_eq_getElem?_getD, show n < k by omega]
/-- The first n sums. -/
def chP (rs : List R4) (n : Nat) : List Int := (List.range n).map fun i => (chN rs (i + 1) : Int)
theorem chP_succ (rs : List R4) (n : Nat) : chP rs (n + 1) = chP rs n ++ [(chN rs (n + 1) : Int)] := by simp [chP, List.range_succ]
theorem chP_len (rs : List R4) (n : Nat) : (chP rs n).length = n := by simp [chP]
theorem chP_at (rs : List R4) {n k : Nat} (h : k < n) : (chP rs n).getD k 0 = (chN rs (k + 1) : Int) := by
  simp [chP, List.getD_eq_getElem?_getD, h]
theorem chP_take (rs : List R4) {n k : Nat} (h : k ≤ n) : (chP rs n).take k = chP rs k := by
  unfold chP
  rw [← List.map_take, List.take_range, Nat.min_eq_left h]
theorem chP_of_take (rs : List R4) (k : Nat) : chP (rs.take k) k = chP rs k := by
  unfold chP
  refine List.map_congr_left fun i hi => ?_
  have := List.mem_range.1 hi
  rw [chN_take rs k (i + 1) (by omega)]
def chL (rs : List R4) : List Int := if stB rs then chP rs rs.length else []
theorem chL_yes {rs : List R4} (h : stB rs = true) : chL rs = chP rs rs.length := by simp [chL, h]
theorem chL_no {rs : List R4} (h : stB rs = false) : chL rs = [] := by simp [chL, h]
theorem chL_len {rs : List R4} : (chL rs).length ≤ 40 := by
  cases h : stB rs
  · rw [chL_no h]; simp
  · rw [chL_yes h, chP_len]; exact (stB_facts h).2
/-- How far two lists agree. -/
def ckG : List Int → List Int → Nat
  | x :: xs, y :: ys => if x = y then ckG xs ys + 1 else 0
  | _, _ => 0
theorem ckG_le : ∀ (a b : List Int), ckG a b ≤ a.length ∧ ckG a b ≤ b.length
  | [], b => by simp [ckG]
  | x :: xs, [] => by simp [ckG]
  | x :: xs, y :: ys => by
    have := ckG_le xs ys
    rw [ckG]; split <;> simp <;> omega
theorem ckG_stop : ∀ (a b : List Int) (k : Nat), k ≤ a.length → (∀ j, j < k → j < b.length ∧ b.getD j 0 = a.getD j 0) → (k = a.length ∨ b.length ≤ k ∨ b.getD k 0 ≠ a.getD k 0) → ckG a b = k
  | [], b, k, hk, _, _ => by
    have : k = 0 := by simpa using hk
    subst this; simp [ckG]
  | x :: xs, [], k, hk, h, h2 => by
    cases k with
    | zero => simp [ckG]
    | succ k => have := (h 0 (by omega)).1; simp at this
  | x :: xs, y :: ys, k, hk, h, h2 => by
    cases k with
    | zero =>
      rcases h2 with h2 | h2 | h2
      · simp at h2
      · simp at h2
      · have h3 : y ≠ x := by simpa using h2
        rw [ckG, if_neg (fun e => h3 e.symm)]
    | succ k =>
      have h0 : y = x := by simpa using (h 0 (by omega)).2
      rw [ckG, if_pos h0.symm, ckG_stop xs ys k (by simpa using hk) (fun j hj => by have := h (j + 1) (by omega); simpa using this) (by simpa using h2)]
def ckV (rs : List R4) (sums : List Int) : Int := if stB rs then (ckG (chP rs rs.length) sums : Int) else -1
theorem ckV_no {rs : List R4} {sums : List Int} (h : stB rs = false) : ckV rs sums = -1 := by simp [ckV, h]
theorem ckV_yes {rs : List R4} {sums : List Int} (h : stB rs = true) : ckV rs sums = (ckG (chP rs rs.length) sums : Int) := by simp [ckV, h]
theorem ckV_bd (rs : List R4) (sums : List Int) : -1 ≤ ckV rs sums ∧ ckV rs sums ≤ 40 := by
  cases h : stB rs
  · rw [ckV_no h]; omega
  · rw [ckV_yes h]
    have := (ckG_le (chP rs rs.length) sums).1
    rw [chP_len] at this
    have := (stB_facts h).2
    omega
/-- Where the loop over the sums ends. -/
theorem ck_stop {rs : List R4} {sums : List Int} (h : stB rs = true) {k : Nat} (hk : k ≤ rs.length) (ha : ∀ j, j < k → j < sums.length ∧ sums.getD j 0 = (chP rs rs.length).getD j 0) (hs : k = rs.length ∨ sums.length ≤ k ∨ sums.getD k 0 ≠ (chP rs rs.length).getD k 0) : ckV rs sums = (k : Int) := by
  rw [ckV_yes h, ckG_stop (chP rs rs.length) sums k (by rw [chP_len]; exact hk) ha (by rw [chP_len]; exact hs)]
/-- A store with another report from place k on has the same sums ahead of it. -/
theorem chN_set (rs : List R4) (k : Nat) (r : R4) : ∀ n, n ≤ k → chN (rs.set k r) n = chN rs n
  | 0, _ => rfl
  | n + 1, hn => by
    rw [chN, chN, chN_set rs k r n (by omega)]
    congr 3
    simp [List.getD_eq_getElem?_getD, show k ≠ n by omega]
theorem ck_set {rs : List R4} {k : Nat} {r : R4} (h : stB (rs.set k r) = true) (hk : k < rs.length) (hd : (chP rs rs.length).getD k 0 ≠ (chP (rs.set k r) rs.length).getD k 0) : ckV (rs.set k r) (chP rs rs.length) = (k : Int) := by
  refine ck_stop h (by rw [List.length_set]; omega) (fun j hj => ?_) (.inr (.inr ?_))
  · rw [List.length_set, chP_len, chP_at rs (by omega), chP_at _ (by omega), chN_set rs k r (j + 1) (by omega)]
    exact ⟨by omega, rfl⟩
  · rw [List.length_set]; exact hd
end Go.Proofs.YtaggciojccoidaaDoor
