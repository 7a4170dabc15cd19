/- The changes of a compact store are as many as those of the store; a key's changes among all changes. -/
import Derived.Test.YtlaajompcbmdoabVe
import Derived.Test.YtlaajompcbmdoabSg
namespace Go.Proofs.Ytlaajompcbmdoab
open Go.RowKit
set_option linter.unusedVariables false

theorem chB_app (A B : List R4) {n : Nat} (h : n < A.length) : chB (A ++ B) n = chB A n := by
  have e : (A ++ B).getD n r0 = A.getD n r0 := by simp [List.getD_eq_getElem?_getD, List.getElem?_append_left h]
  rw [chB, chB, e, vN_app A B _ _ _ n (by omega)]
theorem scN_app (A B : List R4) : ∀ n, n ≤ A.length → scN (A ++ B) n = scN A n
  | 0, _ => rfl
  | n + 1, h => by rw [scN, scN, scN_app A B n (by omega), chB_app A B h]
theorem cp_sc (rs : List R4) : ∀ n, (scN (cpN rs n) (cpN rs n).length).length = (scN rs n).length
  | 0 => rfl
  | n + 1 => by
    have ih := cp_sc rs n
    by_cases hc : nwB rs n = true
    · have e0 : cpN rs (n + 1) = cpN rs n ++ [rs.getD n r0] := by rw [cpN, if_pos hc]
      have e : (cpN rs n ++ [rs.getD n r0]).getD (cpN rs n).length r0 = rs.getD n r0 := by simp [List.getD_eq_getElem?_getD]
      have hch : chB (cpN rs n ++ [rs.getD n r0]) (cpN rs n).length = chB rs n := by
        rw [chB, chB, e, vN_app _ _ _ _ _ _ (Nat.le_refl _), cp_same]
      rw [e0, List.length_append, List.length_singleton, scN, scN, hch, scN_app _ _ _ (Nat.le_refl _)]
      split
      · rw [List.length_append, List.length_append, ih]; rfl
      · exact ih
    · have e0 : cpN rs (n + 1) = cpN rs n := by rw [cpN, if_neg hc]
      have hch : chB rs n = false := by
        have hc : nwB rs n = false := by simpa using hc
        rw [nwB] at hc
        rw [chB, hc, Bool.and_false]
      rw [e0, scN, hch]; exact ih
theorem cp_changes {rs : List R4} (h : stB rs = true) : (scL (cpL rs)).length = (scL rs).length := by
  rw [scL_yes h, scL_yes (cp_st h), cpL_yes h, cp_sc]
theorem mem_sc (rs : List R4) (i : Nat) : ∀ n, (i : Int) ∈ scN rs n ↔ i < n ∧ chB rs i = true
  | 0 => by simp [scN]
  | n + 1 => by
    have ih := mem_sc rs i n
    rw [scN]
    by_cases hc : chB rs n = true
    · rw [if_pos hc, List.mem_append, ih, List.mem_singleton]
      constructor
      · rintro (⟨h1, h2⟩ | h)
        · exact ⟨by omega, h2⟩
        · obtain rfl : i = n := by omega
          exact ⟨by omega, hc⟩
      · rintro ⟨h1, h2⟩
        by_cases h : i = n
        · right; omega
        · left; exact ⟨by omega, h2⟩
    · rw [if_neg hc, ih]
      constructor
      · rintro ⟨h1, h2⟩; exact ⟨by omega, h2⟩
      · rintro ⟨h1, h2⟩
        by_cases h : i = n
        · subst h; exact absurd h2 hc
        · exact ⟨by omega, h2⟩
/-- A change of a key, as a law counts it. -/
theorem kc_step (rs : List R4) (s d t : Int) (n : Nat) : kcN rs s d t (n + 1) = if chB rs n = true ∧ rS (rs.getD n r0) = s ∧ rD (rs.getD n r0) = d ∧ rK (rs.getD n r0) = t then kcN rs s d t n + 1 else kcN rs s d t n := by
  rw [kcN]
  by_cases hm : rM s d t (rs.getD n r0) = true
  · rw [hm, Bool.true_and]
    obtain ⟨rfl, rfl, rfl⟩ := rM_key hm
    show (if chB rs n = true then _ else _) = _
    by_cases hc : chB rs n = true
    · rw [if_pos hc, if_pos ⟨hc, rfl, rfl, rfl⟩]
    · rw [if_neg hc, if_neg (fun h => hc h.1)]
  · rw [if_neg (by rw [Bool.and_eq_true]; exact fun h => hm h.1), if_neg]
    rintro ⟨_, rfl, rfl, rfl⟩
    exact hm (rM_own _)
end Go.Proofs.Ytlaajompcbmdoab
