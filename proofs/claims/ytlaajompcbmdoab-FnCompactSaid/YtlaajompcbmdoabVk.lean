/- All values of a key, made compact, are its history. -/
import Derived.Test.YtlaajompcbmdoabVe
import Derived.Lib.SlicesCompact
namespace Go.Proofs.Ytlaajompcbmdoab
open Go.RowKit
set_option linter.unusedVariables false

theorem cmp_snoc (zs : List Int) (x : Int) : Lib.compact (zs ++ [x]) = Lib.compact zs ++ (if zs.length = 0 ∨ zs.getD (zs.length - 1) 0 ≠ x then [x] else []) := by
  have ha : ∀ j, j < zs.length → (zs ++ [x]).toArray[j]! = zs.toArray[j]! := fun j hj => by
    rw [getElem!_pos _ j (by simp; omega), getElem!_pos _ j (by simpa using hj)]
    simp [List.getElem_append_left hj]
  have hx : (zs ++ [x]).toArray[zs.length]! = x := by
    rw [getElem!_pos _ zs.length (by simp)]; simp
  have hk : ∀ j, j < zs.length → Lib.keeps (zs ++ [x]).toArray j = Lib.keeps zs.toArray j := fun j hj => by
    unfold Lib.keeps
    rw [ha j hj]
    by_cases h0 : j = 0
    · simp [h0]
    · rw [ha (j - 1) (by omega)]
  have hu : Lib.compactUpTo (zs ++ [x]).toArray zs.length = Lib.compactUpTo zs.toArray zs.length := by
    unfold Lib.compactUpTo
    rw [List.filter_congr (fun j hj => hk j (List.mem_range.1 hj))]
    refine List.map_congr_left fun j hj => ha j ?_
    exact List.mem_range.1 (List.mem_filter.1 hj).1
  have hlast : 0 < zs.length → (zs ++ [x]).toArray[zs.length - 1]! = zs.getD (zs.length - 1) 0 := fun h0 => by
    rw [ha _ (by omega), getElem!_pos _ _ (by simp; omega)]
    simp [List.getD_eq_getElem?_getD, show zs.length - 1 < zs.length by omega]
  unfold Lib.compact
  rw [List.length_append, List.length_singleton, Lib.compactUpTo_succ, hu, hx]
  congr 1
  by_cases h0 : zs.length = 0
  · have hkk : Lib.keeps (zs ++ [x]).toArray zs.length = true := by unfold Lib.keeps; simp [h0]
    rw [if_pos hkk, if_pos (.inl h0)]
  · by_cases he : zs.getD (zs.length - 1) 0 = x
    · rw [if_neg (by rw [Lib.keeps_neg (by omega) (by rw [hx, hlast (by omega), he])]; simp), if_neg]
      rintro (h | h)
      · exact h0 h
      · exact h he
    · rw [if_pos (Lib.keeps_pos (by rw [hx, hlast (by omega)]; exact fun e => he e.symm)), if_pos (.inr he)]
theorem cmp_ha {rs : List R4} (h : rs.all rB = true) (s d t : Int) : ∀ n, n ≤ rs.length → Lib.compact (haN rs s d t n) = hsN rs s d t n
  | 0, _ => rfl
  | n + 1, hn => by
    have ih := cmp_ha h s d t n (by omega)
    rw [haN, hsN]
    by_cases hm : rM s d t (rs.getD n r0) = true
    · rw [if_pos hm, cmp_snoc, ih, hm, Bool.true_and]
      rcases ha_last rs s d t n with ⟨h1, h2⟩ | ⟨l, h1⟩
      · rw [h1, h2]
        rw [if_pos (.inl rfl), if_pos]
        simpa using fun e => at_B h (show n < rs.length by omega) e.symm
      · have h3 : (haN rs s d t n).getD ((haN rs s d t n).length - 1) 0 = vN rs s d t n := by rw [h1]; simp
        have h4 : ¬ (haN rs s d t n).length = 0 := by rw [h1]; simp
        rw [h3]
        by_cases he : vN rs s d t n = rV (rs.getD n r0)
        · rw [if_neg (by rintro (h | h); exact h4 h; exact h he), if_neg (by simpa using he), List.append_nil]
        · rw [if_pos (.inr he), if_pos (by simpa using he)]
    · rw [if_neg hm, if_neg (by rw [Bool.and_eq_true]; exact fun h => hm h.1)]; exact ih
end Go.Proofs.Ytlaajompcbmdoab
