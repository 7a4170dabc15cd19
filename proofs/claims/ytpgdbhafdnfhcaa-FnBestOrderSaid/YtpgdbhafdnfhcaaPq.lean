/- Shifts, what the laws say of parts: a median has the least differences; parts turned round and moved. Without the program. -/
import Derived.Test.YtpgdbhafdnfhcaaPc
namespace Go.Proofs.Ytpgdbhafdnfhcaa
open Go.RowKit
set_option linter.unusedVariables false

def pcS : List Int → Int → Int
  | [], _ => 0
  | x :: L, m => dst x m + pcS L m
theorem pcS_app (m : Int) : ∀ A B, pcS (A ++ B) m = pcS A m + pcS B m
  | [], B => by simp [pcS]
  | x :: A, B => by rw [List.cons_append, pcS, pcS, pcS_app m A B]; omega
theorem pcN_take (zs : List Int) (m : Int) : ∀ k, k ≤ zs.length → pcN zs m k = pcS (zs.take k) m
  | 0, _ => rfl
  | k + 1, h => by
    rw [List.take_succ_eq_append_getElem h, pcS_app, ← pcN_take zs m k (by omega), pcN]
    simp [pcS, List.getD_eq_getElem?_getD, show k < zs.length by omega]
theorem pcN_all (zs : List Int) (m : Int) : pcN zs m zs.length = pcS zs m := by
  rw [pcN_take zs m _ (Nat.le_refl _), List.take_length]
theorem pcS_up {m v : Int} (h : m ≤ v) : ∀ L, pcS L m + (v - m) * (cLe L m : Int) ≤ pcS L v + (v - m) * (cGt L m : Int)
  | [] => by simp [pcS, cLe, cGt]
  | x :: L => by
    have ih := pcS_up h L
    rw [pcS, pcS]
    by_cases hx : x ≤ m
    · have e1 : cLe (x :: L) m = cLe L m + 1 := by simp [cLe, hx]
      have e2 : cGt (x :: L) m = cGt L m := by
        have : ¬ m < x := by omega
        simp [cGt, this]
      have e3 : dst x m = m - x := by unfold dst; split <;> omega
      have e4 : dst x v = v - x := by unfold dst; split <;> omega
      rw [e1, e2, e3, e4, Int.natCast_add, Int.mul_add]; omega
    · have e1 : cLe (x :: L) m = cLe L m := by simp [cLe, hx]
      have e2 : cGt (x :: L) m = cGt L m + 1 := by
        have : m < x := by omega
        simp [cGt, this]
      have e3 : dst x m = x - m := by unfold dst; split <;> omega
      have e4 : x - v ≤ dst x v := by unfold dst; split <;> omega
      rw [e1, e2, e3, Int.natCast_add, Int.mul_add]; omega
theorem pcS_down {m v : Int} (h : v ≤ m) : ∀ L, pcS L m + (m - v) * ((cEq L m : Int) + (cGt L m : Int)) ≤ pcS L v + (m - v) * (cLt L m : Int)
  | [] => by simp [pcS, cEq, cGt, cLt]
  | x :: L => by
    have ih := pcS_down h L
    rw [pcS, pcS]
    rcases Int.lt_trichotomy x m with hx | hx | hx
    · have e1 : cLt (x :: L) m = cLt L m + 1 := by simp [cLt, hx]
      have e2 : cGt (x :: L) m = cGt L m := by
        have : ¬ m < x := by omega
        simp [cGt, this]
      have e0 : cEq (x :: L) m = cEq L m := by
        have : ¬ x = m := by omega
        simp [cEq, this]
      have e3 : dst x m = m - x := by unfold dst; split <;> omega
      have e4 : v - x ≤ dst x v := by unfold dst; split <;> omega
      have e5 : (m - v) * (((cLt L m + 1 : Nat) : Int)) = (m - v) * (cLt L m : Int) + (m - v) := by
        rw [Int.natCast_add, Int.mul_add]; omega
      rw [e0, e1, e2, e3, e5]; omega
    · have e1 : cLt (x :: L) m = cLt L m := by
        have : ¬ x < m := by omega
        simp [cLt, this]
      have e2 : cGt (x :: L) m = cGt L m := by
        have : ¬ m < x := by omega
        simp [cGt, this]
      have e0 : cEq (x :: L) m = cEq L m + 1 := by simp [cEq, hx]
      have e3 : dst x m = 0 := by unfold dst; split <;> omega
      have e4 : dst x v = m - v := by unfold dst; split <;> omega
      have e5 : (m - v) * (((cEq L m + 1 : Nat) : Int) + (cGt L m : Int)) = (m - v) * ((cEq L m : Int) + (cGt L m : Int)) + (m - v) := by
        rw [Int.natCast_add, show ((cEq L m : Int) + ((1 : Nat) : Int) + (cGt L m : Int)) = ((cEq L m : Int) + (cGt L m : Int)) + 1 by omega, Int.mul_add, Int.mul_one]
      rw [e0, e1, e2, e3, e4, e5]; omega
    · have e1 : cLt (x :: L) m = cLt L m := by
        have : ¬ x < m := by omega
        simp [cLt, this]
      have e2 : cGt (x :: L) m = cGt L m + 1 := by simp [cGt, hx]
      have e0 : cEq (x :: L) m = cEq L m := by
        have : ¬ x = m := by omega
        simp [cEq, this]
      have e3 : dst x m = x - m := by unfold dst; split <;> omega
      have e4 : dst x v = x - v := by unfold dst; split <;> omega
      have e5 : (m - v) * ((cEq L m : Int) + ((cGt L m + 1 : Nat) : Int)) = (m - v) * ((cEq L m : Int) + (cGt L m : Int)) + (m - v) := by
        rw [Int.natCast_add, show ((cEq L m : Int) + ((cGt L m : Int) + ((1 : Nat) : Int))) = ((cEq L m : Int) + (cGt L m : Int)) + 1 by omega, Int.mul_add, Int.mul_one]
      rw [e0, e1, e2, e3, e4, e5]; omega
/-- A median has the least differences. -/
theorem pc_least {L : List Int} (h0 : 0 < L.length) (v : Int) : pcS L (mdL L) ≤ pcS L v := by
  obtain ⟨h1, h2⟩ := (mdL_iff L _ h0).2 rfl
  have h3 := cGt_parts L (mdL L)
  have h4 := cLe_parts L (mdL L)
  by_cases h : mdL L ≤ v
  · have h5 := pcS_up h L
    have h6 : (v - mdL L) * (cGt L (mdL L) : Int) ≤ (v - mdL L) * (cLe L (mdL L) : Int) := Int.mul_le_mul_of_nonneg_left (by omega) (by omega)
    omega
  · have h5 := pcS_down (show v ≤ mdL L by omega) L
    have h6 : (mdL L - v) * (cLt L (mdL L) : Int) ≤ (mdL L - v) * ((cEq L (mdL L) : Int) + (cGt L (mdL L) : Int)) := Int.mul_le_mul_of_nonneg_left (by omega) (by omega)
    omega
theorem pcS_perm {A B : List Int} (h : A.Perm B) (m : Int) : pcS A m = pcS B m := by
  induction h with
  | nil => rfl
  | cons x _ ih => rw [pcS, pcS, ih]
  | swap x y l => simp only [pcS]; omega
  | trans _ _ ih1 ih2 => rw [ih1, ih2]
theorem pcS_add (d m : Int) : ∀ L : List Int, pcS (L.map (· + d)) (m + d) = pcS L m
  | [] => rfl
  | x :: L => by
    rw [List.map_cons, pcS, pcS, pcS_add d m L]
    have : dst (x + d) (m + d) = dst x m := by unfold dst; split <;> split <;> omega
    rw [this]
theorem pcV_S {zs : List Int} (h : shB zs = true) : pcV zs = pcS zs (mdL zs) := by rw [pcV_yes h, pcN_all]
theorem shB_rev (zs : List Int) : shB zs.reverse = shB zs := by
  rw [shB, shB, sq_rev, List.length_reverse]
  congr 2
  exact decide_eq_decide.2 (by rw [List.mem_reverse])
theorem pcV_rev (zs : List Int) : pcV zs.reverse = pcV zs := by
  cases h : shB zs
  · rw [pcV_no h, pcV_no (by rw [shB_rev]; exact h)]
  · rw [pcV_S h, pcV_S (by rw [shB_rev]; exact h), mdL_perm (List.reverse_perm zs), pcS_perm (List.reverse_perm zs)]
theorem pcV_add {zs : List Int} (h : shB zs = true) (h2 : shB (zs.map add1) = true) : pcV (zs.map add1) = pcV zs := by
  have e : zs.map add1 = zs.map (· + 1) := List.map_congr_left fun x hx => by
    have := sh_all h x hx
    unfold add1; split <;> omega
  rw [pcV_S h2, pcV_S h, e]
  have h0 : 0 < zs.length := (sq_facts (shB_facts h).1).2.1
  rw [mdL_add h0, pcS_add]
end Go.Proofs.Ytpgdbhafdnfhcaa
