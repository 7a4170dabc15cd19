/- Sums, without the program: the sum of the first days 'su', all of them 'suL', the sum of some days 'sbB', 'sbV', a mean of a sum. -/
import Derived.Test.YtkiibklenpncpaaMe
namespace Go.Proofs.Ytkiibklenpncpaa
open Go.RowKit
set_option linter.unusedVariables false

/-- The sum of the first k days: total and number. -/
def su (zs : List Int) (k : Nat) : Int × Int := (isum (knl (zs.take k)), (knN zs k : Int))
theorem su_zero (zs : List Int) : su zs 0 = (0, 0) := rfl
theorem knl_takeM (zs : List Int) {k : Nat} (h : k < zs.length) : knl (zs.take (k + 1)) = knl (zs.take k) ++ knl [zs.getD k 0] := by
  rw [List.take_succ_eq_append_getElem h, knl, knl, knl, List.filter_append]
  simp [List.getD_eq_getElem?_getD, h]
theorem su_step {zs : List Int} {k : Nat} (h : k < zs.length) : (zs.getD k 0 = -9999 → su zs (k + 1) = su zs k) ∧ (zs.getD k 0 ≠ -9999 → su zs (k + 1) = ((su zs k).1 + zs.getD k 0, (su zs k).2 + 1)) := by
  constructor <;> intro hx
  · have e : knl [zs.getD k 0] = [] := by rw [hx]; rfl
    rw [su, su, knl_takeM zs h, e, List.append_nil]
    simp only [knN, if_pos hx, Nat.add_zero]
  · have hx2 : (zs.getD k 0 != -9999) = true := bne_iff_ne.2 hx
    have e : knl [zs.getD k 0] = [zs.getD k 0] := by simp only [knl, List.filter_cons, hx2, List.filter_nil]; rfl
    rw [su, su, knl_takeM zs h, e, isum_app, isum, isum]
    simp only [knN, if_neg hx, Prod.mk.injEq]
    omega
theorem su_last {zs : List Int} : su zs zs.length = (isum (knl zs), ((knl zs).length : Int)) := by
  rw [su, List.take_length, knN_all]
theorem su_bd {zs : List Int} (h : sqB zs = true) {k : Nat} (hk : k ≤ zs.length) : (-144000 ≤ (su zs k).1 ∧ (su zs k).1 ≤ 144000) ∧ 0 ≤ (su zs k).2 ∧ (su zs k).2 ≤ 12 := by
  have hl := (sq_facts h).2.2
  have hn := knN_le zs k
  have h1 : (knl (zs.take k)).length ≤ 12 := by
    have := knl_le (zs.take k); rw [List.length_take] at this; omega
  have h2 := isum_bd (L := knl (zs.take k)) fun x hx => by
    rw [knl, List.mem_filter] at hx
    rcases qB_bd (List.all_eq_true.1 (sq_facts h).1 x (List.mem_of_mem_take hx.1)) with e | e
    · exact absurd e (by simpa using hx.2)
    · omega
  simp only [su]
  omega
def sul (zs : List Int) : List (Int × Int) := (List.range (zs.length + 1)).map (su zs)
def suL (zs : List Int) : List (Int × Int) := if sqB zs then sul zs else []
theorem suL_yes {zs : List Int} (h : sqB zs = true) : suL zs = sul zs := by simp [suL, h]
theorem suL_no {zs : List Int} (h : sqB zs = false) : suL zs = [] := by simp [suL, h]
theorem sul_len (zs : List Int) : (sul zs).length = zs.length + 1 := by simp [sul]
theorem sul_at {zs : List Int} {k : Nat} (h : k ≤ zs.length) : (sul zs).getD k (0, 0) = su zs k := by
  simp [sul, List.getD_eq_getElem?_getD, show k < zs.length + 1 by omega]
theorem sul_snoc {zs : List Int} {k : Nat} (h : k ≤ zs.length) : (sul zs).take (k + 1) = (sul zs).take k ++ [su zs k] := by
  rw [List.take_succ_eq_append_getElem (by rw [sul_len]; omega)]; simp [sul]
theorem suL_len (zs : List Int) : (suL zs).length ≤ 13 := by
  cases h : sqB zs
  · rw [suL_no h]; simp
  · rw [suL_yes h, sul_len]; have := (sq_facts h).2.2; omega

/-- The sum between two days. -/
def smOk (s : Int × Int) : Bool := inB s.1 (-999999) 999999 && inB s.2 0 99
def sbB (ss : List (Int × Int)) (f t : Int) : Bool := decide (1 ≤ ss.length ∧ ss.length ≤ 13) && (decide (0 ≤ f ∧ f ≤ t ∧ t < (ss.length : Int)) && (smOk (ss.getD f.toNat (0, 0)) && smOk (ss.getD t.toNat (0, 0))))
def sbV (ss : List (Int × Int)) (f t : Int) : Int × Int := if sbB ss f t then ((ss.getD t.toNat (0, 0)).1 - (ss.getD f.toNat (0, 0)).1, (ss.getD t.toNat (0, 0)).2 - (ss.getD f.toNat (0, 0)).2) else (0, 0)
theorem smOk_facts {s : Int × Int} (h : smOk s = true) : (-999999 ≤ s.1 ∧ s.1 ≤ 999999) ∧ 0 ≤ s.2 ∧ s.2 ≤ 99 := by
  simp only [smOk, inB, Bool.and_eq_true, decide_eq_true_eq] at h; exact h
theorem smOk_mk {s : Int × Int} (h : (-999999 ≤ s.1 ∧ s.1 ≤ 999999) ∧ 0 ≤ s.2 ∧ s.2 ≤ 99) : smOk s = true := by
  simp only [smOk, inB, Bool.and_eq_true, decide_eq_true_eq]; exact h
theorem sbB_facts {ss : List (Int × Int)} {f t : Int} (h : sbB ss f t = true) : (1 ≤ ss.length ∧ ss.length ≤ 13) ∧ (0 ≤ f ∧ f ≤ t ∧ t < (ss.length : Int)) ∧ smOk (ss.getD f.toNat (0, 0)) = true ∧ smOk (ss.getD t.toNat (0, 0)) = true := by
  simp only [sbB, Bool.and_eq_true, decide_eq_true_eq] at h; exact h
theorem sbB_mk {ss : List (Int × Int)} {f t : Int} (h1 : 1 ≤ ss.length ∧ ss.length ≤ 13) (h2 : 0 ≤ f ∧ f ≤ t ∧ t < (ss.length : Int)) (h3 : smOk (ss.getD f.toNat (0, 0)) = true) (h4 : smOk (ss.getD t.toNat (0, 0)) = true) : sbB ss f t = true := by
  simp only [sbB, Bool.and_eq_true, decide_eq_true_eq]; exact ⟨h1, h2, h3, h4⟩
theorem sbB_len {ss : List (Int × Int)} {f t : Int} (h : ¬ (1 ≤ ss.length ∧ ss.length ≤ 13)) : sbB ss f t = false := by rw [sbB, decide_eq_false h, Bool.false_and]
theorem sbB_arg {ss : List (Int × Int)} {f t : Int} (h : ¬ (0 ≤ f ∧ f ≤ t ∧ t < (ss.length : Int))) : sbB ss f t = false := by rw [sbB, decide_eq_false h, Bool.false_and, Bool.and_false]
theorem sbB_low {ss : List (Int × Int)} {f t : Int} (h : smOk (ss.getD f.toNat (0, 0)) = false) : sbB ss f t = false := by rw [sbB, h, Bool.false_and, Bool.and_false, Bool.and_false]
theorem sbB_high {ss : List (Int × Int)} {f t : Int} (h : smOk (ss.getD t.toNat (0, 0)) = false) : sbB ss f t = false := by rw [sbB, h, Bool.and_false, Bool.and_false, Bool.and_false]
theorem sbV_yes {ss : List (Int × Int)} {f t : Int} (h : sbB ss f t = true) : sbV ss f t = ((ss.getD t.toNat (0, 0)).1 - (ss.getD f.toNat (0, 0)).1, (ss.getD t.toNat (0, 0)).2 - (ss.getD f.toNat (0, 0)).2) := by simp [sbV, h]
theorem sbV_no {ss : List (Int × Int)} {f t : Int} (h : sbB ss f t = false) : sbV ss f t = (0, 0) := by simp [sbV, h]
/-- Of the sums of a series. -/
theorem sb_sul {zs : List Int} (h : sqB zs = true) {f t : Nat} (hf : f ≤ t) (ht : t ≤ zs.length) : sbB (sul zs) (f : Int) (t : Int) = true ∧ sbV (sul zs) (f : Int) (t : Int) = ((su zs t).1 - (su zs f).1, (su zs t).2 - (su zs f).2) := by
  have hl := (sq_facts h).2
  have e1 : ((f : Nat) : Int).toNat = f := by omega
  have e2 : ((t : Nat) : Int).toNat = t := by omega
  have b1 := su_bd h (k := f) (by omega)
  have b2 := su_bd h (k := t) (by omega)
  have hb : sbB (sul zs) (f : Int) (t : Int) = true := sbB_mk (by rw [sul_len]; omega) (by rw [sul_len]; omega) (by rw [e1, sul_at (by omega)]; exact smOk_mk (by omega)) (by rw [e2, sul_at ht]; exact smOk_mk (by omega))
  exact ⟨hb, by rw [sbV_yes hb, e1, e2, sul_at ht, sul_at (by omega)]⟩
theorem sb_day {zs : List Int} (h : sqB zs = true) {k : Nat} (hk : k < zs.length) : (zs.getD k 0 = -9999 → sbV (sul zs) (k : Int) ((k : Int) + 1) = (0, 0)) ∧ (zs.getD k 0 ≠ -9999 → sbV (sul zs) (k : Int) ((k : Int) + 1) = (zs.getD k 0, 1)) := by
  have e := (sb_sul h (f := k) (t := k + 1) (by omega) (by omega)).2
  rw [show (((k + 1 : Nat)) : Int) = (k : Int) + 1 by omega] at e
  rw [e]
  constructor <;> intro hx
  · rw [(su_step hk).1 hx]; simp only [Prod.mk.injEq]; omega
  · rw [(su_step hk).2 hx]; simp only [Prod.mk.injEq]; omega
end Go.Proofs.Ytkiibklenpncpaa
