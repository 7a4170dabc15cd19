/- Trends, without the program: differences 'dfB', 'dfL', running means 'ruB', 'ruL', lines 'liB', 'liL'. -/
import Derived.Test.YtkiibklenpncpaaMe
namespace Go.Proofs.Ytkiibklenpncpaa
open Go.RowKit
set_option linter.unusedVariables false

theorem getD_map_range {n k : Nat} (f : Nat → Int) (h : k < n) : ((List.range n).map f).getD k 0 = f k := by simp [List.getD_eq_getElem?_getD, h]
theorem map_range_snoc {n k : Nat} (f : Nat → Int) (h : k < n) : ((List.range n).map f).take (k + 1) = ((List.range n).map f).take k ++ [f k] := by
  rw [List.take_succ_eq_append_getElem (by simpa using h)]; simp
theorem range_all_at {n : Nat} {p : Nat → Bool} (h : (List.range n).all p = true) {k : Nat} (hk : k < n) : p k = true := List.all_eq_true.1 h k (List.mem_range.2 hk)
theorem range_all_mk {n : Nat} {p : Nat → Bool} (h : ∀ k, k < n → p k = true) : (List.range n).all p = true := List.all_eq_true.2 fun k hk => h k (List.mem_range.1 hk)
theorem range_all_not {n : Nat} {p : Nat → Bool} {k : Nat} (hk : k < n) (h : p k = false) : (List.range n).all p = false := by
  cases e : (List.range n).all p
  · rfl
  · rw [range_all_at e hk] at h; cases h

/-- Differences. -/
def dfOk (x y : Int) : Bool := decide (x = -9999 ∨ y = -9999 ∨ (-9998 ≤ y - x ∧ y - x ≤ 9998))
def dfv (x y : Int) : Int := if x = -9999 ∨ y = -9999 then -9999 else y - x
def dfl (zs : List Int) : List Int := (List.range (zs.length - 1)).map fun k => dfv (zs.getD k 0) (zs.getD (k + 1) 0)
def dfB (zs : List Int) : Bool := sqB zs && (decide (2 ≤ zs.length) && (List.range (zs.length - 1)).all fun k => dfOk (zs.getD k 0) (zs.getD (k + 1) 0))
def dfL (zs : List Int) : List Int := if dfB zs then dfl zs else []
theorem dfl_len (zs : List Int) : (dfl zs).length = zs.length - 1 := by simp [dfl]
theorem dfl_at {zs : List Int} {k : Nat} (h : k + 1 < zs.length) : (dfl zs).getD k 0 = dfv (zs.getD k 0) (zs.getD (k + 1) 0) := getD_map_range _ (by omega)
theorem dfl_snoc {zs : List Int} {k : Nat} (h : k + 1 < zs.length) : (dfl zs).take (k + 1) = (dfl zs).take k ++ [dfv (zs.getD k 0) (zs.getD (k + 1) 0)] := map_range_snoc _ (by omega)
theorem dfB_facts {zs : List Int} (h : dfB zs = true) : sqB zs = true ∧ 2 ≤ zs.length ∧ ∀ k, k + 1 < zs.length → dfOk (zs.getD k 0) (zs.getD (k + 1) 0) = true := by
  simp only [dfB, Bool.and_eq_true, decide_eq_true_eq] at h
  exact ⟨h.1, h.2.1, fun k hk => range_all_at h.2.2 (by omega)⟩
theorem dfB_mk {zs : List Int} (h1 : sqB zs = true) (h2 : 2 ≤ zs.length) (h3 : ∀ k, k + 1 < zs.length → dfOk (zs.getD k 0) (zs.getD (k + 1) 0) = true) : dfB zs = true := by
  simp only [dfB, Bool.and_eq_true, decide_eq_true_eq]
  exact ⟨h1, h2, range_all_mk fun k hk => h3 k (by omega)⟩
theorem dfB_sq {zs : List Int} (h : sqB zs = false) : dfB zs = false := by simp [dfB, h]
theorem dfB_one {zs : List Int} (h : zs.length < 2) : dfB zs = false := by
  have : ¬ 2 ≤ zs.length := by omega
  simp [dfB, this]
theorem dfB_bad {zs : List Int} {k : Nat} (hk : k + 1 < zs.length) (h : dfOk (zs.getD k 0) (zs.getD (k + 1) 0) = false) : dfB zs = false := by
  rw [dfB, range_all_not (k := k) (by omega) h, Bool.and_false, Bool.and_false]
theorem dfL_yes {zs : List Int} (h : dfB zs = true) : dfL zs = dfl zs := by simp [dfL, h]
theorem dfL_no {zs : List Int} (h : dfB zs = false) : dfL zs = [] := by simp [dfL, h]
theorem dfL_len (zs : List Int) : (dfL zs).length ≤ 12 := by
  cases h : dfB zs
  · rw [dfL_no h]; simp
  · rw [dfL_yes h, dfl_len]; have := (sq_facts (dfB_facts h).1).2.2; omega
/-- A difference, case by case. -/
theorem df_cases (x y : Int) : (x = -9999 ∧ dfv x y = -9999 ∧ dfOk x y = true) ∨ (x ≠ -9999 ∧ y = -9999 ∧ dfv x y = -9999 ∧ dfOk x y = true) ∨
    (x ≠ -9999 ∧ y ≠ -9999 ∧ -9998 ≤ y - x ∧ y - x ≤ 9998 ∧ dfv x y = y - x ∧ dfOk x y = true) ∨ (x ≠ -9999 ∧ y ≠ -9999 ∧ (y - x < -9998 ∨ 9998 < y - x) ∧ dfOk x y = false) := by
  by_cases h1 : x = -9999
  · left; exact ⟨h1, by rw [dfv, if_pos (.inl h1)], by rw [dfOk]; exact decide_eq_true (.inl h1)⟩
  · by_cases h2 : y = -9999
    · right; left; exact ⟨h1, h2, by rw [dfv, if_pos (.inr h2)], by rw [dfOk]; exact decide_eq_true (.inr (.inl h2))⟩
    · by_cases h3 : -9998 ≤ y - x ∧ y - x ≤ 9998
      · right; right; left
        exact ⟨h1, h2, h3.1, h3.2, by rw [dfv, if_neg (by omega)], by rw [dfOk]; exact decide_eq_true (.inr (.inr h3))⟩
      · right; right; right
        exact ⟨h1, h2, by omega, by rw [dfOk]; exact decide_eq_false (by omega)⟩
theorem dfl_bd {zs : List Int} (h : dfB zs = true) : ∀ x ∈ dfl zs, -9999 ≤ x ∧ x ≤ 9998 := fun x hx => by
  obtain ⟨_, _, h3⟩ := dfB_facts h
  simp only [dfl, List.mem_map, List.mem_range] at hx
  obtain ⟨k, hk, rfl⟩ := hx
  have := h3 k (by omega)
  rcases df_cases (zs.getD k 0) (zs.getD (k + 1) 0) with ⟨_, e, _⟩ | ⟨_, _, e, _⟩ | ⟨_, _, _, _, e, _⟩ | ⟨_, _, _, e⟩
  · omega
  · omega
  · omega
  · rw [this] at e; cases e
/-- Differences add up. -/
theorem df_sum {zs : List Int} (h : ∀ k, k < zs.length → zs.getD k 0 ≠ -9999) : ∀ n, n + 1 ≤ zs.length → isum ((dfl zs).take n) = zs.getD n 0 - zs.getD 0 0
  | 0, _ => by rw [List.take_zero, isum]; omega
  | n + 1, hn => by
    have ih := df_sum h n (by omega)
    have h1 := h n (by omega)
    have h2 := h (n + 1) (by omega)
    rw [dfl_snoc (by omega), isum_app, ih, isum, isum, dfv, if_neg (by omega)]
    omega
theorem sk_all {zs : List Int} (h : ¬ knN zs zs.length < zs.length) : ∀ k, k < zs.length → zs.getD k 0 ≠ -9999 := by
  rw [knN_all] at h
  have h2 : knl zs = zs := by
    have h3 : (knl zs).length = zs.length := Nat.le_antisymm (knl_le zs) (by omega)
    exact (List.filter_sublist (p := fun x => x != -9999) (l := zs)).eq_of_length h3
  intro k hk e
  have := getD_mem hk
  rw [e, ← h2, knl, List.mem_filter] at this
  simp at this
theorem rev_at {zs : List Int} {k : Nat} (h : k < zs.length) : zs.reverse.getD k 0 = zs.getD (zs.length - 1 - k) 0 := by
  simp only [List.getD_eq_getElem?_getD]
  rw [List.getElem?_reverse h]
theorem dfOk_turn (x y : Int) : dfOk y x = dfOk x y := by
  rw [dfOk, dfOk, Bool.eq_iff_iff, decide_eq_true_eq, decide_eq_true_eq]; omega
theorem dfv_turn (x y : Int) : (dfv x y = -9999 → dfOk x y = true → dfv y x = -9999) ∧ (dfv x y ≠ -9999 → dfv y x = 0 - dfv x y) := by
  constructor
  · intro h k
    rcases df_cases x y with ⟨e, _⟩ | ⟨_, e, _⟩ | ⟨h1, h2, h3, h4, h5, _⟩ | ⟨_, _, _, e⟩
    · rw [dfv, if_pos (.inr e)]
    · rw [dfv, if_pos (.inl e)]
    · omega
    · rw [k] at e; cases e
  · intro h
    by_cases h1 : x = -9999 ∨ y = -9999
    · rw [dfv, if_pos h1] at h; exact absurd rfl h
    · rw [dfv, dfv, if_neg h1, if_neg (by omega)]; omega
theorem df_back {zs : List Int} (h : dfB zs = true) : dfB zs.reverse = true ∧ (dfl zs.reverse).length = (dfl zs).length ∧ ∀ i, i < (dfl zs).length →
    (((dfl zs).getD i 0 = -9999 ∧ (dfl zs.reverse).getD ((dfl zs).length - 1 - i) 0 = -9999) ∨ ((dfl zs).getD i 0 ≠ -9999 ∧ (dfl zs.reverse).getD ((dfl zs).length - 1 - i) 0 = 0 - (dfl zs).getD i 0)) := by
  obtain ⟨h1, h2, h3⟩ := dfB_facts h
  refine ⟨dfB_mk (by rw [sq_rev]; exact h1) (by rw [List.length_reverse]; exact h2) (fun k hk => ?_), by rw [dfl_len, dfl_len, List.length_reverse], fun i hi => ?_⟩
  · rw [List.length_reverse] at hk
    rw [rev_at (by omega), rev_at (by omega), dfOk_turn]
    have := h3 (zs.length - 1 - (k + 1)) (by omega)
    rwa [show zs.length - 1 - (k + 1) + 1 = zs.length - 1 - k by omega] at this
  · rw [dfl_len] at hi ⊢
    have hr : (dfl zs.reverse).getD (zs.length - 1 - 1 - i) 0 = dfv (zs.getD (i + 1) 0) (zs.getD i 0) := by
      rw [dfl_at (by rw [List.length_reverse]; omega), rev_at (by omega), rev_at (by omega)]
      rw [show zs.length - 1 - (zs.length - 1 - 1 - i) = i + 1 by omega, show zs.length - 1 - (zs.length - 1 - 1 - i + 1) = i by omega]
    rw [hr, dfl_at (by omega)]
    have hT := dfv_turn (zs.getD i 0) (zs.getD (i + 1) 0)
    by_cases e : dfv (zs.getD i 0) (zs.getD (i + 1) 0) = -9999
    · exact .inl ⟨e, hT.1 e (h3 i (by omega))⟩
    · exact .inr ⟨e, hT.2 e⟩
theorem df_added {zs : List Int} (h : dfB zs = true) : dfl (zs.map add1) = dfl zs := by
  obtain ⟨h1, h2, h3⟩ := dfB_facts h
  unfold dfl
  rw [List.length_map]
  refine List.map_congr_left fun k hk => ?_
  have hk := List.mem_range.1 hk
  rw [add1_at zs (by omega), add1_at zs (by omega)]
  have a := sq_at h1 (show k < zs.length by omega)
  have b := sq_at h1 (show k + 1 < zs.length by omega)
  generalize zs.getD k 0 = x at a ⊢
  generalize zs.getD (k + 1) 0 = y at b ⊢
  unfold dfv add1
  (repeat' split) <;> omega

/-- Running means. -/
def sg (zs : List Int) (i d : Nat) : List Int := (zs.drop i).take d
theorem sg_len {zs : List Int} {i d : Nat} (h : i + d ≤ zs.length) : (sg zs i d).length = d := by rw [sg, List.length_take, List.length_drop]; omega
theorem sg_at {zs : List Int} {i d k : Nat} (h : i + d ≤ zs.length) (hk : k < d) : (sg zs i d).getD k 0 = zs.getD (i + k) 0 := by
  simp [sg, List.getD_eq_getElem?_getD, hk]
theorem sg_sq {zs : List Int} (h : sqB zs = true) {i d : Nat} (hd : 1 ≤ d) (hi : i + d ≤ zs.length) : sqB (sg zs i d) = true := by
  obtain ⟨h1, h2, h3⟩ := sq_facts h
  refine sq_all ?_ (by rw [sg_len hi]; omega)
  rw [List.all_eq_true] at h1 ⊢
  intro x hx
  exact h1 x (List.mem_of_mem_drop (List.mem_of_mem_take hx))
theorem sg_rev {zs : List Int} {i d : Nat} (h : i + d ≤ zs.length) : sg zs.reverse (zs.length - d - i) d = (sg zs i d).reverse := by
  apply List.ext_getElem
  · rw [List.length_reverse, sg_len h, sg_len (by rw [List.length_reverse]; omega)]
  · intro k hk1 hk2
    rw [List.length_reverse, sg_len h] at hk2
    have e1 : (sg zs.reverse (zs.length - d - i) d)[k] = (sg zs.reverse (zs.length - d - i) d).getD k 0 := by simp [List.getD_eq_getElem?_getD, hk1]
    have e2 : ((sg zs i d).reverse)[k]'(by rw [List.length_reverse, sg_len h]; exact hk2) = (sg zs i d).reverse.getD k 0 := by
      simp [List.getD_eq_getElem?_getD, sg_len h, hk2]
    rw [e1, e2, sg_at (by rw [List.length_reverse]; omega) hk2, rev_at (by omega), rev_at (by rw [sg_len h]; exact hk2), sg_len h, sg_at h (by omega)]
    congr 1
    omega
def ruv (zs : List Int) (d i : Nat) : Int := if meB (sg zs i d) 0 then meV (sg zs i d) 0 else -9999
def rul (zs : List Int) (d : Nat) : List Int := (List.range (zs.length - d + 1)).map fun i => ruv zs d i
def ruB (zs : List Int) (d : Int) : Bool := sqB zs && inB d 1 (zs.length : Int)
def ruL (zs : List Int) (d : Int) : List Int := if ruB zs d then rul zs d.toNat else []
theorem ruB_facts {zs : List Int} {d : Int} (h : ruB zs d = true) : sqB zs = true ∧ ∃ n : Nat, d = (n : Int) ∧ 1 ≤ n ∧ n ≤ zs.length := by
  simp only [ruB, inB, Bool.and_eq_true, decide_eq_true_eq] at h
  exact ⟨h.1, d.toNat, by omega, by omega, by omega⟩
theorem ruB_mk {zs : List Int} {n : Nat} (h : sqB zs = true) (h1 : 1 ≤ n) (h2 : n ≤ zs.length) : ruB zs (n : Int) = true := by
  rw [ruB, h, inB_yes (by omega)]; rfl
theorem ruL_yes {zs : List Int} {n : Nat} (h : ruB zs (n : Int) = true) : ruL zs (n : Int) = rul zs n := by simp [ruL, h]
theorem ruL_no {zs : List Int} {d : Int} (h : ruB zs d = false) : ruL zs d = [] := by simp [ruL, h]
theorem rul_len (zs : List Int) (d : Nat) : (rul zs d).length = zs.length - d + 1 := by simp [rul]
theorem rul_at {zs : List Int} {d i : Nat} (h : i + d ≤ zs.length) : (rul zs d).getD i 0 = ruv zs d i := getD_map_range _ (by omega)
theorem rul_snoc {zs : List Int} {d i : Nat} (h : i + d ≤ zs.length) : (rul zs d).take (i + 1) = (rul zs d).take i ++ [ruv zs d i] := map_range_snoc _ (by omega)
theorem ruL_len (zs : List Int) (d : Int) : (ruL zs d).length ≤ 12 := by
  cases h : ruB zs d
  · rw [ruL_no h]; simp
  · obtain ⟨h1, n, rfl, h2, h3⟩ := ruB_facts h
    rw [ruL_yes h, rul_len]; have := (sq_facts h1).2.2; omega
theorem rq_one (x : Int) : rq x 1 = x := rq_unique (s := 0) (by omega) (by omega) (by omega) (by omega) (by omega)
theorem ru_one {zs : List Int} (h : sqB zs = true) : rul zs 1 = zs := by
  apply List.ext_getElem
  · rw [rul_len]; have := (sq_facts h).2.1; omega
  · intro k h1 h2
    have e1 : (rul zs 1)[k] = (rul zs 1).getD k 0 := by simp [List.getD_eq_getElem?_getD, h1]
    have e2 : zs[k] = zs.getD k 0 := by simp [List.getD_eq_getElem?_getD, h2]
    have es : sg zs k 1 = [zs.getD k 0] := by
      rw [sg, List.drop_eq_getElem_cons h2, List.take_succ_cons, List.take_zero, e2]
    rw [e1, e2, rul_at (by omega), ruv, es]
    by_cases hx : zs.getD k 0 = -9999
    · rw [hx]
      have : meB [-9999] 0 = false := by decide
      rw [this]; rfl
    · have hx2 : (zs.getD k 0 != -9999) = true := bne_iff_ne.2 hx
      have ek : knl [zs.getD k 0] = [zs.getD k 0] := by simp only [knl, List.filter_cons, hx2, List.filter_nil]; rfl
      have hsq := sg_sq h (i := k) (d := 1) (by omega) (by omega)
      rw [es] at hsq
      have hb : meB [zs.getD k 0] 0 = true := meB_mk hsq (by rw [ek]; simp) (by rw [ek]; simp)
      rw [hb, meV_yes hb, ek, isum, isum]
      simp only [if_true, List.length_singleton]
      rw [show zs.getD k 0 + 0 = zs.getD k 0 by omega]
      exact rq_one _
theorem ru_back {zs : List Int} {n : Nat} (hn : n ≤ zs.length) : rul zs.reverse n = (rul zs n).reverse := by
  apply List.ext_getElem
  · rw [List.length_reverse, rul_len, rul_len, List.length_reverse]
  · intro k h1 h2
    have hl : k < zs.length - n + 1 := by rw [rul_len, List.length_reverse] at h1; exact h1
    have e1 : (rul zs.reverse n)[k] = (rul zs.reverse n).getD k 0 := by simp [List.getD_eq_getElem?_getD, h1]
    have e2 : (rul zs n).reverse[k] = (rul zs n).reverse.getD k 0 := by rw [List.getD_eq_getElem?_getD, List.getElem?_eq_getElem h2]; rfl
    rw [e1, e2, rul_at (by rw [List.length_reverse]; omega), rev_at (by rw [rul_len]; exact hl), rul_len, rul_at (by omega)]
    have es := sg_rev (zs := zs) (i := zs.length - n + 1 - 1 - k) (d := n) (by omega)
    rw [show zs.length - n - (zs.length - n + 1 - 1 - k) = k by omega] at es
    obtain ⟨m1, m2⟩ := me_back (sg zs (zs.length - n + 1 - 1 - k) n) 0
    rw [ruv, ruv, es, m1, m2]

/-- Lines. -/
def liOk (f s d : Int) : Bool := inB s (-9998) 9998 && inB d 1 12
def lil (f s : Int) (n : Nat) : List Int := (List.range n).map fun i : Nat => f + (i : Int) * s
def liB (f s d : Int) : Bool := liOk f s d && (List.range d.toNat).all fun i : Nat => inB (f + (i : Int) * s) (-999) 10999
def liL (f s d : Int) : List Int := if liB f s d then lil f s d.toNat else []
theorem liB_facts {f s d : Int} (h : liB f s d = true) : (-9998 ≤ s ∧ s ≤ 9998) ∧ ∃ n : Nat, d = (n : Int) ∧ 1 ≤ n ∧ n ≤ 12 ∧ ∀ i, i < n → -999 ≤ f + (i : Int) * s ∧ f + (i : Int) * s ≤ 10999 := by
  simp only [liB, liOk, inB, Bool.and_eq_true, decide_eq_true_eq] at h
  refine ⟨h.1.1, d.toNat, by omega, by omega, by omega, fun i hi => ?_⟩
  have := range_all_at h.2 hi
  simpa using this
theorem liB_mk {f s : Int} {n : Nat} (h1 : -9998 ≤ s ∧ s ≤ 9998) (h2 : 1 ≤ n ∧ n ≤ 12) (h3 : ∀ i, i < n → -999 ≤ f + (i : Int) * s ∧ f + (i : Int) * s ≤ 10999) : liB f s (n : Int) = true := by
  simp only [liB, liOk, inB, Bool.and_eq_true, decide_eq_true_eq]
  refine ⟨⟨h1, by omega⟩, range_all_mk fun i hi => ?_⟩
  have := h3 i (by omega)
  simpa using this
theorem liB_bad {f s d : Int} {i : Nat} (hi : (i : Int) < d) (h : f + (i : Int) * s < -999 ∨ 10999 < f + (i : Int) * s) : liB f s d = false := by
  rw [liB, range_all_not (k := i) (by omega) (inB_no h), Bool.and_false]
theorem liB_arg {f s d : Int} (h : s < -9998 ∨ 9998 < s ∨ d < 1 ∨ 12 < d) : liB f s d = false := by
  have : liOk f s d = false := by
    rw [liOk]
    by_cases hs : s < -9998 ∨ 9998 < s
    · rw [inB_no hs]; rfl
    · rw [inB_no (a := d) (by omega), Bool.and_false]
  rw [liB, this, Bool.false_and]
theorem liL_yes {f s : Int} {n : Nat} (h : liB f s (n : Int) = true) : liL f s (n : Int) = lil f s n := by simp [liL, h]
theorem liL_no {f s d : Int} (h : liB f s d = false) : liL f s d = [] := by simp [liL, h]
theorem lil_len (f s : Int) (n : Nat) : (lil f s n).length = n := by simp [lil]
theorem lil_at {f s : Int} {n i : Nat} (h : i < n) : (lil f s n).getD i 0 = f + (i : Int) * s := getD_map_range _ h
theorem lil_snoc {f s : Int} {n i : Nat} (h : i < n) : (lil f s n).take (i + 1) = (lil f s n).take i ++ [f + (i : Int) * s] := map_range_snoc _ h
theorem liL_len (f s d : Int) : (liL f s d).length ≤ 12 := by
  cases h : liB f s d
  · rw [liL_no h]; simp
  · obtain ⟨_, n, rfl, h2, h3, _⟩ := liB_facts h
    rw [liL_yes h, lil_len]; exact h3
theorem lil_sq {f s : Int} {n : Nat} (h : liB f s (n : Int) = true) : sqB (lil f s n) = true ∧ ∀ x ∈ lil f s n, x ≠ -9999 ∧ -999 ≤ x ∧ x ≤ 10999 := by
  obtain ⟨_, m, e, h2, h3, h4⟩ := liB_facts h
  obtain rfl : n = m := by omega
  have ha : ∀ x ∈ lil f s n, x ≠ -9999 ∧ -999 ≤ x ∧ x ≤ 10999 := fun x hx => by
    simp only [lil, List.mem_map, List.mem_range] at hx
    obtain ⟨i, hi, rfl⟩ := hx
    have := h4 i hi
    omega
  exact ⟨sq_all (List.all_eq_true.2 fun x hx => qB_of (.inr (ha x hx).2)) (by rw [lil_len]; exact ⟨h2, h3⟩), ha⟩
theorem li_diffs {f s : Int} {n : Nat} (h : liB f s (n : Int) = true) (hn : 2 ≤ n) : dfB (lil f s n) = true ∧ ∀ i, i + 1 < n → (dfl (lil f s n)).getD i 0 = s := by
  obtain ⟨hq, ha⟩ := lil_sq h
  obtain ⟨hs, _⟩ := liB_facts h
  have hd : ∀ k, k + 1 < n → (lil f s n).getD k 0 ≠ -9999 ∧ (lil f s n).getD (k + 1) 0 ≠ -9999 ∧ (lil f s n).getD (k + 1) 0 - (lil f s n).getD k 0 = s := fun k hk => by
    refine ⟨(ha _ (getD_mem (by rw [lil_len]; omega))).1, (ha _ (getD_mem (by rw [lil_len]; omega))).1, ?_⟩
    rw [lil_at (by omega), lil_at (by omega), show (((k + 1 : Nat)) : Int) = (k : Int) + 1 by omega, Int.add_mul]
    omega
  refine ⟨dfB_mk hq (by rw [lil_len]; exact hn) (fun k hk => ?_), fun i hi => ?_⟩
  · rw [lil_len] at hk
    obtain ⟨a, b, c⟩ := hd k hk
    rw [dfOk]
    exact decide_eq_true (.inr (.inr (by omega)))
  · obtain ⟨a, b, c⟩ := hd i hi
    rw [dfl_at (by rw [lil_len]; exact hi), dfv, if_neg (by omega)]
    exact c
end Go.Proofs.Ytkiibklenpncpaa
