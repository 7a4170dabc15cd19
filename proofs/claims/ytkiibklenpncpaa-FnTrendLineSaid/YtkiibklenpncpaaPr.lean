/- Pairs and trends, without the program: pairs that go up 'pU', down 'pD', neither way 'pE'; trends 'trV'. -/
import Derived.Test.YtkiibklenpncpaaDf
namespace Go.Proofs.Ytkiibklenpncpaa
open Go.RowKit
set_option linter.unusedVariables false

def pU : List Int → Nat
  | [] => 0
  | x :: r => cGt r x + pU r
def pD : List Int → Nat
  | [] => 0
  | x :: r => cLt r x + pD r
def pE : List Int → Nat
  | [] => 0
  | x :: r => cEq r x + pE r
theorem cLt_cons (y : Int) (L : List Int) (x : Int) : cLt (y :: L) x = cLt L x + (if y < x then 1 else 0) := by simp [cLt, List.countP_cons]
theorem cGt_cons (y : Int) (L : List Int) (x : Int) : cGt (y :: L) x = cGt L x + (if x < y then 1 else 0) := by simp [cGt, List.countP_cons]
theorem cLt_snoc (L : List Int) (y x : Int) : cLt (L ++ [y]) x = cLt L x + (if y < x then 1 else 0) := by simp [cLt, List.countP_append, List.countP_cons]
theorem cGt_snoc (L : List Int) (y x : Int) : cGt (L ++ [y]) x = cGt L x + (if x < y then 1 else 0) := by simp [cGt, List.countP_append, List.countP_cons]
theorem pU_snoc (x : Int) : ∀ L, pU (L ++ [x]) = pU L + cLt L x
  | [] => rfl
  | y :: L => by
    have ih := pU_snoc x L
    rw [List.cons_append, pU, pU, ih, cGt_snoc, cLt_cons]; omega
theorem pD_snoc (x : Int) : ∀ L, pD (L ++ [x]) = pD L + cGt L x
  | [] => rfl
  | y :: L => by
    have ih := pD_snoc x L
    rw [List.cons_append, pD, pD, ih, cLt_snoc, cGt_cons]; omega
theorem pU_rev : ∀ L : List Int, pU L.reverse = pD L ∧ pD L.reverse = pU L
  | [] => ⟨rfl, rfl⟩
  | x :: r => by
    obtain ⟨h1, h2⟩ := pU_rev r
    rw [List.reverse_cons, pU_snoc, pD_snoc, h1, h2, pD, pU]
    rw [show cLt r.reverse x = cLt r x from cLt_perm (List.reverse_perm r) x, show cGt r.reverse x = cGt r x from (List.reverse_perm r).countP_eq _]
    omega
theorem pU_take {L : List Int} {k : Nat} (h : k < L.length) : pU (L.take (k + 1)) = pU (L.take k) + cLt (L.take k) (L.getD k 0) ∧ pD (L.take (k + 1)) = pD (L.take k) + cGt (L.take k) (L.getD k 0) := by
  have e : L.take (k + 1) = L.take k ++ [L.getD k 0] := by
    rw [List.take_succ_eq_append_getElem h]; simp [List.getD_eq_getElem?_getD, h]
  rw [e, pU_snoc, pD_snoc]; exact ⟨rfl, rfl⟩
theorem p_all : ∀ L : List Int, 2 * (pU L + pD L + pE L) = L.length * (L.length - 1)
  | [] => rfl
  | x :: r => by
    have ih := p_all r
    have h1 := cGt_parts r x
    have h2 := cLe_parts r x
    rw [pU, pD, pE, List.length_cons, Nat.add_sub_cancel]
    have e : (r.length + 1) * r.length = r.length * (r.length - 1) + 2 * r.length := by
      cases r.length with
      | zero => rfl
      | succ m => rw [Nat.add_sub_cancel, Nat.add_mul, Nat.mul_add (m + 1)]; omega
    rw [e, ← ih]; omega
theorem p_bd (L : List Int) (h : L.length ≤ 12) : pU L ≤ 66 ∧ pD L ≤ 66 := by
  have := p_all L
  have h2 : L.length * (L.length - 1) ≤ 12 * 11 := Nat.mul_le_mul h (by omega)
  omega
theorem pE_nodup : ∀ L : List Int, pE L = 0 ↔ L.Nodup
  | [] => by simp [pE]
  | x :: r => by
    have ih := pE_nodup r
    rw [pE, List.nodup_cons, ← ih]
    constructor
    · intro h
      refine ⟨fun hm => ?_, by omega⟩
      have : 0 < cEq r x := List.countP_pos_iff.2 ⟨x, hm, by simp⟩
      omega
    · rintro ⟨h1, h2⟩
      have : cEq r x = 0 := by
        rw [cEq, List.countP_eq_zero]
        intro y hy
        rw [decide_eq_true_eq]
        intro e; subst e; exact h1 hy
      omega
/-- Equal neighbours among sorted values. -/
def smB (S : List Int) (k : Nat) : Bool := (List.range k).any fun i => S.getD i 0 == S.getD (i + 1) 0
theorem smB_step (S : List Int) (k : Nat) : smB S (k + 1) = (smB S k || (S.getD k 0 == S.getD (k + 1) 0)) := by simp [smB, List.range_succ]
theorem sm_nodup {S : List Int} (hs : S.Pairwise fun a b => a ≤ b) : smB S (S.length - 1) = false ↔ S.Nodup := by
  rw [smB, List.any_eq_false]
  constructor
  · intro h
    rw [List.nodup_iff_pairwise_ne, List.pairwise_iff_getElem]
    intro i j hi hj hij e
    have h1 : S.getD i 0 = S[i] := by simp [List.getD_eq_getElem?_getD, hi]
    have h2 : S.getD j 0 = S[j] := by simp [List.getD_eq_getElem?_getD, hj]
    have h3 := pw_at hs (i := i) (j := i + 1) (by omega) (by omega)
    have h4 := pw_at hs (i := i + 1) (j := j) (by omega) hj
    have h5 := h i (List.mem_range.2 (by omega))
    rw [beq_iff_eq] at h5
    omega
  · intro h i hi
    have hi := List.mem_range.1 hi
    rw [beq_iff_eq]
    intro e
    rw [List.nodup_iff_pairwise_ne, List.pairwise_iff_getElem] at h
    refine h i (i + 1) (by omega) (by omega) (by omega) ?_
    simpa [List.getD_eq_getElem?_getD, show i < S.length by omega, show i + 1 < S.length by omega] using e
theorem p_same {zs : List Int} (h : sqB zs = true) : 2 * (pU (knl zs) + pD (knl zs)) ≤ (knl zs).length * ((knl zs).length - 1) ∧ (2 * (pU (knl zs) + pD (knl zs)) = (knl zs).length * ((knl zs).length - 1) ↔ smB (soL zs) ((soL zs).length - 1) = false) := by
  have h1 := p_all (knl zs)
  refine ⟨by omega, ?_⟩
  rw [soL_yes h, sm_nodup (sorted_pw _), (sorted_perm (knl zs)).nodup_iff, ← pE_nodup]
  omega
theorem pD_asc : ∀ {L : List Int}, L.Pairwise (fun a b => a ≤ b) → pD L = 0
  | [], _ => rfl
  | x :: r, h => by
    rw [List.pairwise_cons] at h
    have : cLt r x = 0 := by
      rw [cLt, List.countP_eq_zero]; intro y hy; rw [decide_eq_true_eq]; have := h.1 y hy; omega
    rw [pD, this, pD_asc h.2]
theorem pU_desc : ∀ {L : List Int}, L.Pairwise (fun a b => b ≤ a) → pU L = 0
  | [], _ => rfl
  | x :: r, h => by
    rw [List.pairwise_cons] at h
    have : cGt r x = 0 := by
      rw [cGt, List.countP_eq_zero]; intro y hy; rw [decide_eq_true_eq]; have := h.1 y hy; omega
    rw [pU, this, pU_desc h.2]
theorem pU_pos {x y : Int} (r : List Int) (h : x < y) : 0 < pU (x :: y :: r) := by rw [pU, cGt_cons, if_pos h]; omega
theorem pD_pos {x y : Int} (r : List Int) (h : y < x) : 0 < pD (x :: y :: r) := by rw [pD, cLt_cons, if_pos h]; omega

/-- What PairsOf and TrendOf answer. -/
def prU (zs : List Int) : Int := if sqB zs then (pU (knl zs) : Int) else -1
def prD (zs : List Int) : Int := if sqB zs then (pD (knl zs) : Int) else -1
theorem pr_yes {zs : List Int} (h : sqB zs = true) : prU zs = (pU (knl zs) : Int) ∧ prD zs = (pD (knl zs) : Int) := by simp [prU, prD, h]
theorem pr_no {zs : List Int} (h : sqB zs = false) : prU zs = -1 ∧ prD zs = -1 := by simp [prU, prD, h]
theorem pr_back {zs : List Int} : prU zs.reverse = prD zs ∧ prD zs.reverse = prU zs := by
  have e : knl zs.reverse = (knl zs).reverse := by rw [knl, knl, List.filter_reverse]
  obtain ⟨h1, h2⟩ := pU_rev (knl zs)
  rw [prU, prD, prU, prD, sq_rev, e, h1, h2]; exact ⟨rfl, rfl⟩
def trV (zs : List Int) : Int := if sqB zs then (if prD zs < prU zs then 1 else if prU zs < prD zs then -1 else 0) else -9
theorem tr_no {zs : List Int} (h : sqB zs = false) : trV zs = -9 := by simp [trV, h]
theorem tr_yes {zs : List Int} (h : sqB zs = true) : trV zs = if prD zs < prU zs then 1 else if prU zs < prD zs then -1 else 0 := by simp [trV, h]
theorem tr_back {zs : List Int} (h : sqB zs = true) : trV zs.reverse = 0 - trV zs := by
  obtain ⟨h1, h2⟩ := pr_back (zs := zs)
  rw [tr_yes h, tr_yes (by rw [sq_rev]; exact h), h1, h2]
  split <;> split <;> first | rfl | omega | (split <;> first | rfl | omega)
/-- Sorted values go up alone. -/
theorem so_pairs {zs : List Int} (h : sqB zs = true) (h0 : 0 < (soL zs).length) : sqB (soL zs) = true ∧ prD (soL zs) = 0 := by
  rw [soL_yes h] at *
  have hk := knl_bd h
  have hs : sqB (sorted (knl zs)) = true := by
    refine sq_all (List.all_eq_true.2 fun x hx => qB_of (.inr (hk x ((sorted_perm _).mem_iff.1 hx)))) ⟨h0, ?_⟩
    rw [sorted_length]; exact Nat.le_trans (knl_le zs) (sq_facts h).2.2
  refine ⟨hs, ?_⟩
  have e : knl (sorted (knl zs)) = sorted (knl zs) := by
    rw [knl, List.filter_eq_self]
    intro x hx
    have := hk x ((sorted_perm _).mem_iff.1 hx)
    exact bne_iff_ne.2 (by omega)
  rw [(pr_yes hs).2, e, pD_asc (sorted_pw _)]; rfl
/-- The trend of a line. -/
theorem tr_line {f s : Int} {n : Nat} (h : liB f s (n : Int) = true) (hn : 2 ≤ n) : (trV (lil f s n) = 1 ↔ 0 < s) ∧ (trV (lil f s n) = -1 ↔ s < 0) ∧ (trV (lil f s n) = 0 ↔ s = 0) := by
  obtain ⟨hq, ha⟩ := lil_sq h
  have hk : knl (lil f s n) = lil f s n := by
    rw [knl, List.filter_eq_self]; intro x hx; exact bne_iff_ne.2 (ha x hx).1
  obtain ⟨p1, p2⟩ := pr_yes hq
  rw [hk] at p1 p2
  have hl := lil_len f s n
  have hpw : (0 ≤ s → (lil f s n).Pairwise fun a b => a ≤ b) ∧ (s ≤ 0 → (lil f s n).Pairwise fun a b => b ≤ a) := by
    constructor <;> intro hs <;> rw [List.pairwise_iff_getElem] <;> intro i j hi hj hij
    all_goals
      rw [hl] at hi hj
      have e1 : (lil f s n)[i] = f + (i : Int) * s := by rw [← lil_at (f := f) (s := s) hi]; simp [List.getD_eq_getElem?_getD, hl, hi]
      have e2 : (lil f s n)[j] = f + (j : Int) * s := by rw [← lil_at (f := f) (s := s) hj]; simp [List.getD_eq_getElem?_getD, hl, hj]
      rw [e1, e2]
    · have := Int.mul_le_mul_of_nonneg_right (show (i : Int) ≤ (j : Int) by omega) hs
      omega
    · have := Int.mul_le_mul_of_nonpos_right (show (i : Int) ≤ (j : Int) by omega) hs
      omega
  have h2 : ∃ r, lil f s n = f :: (f + s) :: r := by
    refine ⟨(lil f s n).drop 2, ?_⟩
    rw [← List.take_append_drop 2 (lil f s n)]
    have e0 : (lil f s n).take 2 = [f, f + s] := by
      rw [lil_snoc (show 1 < n by omega), lil_snoc (show 0 < n by omega)]
      simp
    rw [List.drop_append, e0]; simp
  obtain ⟨r, hr⟩ := h2
  have up : 0 < s → 0 < pU (lil f s n) ∧ pD (lil f s n) = 0 := fun hs => ⟨by rw [hr]; exact pU_pos r (by omega), pD_asc (hpw.1 (by omega))⟩
  have down : s < 0 → 0 < pD (lil f s n) ∧ pU (lil f s n) = 0 := fun hs => ⟨by rw [hr]; exact pD_pos r (by omega), pU_desc (hpw.2 (by omega))⟩
  have flat : s = 0 → pD (lil f s n) = 0 ∧ pU (lil f s n) = 0 := fun hs => ⟨pD_asc (hpw.1 (by omega)), pU_desc (hpw.2 (by omega))⟩
  rw [tr_yes hq, p1, p2]
  rcases Int.lt_trichotomy s 0 with hs | hs | hs
  · obtain ⟨d1, d2⟩ := down hs
    rw [if_neg (by omega), if_pos (by omega)]; omega
  · obtain ⟨d1, d2⟩ := flat hs
    rw [if_neg (by omega), if_neg (by omega)]; omega
  · obtain ⟨d1, d2⟩ := up hs
    rw [if_pos (by omega)]; omega
end Go.Proofs.Ytkiibklenpncpaa
