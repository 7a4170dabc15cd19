/- Stage 10, CutsBest: the best of all cuts. Program (by recursion from the last day) and model (by trying the cuts of all numbers) find one and the same. -/
import Derived.Test.YtpgdbhafdnfhcaaKx
namespace Go.Proofs.Ytpgdbhafdnfhcaa
open Go.RowKit
set_option linter.unusedVariables false

/-- The cost of cuts from day p on: f p q is the cost of a part, pr the price of a cut. -/
def cT (f : Nat → Nat → Int) (n : Nat) (pr : Int) : Nat → List Int → Int
  | p, [] => f p n
  | p, c :: cs => f p c.toNat + pr + cT f n pr c.toNat cs
/-- Which of two lists of one length comes first. -/
def lx : List Int → List Int → Bool
  | a :: xs, b :: bs => if a = b then lx xs bs else decide (a < b)
  | _, _ => false
/-- Which cuts are better: less cost, then fewer, then earlier. -/
def lsC (a b : Int × List Int) : Prop := a.1 < b.1 ∨ (a.1 = b.1 ∧ (a.2.length < b.2.length ∨ (a.2.length = b.2.length ∧ lx a.2 b.2 = true)))
theorem lx_irr : ∀ a, lx a a = false
  | [] => rfl
  | a :: xs => by rw [lx, if_pos rfl]; exact lx_irr xs
theorem lx_eq : ∀ {a b : List Int}, a.length = b.length → lx a b = false → lx b a = false → a = b
  | [], [], _, _, _ => rfl
  | [], _ :: _, h, _, _ => by simp at h
  | _ :: _, [], h, _, _ => by simp at h
  | a :: xs, b :: bs, h, h1, h2 => by
    by_cases hab : a = b
    · subst hab
      rw [lx, if_pos rfl] at h1 h2
      rw [lx_eq (by simpa using h) h1 h2]
    · rw [lx, if_neg hab] at h1
      rw [lx, if_neg (Ne.symm hab)] at h2
      have h1 := of_decide_eq_false h1
      have h2 := of_decide_eq_false h2
      omega
theorem lx_trans : ∀ {a b c : List Int}, lx a b = true → lx b c = true → lx a c = true
  | [], _, _, h, _ => by cases ‹List Int› <;> simp [lx] at h
  | _ :: _, [], _, h, _ => by simp [lx] at h
  | _ :: _, _ :: _, [], _, h => by simp [lx] at h
  | a :: xs, b :: bs, c :: cs, h1, h2 => by
    simp only [lx] at h1 h2 ⊢
    split at h1 <;> split at h2 <;> split
    all_goals first | exact lx_trans h1 h2 | (simp_all; done) | (simp at h1 h2; omega) | (simp at h1 h2 ⊢; omega) | (subst_vars; simp at *; omega)
/-- Equally good cuts are the same. -/
theorem lsC_eq {a b : Int × List Int} (h1 : ¬ lsC a b) (h2 : ¬ lsC b a) : a = b := by
  unfold lsC at h1 h2
  have e1 : a.1 = b.1 := by omega
  have e2 : a.2.length = b.2.length := by
    have h3 : ¬ a.2.length < b.2.length := fun h => h1 (.inr ⟨e1, .inl h⟩)
    have h4 : ¬ b.2.length < a.2.length := fun h => h2 (.inr ⟨e1.symm, .inl h⟩)
    omega
  have e3 : lx a.2 b.2 = false := by
    cases h : lx a.2 b.2
    · rfl
    · exact absurd (.inr ⟨e1, .inr ⟨e2, h⟩⟩) h1
  have e4 : lx b.2 a.2 = false := by
    cases h : lx b.2 a.2
    · rfl
    · exact absurd (.inr ⟨e1.symm, .inr ⟨e2.symm, h⟩⟩) h2
  exact Prod.ext e1 (lx_eq e2 e3 e4)
theorem lsC_trans {a b c : Int × List Int} (h1 : lsC a b) (h2 : lsC b c) : lsC a c := by
  unfold lsC at *
  rcases h1 with h1 | ⟨e1, h1 | ⟨l1, h1⟩⟩ <;> rcases h2 with h2 | ⟨e2, h2 | ⟨l2, h2⟩⟩
  all_goals first
    | (left; omega)
    | (right; refine ⟨by omega, ?_⟩; first | (left; omega) | (right; exact ⟨by omega, lx_trans h1 h2⟩))
theorem lsC_irr (a : Int × List Int) : ¬ lsC a a := by
  unfold lsC
  rintro (h | ⟨_, h | ⟨_, h⟩⟩)
  · omega
  · omega
  · rw [lx_irr] at h; cases h
/-- What is not worse than a better one. -/
theorem lsC_nt {a b c : Int × List Int} (h1 : ¬ lsC b a) (h2 : ¬ lsC c b) : ¬ lsC c a := fun h => by
  by_cases h3 : lsC a b
  · exact h2 (lsC_trans h h3)
  · rw [lsC_eq h3 h1] at h; exact h2 h
/-- The same first part keeps the order. -/
theorem lsC_cons {x : Int} {c : Int} {r s : Int × List Int} : lsC (x + r.1, c :: r.2) (x + s.1, c :: s.2) ↔ lsC r s := by
  unfold lsC
  simp only [List.length_cons, lx, if_pos]
  constructor
  · rintro (h | ⟨h, h2 | ⟨h2, h3⟩⟩)
    · left; omega
    · right; exact ⟨by omega, .inl (by omega)⟩
    · right; exact ⟨by omega, .inr ⟨by omega, h3⟩⟩
  · rintro (h | ⟨h, h2 | ⟨h2, h3⟩⟩)
    · left; omega
    · right; exact ⟨by omega, .inl (by omega)⟩
    · right; exact ⟨by omega, .inr ⟨by omega, h3⟩⟩
/-- One more first cut tried: a later one must be better by cost and number. -/
def stp (b d : Int × List Int) : Int × List Int := if d.1 < b.1 ∨ (d.1 = b.1 ∧ d.2.length < b.2.length) then d else b
/-- The first cuts k, k + 1, .. (j of them) tried in turn. -/
def fo (g : Nat → Int × List Int) : Nat → Nat → Int × List Int → Int × List Int
  | _, 0, b => b
  | k, j + 1, b => fo g (k + 1) j (stp b (g k))
/-- The best cuts from day p on, by recursion. -/
def bq (f : Nat → Nat → Int) (n : Nat) (pr : Int) : Nat → Nat → Int × List Int
  | 0, p => (f p n, [])
  | m + 1, p => fo (fun c => (f p c + pr + (bq f n pr m c).1, (c : Int) :: (bq f n pr m c).2)) (p + 1) (n - (p + 1)) (f p n, [])
/-- Cuts behind day p. -/
def Vc (n p : Nat) (cs : List Int) : Prop := cs.Pairwise (· < ·) ∧ ∀ x ∈ cs, (p : Int) < x ∧ x < n
def Bst (f : Nat → Nat → Int) (n : Nat) (pr : Int) (p : Nat) (b : Int × List Int) : Prop := b.1 = cT f n pr p b.2 ∧ Vc n p b.2 ∧ ∀ cs, Vc n p cs → ¬ lsC (cT f n pr p cs, cs) b
/-- The best of the cuts whose first is ahead of k. -/
def Bsk (f : Nat → Nat → Int) (n : Nat) (pr : Int) (p k : Nat) (b : Int × List Int) : Prop := b.1 = cT f n pr p b.2 ∧ Vc n p b.2 ∧ (∀ h t, b.2 = h :: t → h < (k : Int)) ∧ ∀ cs, Vc n p cs → (∀ h t, cs = h :: t → h < (k : Int)) → ¬ lsC (cT f n pr p cs, cs) b
theorem stp_best {f : Nat → Nat → Int} {n : Nat} {pr : Int} {p k : Nat} {b r : Int × List Int} (hp : p < k) (hk : k < n) (hb : Bsk f n pr p k b) (hr : Bst f n pr k r) : Bsk f n pr p (k + 1) (stp b (f p k + pr + r.1, (k : Int) :: r.2)) := by
  obtain ⟨b1, b2, b3, b4⟩ := hb
  obtain ⟨r1, r2, r3⟩ := hr
  have hd1 : f p k + pr + r.1 = cT f n pr p ((k : Int) :: r.2) := by rw [cT, r1]; simp
  have hd2 : Vc n p ((k : Int) :: r.2) := by
    refine ⟨List.pairwise_cons.2 ⟨fun x hx => (r2.2 x hx).1, r2.1⟩, fun x hx => ?_⟩
    rcases List.mem_cons.1 hx with rfl | hx
    · exact ⟨by omega, by omega⟩
    · have := r2.2 x hx; exact ⟨by omega, this.2⟩
  have hk' : ∀ cs, Vc n p cs → (∀ h t, cs = h :: t → h = (k : Int)) → cs ≠ [] → ¬ lsC (cT f n pr p cs, cs) (f p k + pr + r.1, (k : Int) :: r.2) := by
    intro cs hv hh hne
    cases cs with
    | nil => exact absurd rfl hne
    | cons h t =>
      obtain rfl := hh h t rfl
      have ht : Vc n k t := ⟨(List.pairwise_cons.1 hv.1).2, fun x hx => ⟨(List.pairwise_cons.1 hv.1).1 x hx, (hv.2 x (List.mem_cons_of_mem _ hx)).2⟩⟩
      have h9 : cT f n pr p ((k : Int) :: t) = f p k + pr + cT f n pr k t := by rw [cT]; simp
      rw [h9]
      exact fun h8 => r3 t ht ((lsC_cons (x := f p k + pr) (c := (k : Int)) (r := (cT f n pr k t, t)) (s := r)).1 h8)
  unfold stp
  split
  next hlt =>
    have hls : lsC (f p k + pr + r.1, (k : Int) :: r.2) b := by
      rcases hlt with h | ⟨h, h2⟩
      · exact .inl h
      · exact .inr ⟨h, .inl h2⟩
    refine ⟨hd1, hd2, fun h t e => by injection e with e1 _; omega, fun cs hv hh => ?_⟩
    by_cases h1 : ∀ h t, cs = h :: t → h < (k : Int)
    · exact fun h8 => b4 cs hv h1 (lsC_trans h8 hls)
    · refine hk' cs hv (fun h t e => ?_) (fun e => h1 (fun h t e2 => by rw [e] at e2; cases e2))
      have := hh h t e
      by_cases h2 : h < (k : Int)
      · exact absurd (fun h' t' e' => by rw [e] at e'; injection e' with e1 _; omega) h1
      · omega
  next hlt =>
    have hls : ¬ lsC (f p k + pr + r.1, (k : Int) :: r.2) b := by
      rintro (h | ⟨h, h2 | ⟨h2, h3⟩⟩)
      · exact hlt (.inl h)
      · exact hlt (.inr ⟨h, h2⟩)
      · cases hb2 : b.2 with
        | nil => rw [hb2] at h2; simp at h2
        | cons x t =>
          have hx := b3 x t hb2
          rw [hb2] at h3
          simp only [lx] at h3
          rw [if_neg (by omega)] at h3
          have := of_decide_eq_true h3
          omega
    refine ⟨b1, b2, fun h t e => by have := b3 h t e; omega, fun cs hv hh => ?_⟩
    by_cases h1 : ∀ h t, cs = h :: t → h < (k : Int)
    · exact b4 cs hv h1
    · refine lsC_nt hls (hk' cs hv (fun h t e => ?_) (fun e => h1 (fun h t e2 => by rw [e] at e2; cases e2)))
      have := hh h t e
      by_cases h2 : h < (k : Int)
      · exact absurd (fun h' t' e' => by rw [e] at e'; injection e' with e1 _; omega) h1
      · omega
theorem fo_best {f : Nat → Nat → Int} {n : Nat} {pr : Int} {p : Nat} {g : Nat → Int × List Int} (hg : ∀ c, p < c → c < n → Bst f n pr c (g c)) :
    ∀ j k b, p < k → k + j = n → Bsk f n pr p k b → Bsk f n pr p n (fo (fun c => (f p c + pr + (g c).1, (c : Int) :: (g c).2)) k j b)
  | 0, k, b, _, hj, hb => by
    obtain rfl : k = n := by omega
    exact hb
  | j + 1, k, b, hp, hj, hb => fo_best hg j (k + 1) _ (by omega) (by omega) (stp_best hp (by omega) hb (hg k hp (by omega)))
/-- The recursion's cuts are the best. -/
theorem bq_best (f : Nat → Nat → Int) (n : Nat) (pr : Int) : ∀ m p, p < n → n ≤ m + p → Bst f n pr p (bq f n pr m p)
  | 0, p, h, h2 => by omega
  | m + 1, p, h, h2 => by
    have h0 : Bsk f n pr p (p + 1) (f p n, []) := by
      refine ⟨rfl, ⟨List.Pairwise.nil, fun x hx => by cases hx⟩, fun h t e => by simp at e, fun cs hv hh => ?_⟩
      cases cs with
      | nil => exact lsC_irr _
      | cons x t =>
        have h3 := hh x t rfl
        have h4 := (hv.2 x (List.mem_cons_self ..)).1
        omega
    obtain ⟨e1, e2, _, e4⟩ := fo_best (g := fun c => bq f n pr m c) (fun c hc hn => bq_best f n pr m c hn (by omega)) (n - (p + 1)) (p + 1) (f p n, []) (by omega) (by omega) h0
    refine ⟨e1, e2, fun cs hv => e4 cs hv fun h t e => ?_⟩
    exact (hv.2 h (by rw [e]; exact List.mem_cons_self ..)).2
/-- More fuel changes nothing: the best cuts are one. -/
theorem bst_one {f : Nat → Nat → Int} {n : Nat} {pr : Int} {p : Nat} {a b : Int × List Int} (ha : Bst f n pr p a) (hb : Bst f n pr p b) : a = b := by
  obtain ⟨a1, a2, a3⟩ := ha
  obtain ⟨b1, b2, b3⟩ := hb
  refine lsC_eq (fun h => b3 a.2 a2 ?_) (fun h => a3 b.2 b2 ?_)
  · rw [← a1]; exact h
  · rw [← b1]; exact h
/-- The cuts of a number: bit by bit, j days from i on. -/
def bl : Nat → Nat → Nat → List Int
  | _, 0, _ => []
  | n, j + 1, i => (if n % 2 = 1 then [(i : Int)] else []) ++ bl (n / 2) j (i + 1)
theorem bl_mem : ∀ (j n i : Nat) (x : Int), x ∈ bl n j i → (i : Int) ≤ x ∧ x < (i + j : Nat)
  | 0, _, _, _, h => by simp [bl] at h
  | j + 1, n, i, x, h => by
    rw [bl, List.mem_append] at h
    rcases h with h | h
    · split at h
      · have := List.mem_singleton.1 h; omega
      · cases h
    · have := bl_mem j _ _ x h; omega
theorem bl_asc : ∀ (j n i : Nat), (bl n j i).Pairwise (· < ·)
  | 0, _, _ => by rw [bl]; exact List.Pairwise.nil
  | j + 1, n, i => by
    rw [bl]
    split
    · refine List.pairwise_cons.2 ⟨fun x hx => ?_, bl_asc j _ _⟩
      have := bl_mem j _ _ x hx; omega
    · exact bl_asc j _ _
theorem bl_zero : ∀ (j i : Nat), bl 0 j i = []
  | 0, _ => rfl
  | j + 1, i => by rw [bl]; simpa using bl_zero j (i + 1)
theorem bl_all : ∀ (j i : Nat) (cs : List Int), cs.Pairwise (· < ·) → (∀ x ∈ cs, (i : Int) ≤ x ∧ x < (i + j : Nat)) → ∃ n, n < 2 ^ j ∧ bl n j i = cs
  | 0, i, cs, _, h => by
    cases cs with
    | nil => exact ⟨0, by simp, rfl⟩
    | cons x t => have := h x (List.mem_cons_self ..); omega
  | j + 1, i, cs, ha, h => by
    cases cs with
    | nil => exact ⟨0, Nat.pow_pos (by omega), bl_zero _ _⟩
    | cons x t =>
      by_cases hx : x = (i : Int)
      · subst hx
        obtain ⟨n, hn, e⟩ := bl_all j (i + 1) t (List.pairwise_cons.1 ha).2 (fun y hy => by
          have h1 := (List.pairwise_cons.1 ha).1 y hy
          have h2 := h y (List.mem_cons_of_mem _ hy); omega)
        refine ⟨2 * n + 1, by rw [Nat.pow_succ]; omega, ?_⟩
        rw [bl, if_pos (by omega), show (2 * n + 1) / 2 = n by omega, e]; rfl
      · obtain ⟨n, hn, e⟩ := bl_all j (i + 1) (x :: t) ha (fun y hy => by
          have h1 := h x (List.mem_cons_self ..)
          have h2 := h y hy
          rcases List.mem_cons.1 hy with rfl | hy
          · omega
          · have := (List.pairwise_cons.1 ha).1 y hy; omega)
        refine ⟨2 * n, by rw [Nat.pow_succ]; omega, ?_⟩
        rw [bl, if_neg (by omega), show (2 * n) / 2 = n by omega, e]; rfl
/-- The best of the first k numbers' cuts. -/
def Bsn (f : Nat → Nat → Int) (n : Nat) (pr : Int) (k : Nat) (b : Int × List Int) : Prop := b.1 = cT f n pr 0 b.2 ∧ Vc n 0 b.2 ∧ ∀ i, i < k → ¬ lsC (cT f n pr 0 (bl i (n - 1) 1), bl i (n - 1) 1) b
theorem bl_vc {n : Nat} (hn : 1 ≤ n) (k : Nat) : Vc n 0 (bl k (n - 1) 1) := ⟨bl_asc _ _ _, fun x hx => by have := bl_mem _ _ _ x hx; omega⟩
theorem bsn_one (f : Nat → Nat → Int) (n : Nat) (pr : Int) : Bsn f n pr 1 (f 0 n, []) := by
  refine ⟨rfl, ⟨List.Pairwise.nil, fun x hx => by cases hx⟩, fun i hi => ?_⟩
  obtain rfl : i = 0 := by omega
  rw [bl_zero]
  exact lsC_irr _
theorem bsn_yes {f : Nat → Nat → Int} {n : Nat} {pr : Int} {k : Nat} {b : Int × List Int} (hn : 1 ≤ n) (h : Bsn f n pr k b) (hl : lsC (cT f n pr 0 (bl k (n - 1) 1), bl k (n - 1) 1) b) : Bsn f n pr (k + 1) (cT f n pr 0 (bl k (n - 1) 1), bl k (n - 1) 1) := by
  refine ⟨rfl, bl_vc hn k, fun i hi h8 => ?_⟩
  by_cases hik : i < k
  · exact h.2.2 i hik (lsC_trans h8 hl)
  · obtain rfl : i = k := by omega
    exact lsC_irr _ h8
theorem bsn_no {f : Nat → Nat → Int} {n : Nat} {pr : Int} {k : Nat} {b : Int × List Int} (h : Bsn f n pr k b) (hl : ¬ lsC (cT f n pr 0 (bl k (n - 1) 1), bl k (n - 1) 1) b) : Bsn f n pr (k + 1) b := by
  refine ⟨h.1, h.2.1, fun i hi h8 => ?_⟩
  by_cases hik : i < k
  · exact h.2.2 i hik h8
  · obtain rfl : i = k := by omega
    exact hl h8
/-- All numbers tried: the best of all cuts. -/
theorem bsn_all {f : Nat → Nat → Int} {n : Nat} {pr : Int} {b : Int × List Int} (hn : 1 ≤ n) (h : Bsn f n pr (2 ^ (n - 1)) b) : Bst f n pr 0 b := by
  refine ⟨h.1, h.2.1, fun cs hv => ?_⟩
  obtain ⟨i, hi, e⟩ := bl_all (n - 1) 1 cs hv.1 (fun x hx => by have := hv.2 x hx; omega)
  rw [← e]
  exact h.2.2 i hi
/-- Program and model find the same cuts. -/
theorem best_one {f : Nat → Nat → Int} {n : Nat} {pr : Int} {b : Int × List Int} (hn : 1 ≤ n) (h : Bsn f n pr (2 ^ (n - 1)) b) : b = bq f n pr n 0 :=
  bst_one (bsn_all hn h) (bq_best f n pr n 0 (by omega) (by omega))
/-- Behind its first cut the best is the best from there on. -/
theorem bst_tail {f : Nat → Nat → Int} {n : Nat} {pr : Int} {p : Nat} {b : Int × List Int} {c : Int} {t : List Int} (h : Bst f n pr p b) (hb : b.2 = c :: t) : Bst f n pr c.toNat (cT f n pr c.toNat t, t) ∧ b.1 = f p c.toNat + pr + cT f n pr c.toNat t ∧ (p : Int) < c ∧ c < n := by
  obtain ⟨h1, h2, h3⟩ := h
  rw [hb] at h1 h2
  have hc := h2.2 c (List.mem_cons_self ..)
  have hct : ((c.toNat : Nat) : Int) = c := by omega
  have ht : Vc n c.toNat t := ⟨(List.pairwise_cons.1 h2.1).2, fun x hx => ⟨by rw [hct]; exact (List.pairwise_cons.1 h2.1).1 x hx, (h2.2 x (List.mem_cons_of_mem _ hx)).2⟩⟩
  rw [cT] at h1
  refine ⟨⟨rfl, ht, fun cs hv h8 => ?_⟩, h1, hc.1, hc.2⟩
  have hv9 : Vc n p (c :: cs) := by
    refine ⟨List.pairwise_cons.2 ⟨fun x hx => by have := (hv.2 x hx).1; rwa [hct] at this, hv.1⟩, fun x hx => ?_⟩
    rcases List.mem_cons.1 hx with rfl | hx
    · exact hc
    · have := hv.2 x hx; exact ⟨by omega, this.2⟩
  refine h3 (c :: cs) hv9 ?_
  rw [show b = (f p c.toNat + pr + cT f n pr c.toNat t, c :: t) from Prod.ext h1 hb, cT]
  exact (lsC_cons (x := f p c.toNat + pr) (c := c) (r := (cT f n pr c.toNat cs, cs)) (s := (cT f n pr c.toNat t, t))).2 h8
/-- The cost of cuts, as CutsCost reckons it. -/
theorem cT_cR (zs : List Int) (pr : Int) : ∀ (cs : List Int) (p : Nat), cT (fun p q => pcV (seg zs p q)) zs.length pr p cs = pr * cs.length + cR zs p cs
  | [], p => by simp [cT, cR]
  | c :: t, p => by
    rw [cT, cR, cT_cR zs pr t c.toNat, List.length_cons, Int.natCast_add, Int.mul_add]
    omega
theorem vc_ct {zs cs : List Int} (h : 1 ≤ zs.length ∧ zs.length ≤ 8) : Vc zs.length 0 cs ↔ ctB cs zs.length = true := by
  constructor
  · intro hv
    exact ct_of (by omega) hv.1 (fun x hx => by have := hv.2 x hx; omega)
  · intro hc
    exact ⟨ct_asc hc, fun x hx => by have := ct_mem hc x hx; omega⟩
/-- What cuts cost, for cuts that are valid. -/
theorem cT_ccV {zs cs : List Int} {pr : Int} (h : ccB zs cs pr = true) : cT (fun p q => pcV (seg zs p q)) zs.length pr 0 cs = ccV zs cs pr := by
  rw [cT_cR, ccV_yes h, ccR_cR]
end Go.Proofs.Ytpgdbhafdnfhcaa
