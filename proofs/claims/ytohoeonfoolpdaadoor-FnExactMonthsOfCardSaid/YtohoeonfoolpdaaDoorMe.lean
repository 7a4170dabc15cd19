/- Normals, without the program: means 'meB', 'meV'; the first days of the extremes 'exLo', 'exHi'; degree days 'dgS', 'dgV'; ranks 'rkB', 'rkV'. -/
import Derived.Test.YtohoeonfoolpdaaDoorSu
import Derived.Test.YtohoeonfoolpdaaDoorRf
import Derived.Test.YtohoeonfoolpdaaDoorRl
namespace Go.Proofs.YtohoeonfoolpdaaDoor
open Go.RowKit
set_option linter.unusedVariables false

theorem isum_ge {m : Int} : ∀ {L : List Int}, (∀ x ∈ L, m ≤ x) → m * (L.length : Int) ≤ isum L
  | [], _ => by simp [isum]
  | x :: r, h => by
    have h1 := h x List.mem_cons_self
    have h2 := isum_ge (m := m) (L := r) fun y hy => h y (List.mem_cons_of_mem _ hy)
    rw [isum, List.length_cons, show (((r.length + 1 : Nat)) : Int) = (r.length : Int) + 1 by omega, Int.mul_add, Int.mul_one]
    omega
theorem isum_le {m : Int} : ∀ {L : List Int}, (∀ x ∈ L, x ≤ m) → isum L ≤ m * (L.length : Int)
  | [], _ => by simp [isum]
  | x :: r, h => by
    have h1 := h x List.mem_cons_self
    have h2 := isum_le (m := m) (L := r) fun y hy => h y (List.mem_cons_of_mem _ hy)
    rw [isum, List.length_cons, show (((r.length + 1 : Nat)) : Int) = (r.length : Int) + 1 by omega, Int.mul_add, Int.mul_one]
    omega
theorem isum_add (d : Int) : ∀ L : List Int, isum (L.map (· + d)) = isum L + d * (L.length : Int)
  | [] => by simp [isum]
  | x :: r => by
    have h2 := isum_add d r
    rw [List.map_cons, isum, isum, h2, List.length_cons, show (((r.length + 1 : Nat)) : Int) = (r.length : Int) + 1 by omega, Int.mul_add, Int.mul_one]
    omega
/-- A rounded quotient lies between whole numbers as the quotient does. -/
theorem rq_between {n d a b : Int} (hd : 1 ≤ d) (h1 : a * d ≤ n) (h2 : n ≤ b * d) : a ≤ rq n d ∧ rq n d ≤ b := by
  obtain ⟨o, s, ho, hn, s0, s1, _⟩ := rq_facts n d hd
  rw [ho]
  constructor
  · by_cases h : a ≤ o
    · exact h
    · exfalso
      have : o * d ≤ (a - 1) * d := Int.mul_le_mul_of_nonneg_right (by omega) (by omega)
      rw [Int.sub_mul, Int.one_mul] at this
      omega
  · by_cases h : o ≤ b
    · exact h
    · exfalso
      have : (b + 1) * d ≤ o * d := Int.mul_le_mul_of_nonneg_right (by omega) (by omega)
      rw [Int.add_mul, Int.one_mul] at this
      omega
theorem rq_more {n d : Int} (k : Int) (hk : k % 2 = 0) (hd : 1 ≤ d) : rq (n + k * d) d = rq n d + k := by
  obtain ⟨o, s, ho, hn, s0, s1, h3⟩ := rq_facts n d hd
  rw [ho]
  refine rq_unique (s := s) hd (by rw [Int.add_mul]; omega) s0 s1 (fun h => ?_)
  have := h3 h
  omega

/-- Means. -/
def meB (zs : List Int) (g : Int) : Bool := sqB zs && (decide (0 < (knl zs).length) && decide ((zs.length : Int) - ((knl zs).length : Int) ≤ g))
def meV (zs : List Int) (g : Int) : Int := if meB zs g then rq (isum (knl zs)) ((knl zs).length : Int) else 0
theorem meB_facts {zs : List Int} {g : Int} (h : meB zs g = true) : sqB zs = true ∧ 0 < (knl zs).length ∧ (zs.length : Int) - ((knl zs).length : Int) ≤ g := by
  simp only [meB, Bool.and_eq_true, decide_eq_true_eq] at h; exact h
theorem meB_mk {zs : List Int} {g : Int} (h1 : sqB zs = true) (h2 : 0 < (knl zs).length) (h3 : (zs.length : Int) - ((knl zs).length : Int) ≤ g) : meB zs g = true := by
  simp only [meB, Bool.and_eq_true, decide_eq_true_eq]; exact ⟨h1, h2, h3⟩
theorem meV_yes {zs : List Int} {g : Int} (h : meB zs g = true) : meV zs g = rq (isum (knl zs)) ((knl zs).length : Int) := by simp [meV, h]
theorem meV_no {zs : List Int} {g : Int} (h : meB zs g = false) : meV zs g = 0 := by simp [meV, h]
theorem meB_sq {zs : List Int} {g : Int} (h : sqB zs = false) : meB zs g = false := by simp [meB, h]
theorem meB_none {zs : List Int} {g : Int} (h : (knl zs).length = 0) : meB zs g = false := by simp [meB, h]
theorem meB_gaps {zs : List Int} {g : Int} (h : g < (zs.length : Int) - ((knl zs).length : Int)) : meB zs g = false := by
  have : ¬ ((zs.length : Int) - ((knl zs).length : Int) ≤ g) := by omega
  simp [meB, this]
theorem me_sum {zs : List Int} (h : sqB zs = true) : -12000 * 12 ≤ isum (knl zs) ∧ isum (knl zs) ≤ 12000 * 12 ∧ (knl zs).length ≤ 12 := by
  have hl : (knl zs).length ≤ 12 := Nat.le_trans (knl_le zs) (sq_facts h).2.2
  have := isum_bd (L := knl zs) fun x hx => by have := knl_bd h x hx; omega
  omega
theorem me_ro {zs : List Int} {g : Int} (h : meB zs g = true) : roOk (isum (knl zs)) ((knl zs).length : Int) = true ∧ ro (isum (knl zs)) ((knl zs).length : Int) = meV zs g := by
  obtain ⟨h1, h2, h3⟩ := meB_facts h
  obtain ⟨s0, s1, s2⟩ := me_sum h1
  have hr : roOk (isum (knl zs)) ((knl zs).length : Int) = true := roOk_mk (by omega)
  exact ⟨hr, by rw [meV_yes h, ro_yes hr]⟩
theorem me_between {zs : List Int} {g : Int} (h : meB zs g = true) : (soL zs).getD 0 0 ≤ meV zs g ∧ meV zs g ≤ (soL zs).getD ((soL zs).length - 1) 0 ∧ 0 < (soL zs).length := by
  obtain ⟨h1, h2, h3⟩ := meB_facts h
  have hl : (soL zs).length = (knl zs).length := by rw [soL_yes h1, sorted_length]
  rw [meV_yes h]
  have hx : ∀ x ∈ knl zs, (soL zs).getD 0 0 ≤ x ∧ x ≤ (soL zs).getD ((soL zs).length - 1) 0 := fun x hx => by
    have := (sorted_perm (knl zs)).mem_iff.2 hx
    obtain ⟨j, hj, rfl⟩ := List.getElem_of_mem this
    have e : (sorted (knl zs))[j] = (sorted (knl zs)).getD j 0 := by simp [List.getD_eq_getElem?_getD, hj]
    rw [soL_yes h1, e]
    exact ⟨sorted_at (Nat.zero_le _) hj, sorted_at (by omega) (by omega)⟩
  have b := rq_between (n := isum (knl zs)) (d := ((knl zs).length : Int)) (by omega) (isum_ge fun x h => (hx x h).1) (isum_le fun x h => (hx x h).2)
  exact ⟨b.1, b.2, by omega⟩
theorem me_back (zs : List Int) (g : Int) : meB zs.reverse g = meB zs g ∧ meV zs.reverse g = meV zs g := by
  have hp := knl_back zs
  have e1 : (knl zs.reverse).length = (knl zs).length := hp.length_eq
  have e2 : meB zs.reverse g = meB zs g := by rw [meB, meB, sq_rev, e1, List.length_reverse]
  exact ⟨e2, by rw [meV, meV, e2, isum_perm hp, e1]⟩

/-- Values moved by d. -/
def addD (d x : Int) : Int := if x = -9999 then -9999 else x + d
theorem knl_addD {zs : List Int} {d : Int} (hd : 0 ≤ d) (h : ∀ x ∈ zs, x = -9999 ∨ -999 ≤ x) : knl (zs.map (addD d)) = (knl zs).map (· + d) := by
  induction zs with
  | nil => rfl
  | cons x zs ih =>
    have ih := ih fun y hy => h y (List.mem_cons_of_mem _ hy)
    have hx := h x List.mem_cons_self
    simp only [knl] at ih ⊢
    rw [List.map_cons, List.filter_cons, List.filter_cons, ih]
    by_cases hn : x = -9999
    · subst hn; simp [addD]
    · have e1 : (addD d x != -9999) = true := by rw [addD, if_neg hn]; exact bne_iff_ne.2 (by omega)
      have e2 : (x != -9999) = true := bne_iff_ne.2 hn
      rw [e1, e2, addD, if_neg hn]; simp
theorem me_added {zs : List Int} {g : Int} (h : meB zs g = true) (h2 : meB (zs.map (addD 2)) g = true) : meV (zs.map (addD 2)) g = meV zs g + 2 := by
  obtain ⟨h1, h3, _⟩ := meB_facts h
  have e := knl_addD (d := 2) (by omega) (zs := zs) fun x hx => by have := qB_bd (List.all_eq_true.1 (sq_facts h1).1 x hx); omega
  rw [meV_yes h2, meV_yes h, e, isum_add, List.length_map]
  exact rq_more 2 rfl (by omega)

/-- Extremes: the first days of the least and of the greatest value. -/
def LoAt (zs : List Int) (i : Nat) : Prop := i < zs.length ∧ zs.getD i 0 ≠ -9999 ∧ ∀ j, j < zs.length → zs.getD j 0 ≠ -9999 → zs.getD i 0 ≤ zs.getD j 0 ∧ (zs.getD j 0 = zs.getD i 0 → i ≤ j)
def HiAt (zs : List Int) (i : Nat) : Prop := i < zs.length ∧ zs.getD i 0 ≠ -9999 ∧ ∀ j, j < zs.length → zs.getD j 0 ≠ -9999 → zs.getD j 0 ≤ zs.getD i 0 ∧ (zs.getD j 0 = zs.getD i 0 → i ≤ j)
theorem LoAt.one {zs : List Int} {i k : Nat} (h : LoAt zs i) (g : LoAt zs k) : i = k := by
  have a := h.2.2 k g.1 g.2.1
  have b := g.2.2 i h.1 h.2.1
  have e : zs.getD k 0 = zs.getD i 0 := by omega
  have := a.2 e
  have := b.2 e.symm
  omega
theorem HiAt.one {zs : List Int} {i k : Nat} (h : HiAt zs i) (g : HiAt zs k) : i = k := by
  have a := h.2.2 k g.1 g.2.1
  have b := g.2.2 i h.1 h.2.1
  have e : zs.getD k 0 = zs.getD i 0 := by omega
  have := a.2 e
  have := b.2 e.symm
  omega
def loI (zs : List Int) : Nat → Int
  | 0 => -1
  | k + 1 => if zs.getD k 0 ≠ -9999 ∧ (loI zs k < 0 ∨ zs.getD k 0 < zs.getD (loI zs k).toNat 0) then (k : Int) else loI zs k
def hiI (zs : List Int) : Nat → Int
  | 0 => -1
  | k + 1 => if zs.getD k 0 ≠ -9999 ∧ (hiI zs k < 0 ∨ zs.getD (hiI zs k).toNat 0 < zs.getD k 0) then (k : Int) else hiI zs k
theorem lo_inv (zs : List Int) : ∀ k, (loI zs k = -1 ∧ ∀ j, j < k → zs.getD j 0 = -9999) ∨ ∃ i, i < k ∧ loI zs k = (i : Int) ∧ zs.getD i 0 ≠ -9999 ∧ ∀ j, j < k → zs.getD j 0 ≠ -9999 → zs.getD i 0 ≤ zs.getD j 0 ∧ (zs.getD j 0 = zs.getD i 0 → i ≤ j)
  | 0 => .inl ⟨rfl, fun j hj => by omega⟩
  | k + 1 => by
    rcases lo_inv zs k with ⟨h1, h2⟩ | ⟨i, h1, h2, h3, h4⟩
    · by_cases hx : zs.getD k 0 = -9999
      · left
        refine ⟨by rw [loI, if_neg (fun e => e.1 hx)]; exact h1, fun j hj => ?_⟩
        by_cases e : j = k
        · rw [e]; exact hx
        · exact h2 j (by omega)
      · right
        refine ⟨k, by omega, by rw [loI, if_pos ⟨hx, .inl (by omega)⟩], hx, fun j hj hne => ?_⟩
        by_cases e : j = k
        · rw [e]; exact ⟨Int.le_refl _, fun _ => Nat.le_refl _⟩
        · exact absurd (h2 j (by omega)) hne
    · have e2 : (loI zs k).toNat = i := by omega
      by_cases hx : zs.getD k 0 ≠ -9999 ∧ zs.getD k 0 < zs.getD i 0
      · right
        refine ⟨k, by omega, by rw [loI, if_pos ⟨hx.1, .inr (by rw [e2]; exact hx.2)⟩], hx.1, fun j hj hne => ?_⟩
        by_cases e : j = k
        · rw [e]; exact ⟨Int.le_refl _, fun _ => Nat.le_refl _⟩
        · have := h4 j (by omega) hne
          exact ⟨by omega, fun _ => by omega⟩
      · right
        refine ⟨i, by omega, ?_, h3, fun j hj hne => ?_⟩
        · rw [loI, if_neg (fun e => ?_)]
          · exact h2
          · rw [e2] at e
            rcases e.2 with e3 | e3
            · omega
            · exact hx ⟨e.1, e3⟩
        · by_cases e : j = k
          · subst e
            exact ⟨by omega, fun _ => by omega⟩
          · exact h4 j (by omega) hne
theorem hi_inv (zs : List Int) : ∀ k, (hiI zs k = -1 ∧ ∀ j, j < k → zs.getD j 0 = -9999) ∨ ∃ i, i < k ∧ hiI zs k = (i : Int) ∧ zs.getD i 0 ≠ -9999 ∧ ∀ j, j < k → zs.getD j 0 ≠ -9999 → zs.getD j 0 ≤ zs.getD i 0 ∧ (zs.getD j 0 = zs.getD i 0 → i ≤ j)
  | 0 => .inl ⟨rfl, fun j hj => by omega⟩
  | k + 1 => by
    rcases hi_inv zs k with ⟨h1, h2⟩ | ⟨i, h1, h2, h3, h4⟩
    · by_cases hx : zs.getD k 0 = -9999
      · left
        refine ⟨by rw [hiI, if_neg (fun e => e.1 hx)]; exact h1, fun j hj => ?_⟩
        by_cases e : j = k
        · rw [e]; exact hx
        · exact h2 j (by omega)
      · right
        refine ⟨k, by omega, by rw [hiI, if_pos ⟨hx, .inl (by omega)⟩], hx, fun j hj hne => ?_⟩
        by_cases e : j = k
        · rw [e]; exact ⟨Int.le_refl _, fun _ => Nat.le_refl _⟩
        · exact absurd (h2 j (by omega)) hne
    · have e2 : (hiI zs k).toNat = i := by omega
      by_cases hx : zs.getD k 0 ≠ -9999 ∧ zs.getD i 0 < zs.getD k 0
      · right
        refine ⟨k, by omega, by rw [hiI, if_pos ⟨hx.1, .inr (by rw [e2]; exact hx.2)⟩], hx.1, fun j hj hne => ?_⟩
        by_cases e : j = k
        · rw [e]; exact ⟨Int.le_refl _, fun _ => Nat.le_refl _⟩
        · have := h4 j (by omega) hne
          exact ⟨by omega, fun _ => by omega⟩
      · right
        refine ⟨i, by omega, ?_, h3, fun j hj hne => ?_⟩
        · rw [hiI, if_neg (fun e => ?_)]
          · exact h2
          · rw [e2] at e
            rcases e.2 with e3 | e3
            · omega
            · exact hx ⟨e.1, e3⟩
        · by_cases e : j = k
          · subst e
            exact ⟨by omega, fun _ => by omega⟩
          · exact h4 j (by omega) hne
theorem hi_lo (zs : List Int) (k : Nat) : loI zs k < 0 ↔ hiI zs k < 0 := by
  rcases lo_inv zs k with ⟨h1, h2⟩ | ⟨i, h1, h2, h3, _⟩ <;> rcases hi_inv zs k with ⟨g1, g2⟩ | ⟨j, g1, g2, g3, _⟩
  · omega
  · exact absurd (h2 j g1) g3
  · exact absurd (g2 i h1) h3
  · omega
def exLo (zs : List Int) : Nat := (loI zs zs.length).toNat
def exHi (zs : List Int) : Nat := (hiI zs zs.length).toNat
theorem mem_knl (zs : List Int) (x : Int) : x ∈ knl zs ↔ ∃ j, j < zs.length ∧ zs.getD j 0 = x ∧ x ≠ -9999 := by
  rw [knl, List.mem_filter]
  constructor
  · rintro ⟨h1, h2⟩
    obtain ⟨j, hj, rfl⟩ := List.getElem_of_mem h1
    exact ⟨j, hj, by simp [List.getD_eq_getElem?_getD, hj], by simpa using h2⟩
  · rintro ⟨j, hj, h1, h2⟩
    exact ⟨h1 ▸ getD_mem hj, by simpa using h2⟩
theorem ex_some {zs : List Int} (h : moB zs = true) : ∃ j, j < zs.length ∧ zs.getD j 0 ≠ -9999 := by
  obtain ⟨h1, h2⟩ := moB_facts h
  obtain ⟨j, hj, e, hne⟩ := (mem_knl zs _).1 (getD_mem h2)
  exact ⟨j, hj, by rw [e]; exact hne⟩
theorem ex_lo {zs : List Int} (h : moB zs = true) : LoAt zs (exLo zs) ∧ loI zs zs.length = (exLo zs : Int) := by
  obtain ⟨j, hj, hne⟩ := ex_some h
  rcases lo_inv zs zs.length with ⟨_, h2⟩ | ⟨i, h1, h2, h3, h4⟩
  · exact absurd (h2 j hj) hne
  · have e : exLo zs = i := by rw [exLo, h2]; omega
    rw [e]
    exact ⟨⟨h1, h3, h4⟩, h2⟩
theorem ex_hi {zs : List Int} (h : moB zs = true) : HiAt zs (exHi zs) ∧ hiI zs zs.length = (exHi zs : Int) := by
  obtain ⟨j, hj, hne⟩ := ex_some h
  rcases hi_inv zs zs.length with ⟨_, h2⟩ | ⟨i, h1, h2, h3, h4⟩
  · exact absurd (h2 j hj) hne
  · have e : exHi zs = i := by rw [exHi, h2]; omega
    rw [e]
    exact ⟨⟨h1, h3, h4⟩, h2⟩
def exA (zs : List Int) : Int := if moB zs then (exLo zs : Int) else 0
def exZ (zs : List Int) : Int := if moB zs then (exHi zs : Int) else 0
theorem ex_yes {zs : List Int} (h : moB zs = true) : exA zs = (exLo zs : Int) ∧ exZ zs = (exHi zs : Int) := by simp [exA, exZ, h]
theorem ex_no {zs : List Int} (h : moB zs = false) : exA zs = 0 ∧ exZ zs = 0 := by simp [exA, exZ, h]
/-- The first place of the least known value. -/
theorem lo_first {zs : List Int} {i : Nat} {m : Int} (h0 : ∀ x ∈ knl zs, m ≤ x) (hm : m ∈ knl zs) (hi : i < zs.length) (h1 : zs.getD i 0 = m) (h2 : ∀ j, j < i → zs.getD j 0 ≠ m) : LoAt zs i := by
  have hne := (mem_knl zs m).1 hm
  obtain ⟨_, _, _, hne⟩ := hne
  refine ⟨hi, by rw [h1]; exact hne, fun j hj hjn => ⟨?_, fun e => ?_⟩⟩
  · rw [h1]; exact h0 _ ((mem_knl zs _).2 ⟨j, hj, rfl, hjn⟩)
  · by_cases hlt : j < i
    · exact absurd (e.trans h1) (h2 j hlt)
    · omega
theorem hi_first {zs : List Int} {i : Nat} {m : Int} (h0 : ∀ x ∈ knl zs, x ≤ m) (hm : m ∈ knl zs) (hi : i < zs.length) (h1 : zs.getD i 0 = m) (h2 : ∀ j, j < i → zs.getD j 0 ≠ m) : HiAt zs i := by
  have hne := (mem_knl zs m).1 hm
  obtain ⟨_, _, _, hne⟩ := hne
  refine ⟨hi, by rw [h1]; exact hne, fun j hj hjn => ⟨?_, fun e => ?_⟩⟩
  · rw [h1]; exact h0 _ ((mem_knl zs _).2 ⟨j, hj, rfl, hjn⟩)
  · by_cases hlt : j < i
    · exact absurd (e.trans h1) (h2 j hlt)
    · omega
/-- The last record is the first greatest value. -/
theorem rc_last_hi {zs : List Int} (h : moB zs = true) : 0 < (rcL zs).length ∧ (rcL zs).getD ((rcL zs).length - 1) 0 = (exHi zs : Int) := by
  obtain ⟨hq, hk⟩ := moB_facts h
  obtain ⟨hH, _⟩ := ex_hi h
  rw [rcL_yes hq]
  rcases rc_inv hq zs.length (Nat.le_refl _) with ⟨h1, _, h3⟩ | ⟨i, h1, h2, h3, h4, h5, h6⟩
  · obtain ⟨j, hj, hne⟩ := ex_some h
    exact absurd (h3 j hj) hne
  · refine ⟨h2, ?_⟩
    have hm : ((i : Int)) ∈ rcl zs zs.length := by rw [← h3]; exact getD_mem (by omega)
    obtain ⟨_, hb⟩ := (rcl_mem zs i zs.length).1 hm
    simp only [rcB, Bool.and_eq_true, decide_eq_true_eq] at hb
    have hlt : ∀ j, j < i → zs.getD j 0 ≠ -9999 → zs.getD j 0 < zs.getD i 0 := fun j hj hne => by
      rcases rc_inv hq i (by omega) with ⟨_, _, g3⟩ | ⟨i', _, _, _, _, _, g6⟩
      · exact absurd (g3 j hj) hne
      · have := g6 j hj hne; omega
    have hi : HiAt zs i := ⟨h1, h5, fun j hj hne => ⟨by rw [h4]; exact h6 j hj hne, fun e => by
      by_cases hji : j < i
      · have := hlt j hji hne; omega
      · omega⟩⟩
    rw [h3, hH.one hi]

/-- Degree days. -/
def dgS (b : Int) (L : List Int) : Int := isum (L.map fun x => max (b - x) 0)
theorem dgS_app (b : Int) (A B : List Int) : dgS b (A ++ B) = dgS b A + dgS b B := by rw [dgS, List.map_append, isum_app]; rfl
theorem dgS_one (b x : Int) : dgS b [x] = max (b - x) 0 := by simp [dgS, isum]
def dgB (zs : List Int) (b : Int) : Bool := sqB zs && inB b (-999) 10999
def dgV (zs : List Int) (b : Int) : Int := if dgB zs b then dgS b (knl zs) else -1
theorem dgV_yes {zs : List Int} {b : Int} (h : dgB zs b = true) : dgV zs b = dgS b (knl zs) := by simp [dgV, h]
theorem dgV_no {zs : List Int} {b : Int} (h : dgB zs b = false) : dgV zs b = -1 := by simp [dgV, h]
theorem dgS_bd {b : Int} (hb : -12000 ≤ b ∧ b ≤ 12000) : ∀ {L : List Int}, (∀ x ∈ L, -999 ≤ x ∧ x ≤ 10999) → 0 ≤ dgS b L ∧ dgS b L ≤ 20000 * (L.length : Int)
  | [], _ => by simp [dgS, isum]
  | x :: r, h => by
    have h1 := h x List.mem_cons_self
    have h2 := dgS_bd hb (L := r) fun y hy => h y (List.mem_cons_of_mem _ hy)
    have e : dgS b (x :: r) = max (b - x) 0 + dgS b r := rfl
    rw [e, List.length_cons]
    omega
theorem dgS_more (b : Int) : ∀ L : List Int, dgS (b + 1) L = dgS b L + (cLe L b : Int)
  | [] => rfl
  | x :: r => by
    have ih := dgS_more b r
    have e1 : dgS (b + 1) (x :: r) = max (b + 1 - x) 0 + dgS (b + 1) r := rfl
    have e2 : dgS b (x :: r) = max (b - x) 0 + dgS b r := rfl
    rw [e1, e2, ih, cLe, cLe, List.countP_cons]
    by_cases hx : x ≤ b
    · simp [hx]; omega
    · simp [hx]; omega

/-- Ranks. -/
def rkB (zs : List Int) (d : Int) : Bool := sqB zs && (inB d 0 ((zs.length : Int) - 1) && (zs.getD d.toNat 0 != -9999))
def rkV (zs : List Int) (d : Int) : Int := if rkB zs d then (cLt (knl zs) (zs.getD d.toNat 0) : Int) else -1
theorem rkV_yes {zs : List Int} {d : Int} (h : rkB zs d = true) : rkV zs d = (cLt (knl zs) (zs.getD d.toNat 0) : Int) := by simp [rkV, h]
theorem rkV_no {zs : List Int} {d : Int} (h : rkB zs d = false) : rkV zs d = -1 := by simp [rkV, h]
theorem rkB_facts {zs : List Int} {d : Int} (h : rkB zs d = true) : sqB zs = true ∧ (0 ≤ d ∧ d < (zs.length : Int)) ∧ zs.getD d.toNat 0 ≠ -9999 := by
  simp only [rkB, inB, Bool.and_eq_true, decide_eq_true_eq, bne_iff_ne] at h
  exact ⟨h.1, by omega, h.2.2⟩
theorem rkB_mk {zs : List Int} {d : Int} (h1 : sqB zs = true) (h2 : 0 ≤ d ∧ d < (zs.length : Int)) (h3 : zs.getD d.toNat 0 ≠ -9999) : rkB zs d = true := by
  simp only [rkB, inB, Bool.and_eq_true, decide_eq_true_eq, bne_iff_ne]
  exact ⟨h1, by omega, h3⟩
/-- The value of a rank stands at its place in the sorted values. -/
theorem rk_place {zs : List Int} {d : Int} (h : rkB zs d = true) : cLt (knl zs) (zs.getD d.toNat 0) < (soL zs).length ∧ (soL zs).getD (cLt (knl zs) (zs.getD d.toNat 0)) 0 = zs.getD d.toNat 0 ∧
    (0 < cLt (knl zs) (zs.getD d.toNat 0) → (soL zs).getD (cLt (knl zs) (zs.getD d.toNat 0) - 1) 0 < zs.getD d.toNat 0) := by
  obtain ⟨h1, h2, h3⟩ := rkB_facts h
  have hm : zs.getD d.toNat 0 ∈ knl zs := (mem_knl zs _).2 ⟨d.toNat, by omega, rfl, h3⟩
  generalize zs.getD d.toNat 0 = v at *
  have hlt : cLt (knl zs) v < cLe (knl zs) v := by
    rw [cLe_parts]
    have : 0 < cEq (knl zs) v := List.countP_pos_iff.2 ⟨v, hm, by simp⟩
    omega
  have hle : cLe (knl zs) v ≤ (knl zs).length := List.countP_le_length
  rw [soL_yes h1]
  refine ⟨by rw [sorted_length]; omega, (mid_iff (knl zs) v (by omega)).1 ⟨Nat.le_refl _, hlt⟩, fun h0 => ?_⟩
  obtain ⟨c, hc⟩ : ∃ c, cLt (knl zs) v = c + 1 := ⟨cLt (knl zs) v - 1, by omega⟩
  rw [hc, Nat.add_sub_cancel]
  have hcs : c < (sorted (knl zs)).length := by rw [sorted_length]; omega
  have hcv : (sorted (knl zs)).getD c 0 ≤ v := by
    have := sorted_at (L := knl zs) (i := c) (j := c + 1) (by omega) (by rw [sorted_length]; omega)
    have e := (mid_iff (knl zs) v (m := c + 1) (by omega)).1 ⟨by omega, by omega⟩
    omega
  rcases Int.lt_or_eq_of_le hcv with hh | hh
  · exact hh
  · have := (mid_iff (knl zs) v (m := c) (by omega)).2 hh
    omega
theorem lo_rank {zs : List Int} (h : moB zs = true) : rkB zs (exLo zs : Int) = true ∧ rkV zs (exLo zs : Int) = 0 := by
  obtain ⟨hq, hk⟩ := moB_facts h
  obtain ⟨⟨l1, l2, l3⟩, _⟩ := ex_lo h
  have e : ((exLo zs : Nat) : Int).toNat = exLo zs := by omega
  have hb : rkB zs (exLo zs : Int) = true := rkB_mk hq (by omega) (by rw [e]; exact l2)
  refine ⟨hb, ?_⟩
  rw [rkV_yes hb, e]
  have : cLt (knl zs) (zs.getD (exLo zs) 0) = 0 := by
    rw [cLt, List.countP_eq_zero]
    intro x hx
    obtain ⟨j, hj, hjx, hne⟩ := (mem_knl zs x).1 hx
    have := (l3 j hj (by rw [hjx]; exact hne)).1
    rw [hjx] at this
    rw [decide_eq_true_eq, Int.not_lt]; exact this
  rw [this]; rfl
end Go.Proofs.YtohoeonfoolpdaaDoor
