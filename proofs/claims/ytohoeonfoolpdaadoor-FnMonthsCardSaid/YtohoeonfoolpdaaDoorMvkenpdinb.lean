/- Texts of one claim in one: Me, Sm, Ur, Mf, Uw, Sq, Oi, App, Still, Sn, Mn, Mi, Sbt, Mo, Ms, Mt. -/
import Derived.Test.YtohoeonfoolpdaaDoorSu
import Derived.Test.YtohoeonfoolpdaaDoorRf
import Derived.Test.YtohoeonfoolpdaaDoorRl
import Derived.Test.YtohoeonfoolpdaaDoorFr
import Derived.Test.YtohoeonfoolpdaaDoorKeep
import Derived.Test.YtohoeonfoolpdaaDoorRv
import Derived.Test.YtohoeonfoolpdaaDoorTi
import Derived.Lib.Hide
import Derived.Laws.OwnMore
import Derived.Deep.Draws
import Derived.Deep.AppendLies
import Derived.LoopTactic
import Derived.Deep.RegionHeld3
import Derived.Laws.MakeOwn
import Derived.Outline
import Derived.Test.YtohoeonfoolpdaaDoorSe
import Derived.Test.YtohoeonfoolpdaaDoorDrHl
import Derived.Lib.AppendZeros
import Derived.Test.YtohoeonfoolpdaaDoorFg
import Derived.Deep.RegionLaw
import Derived.Test.YtohoeonfoolpdaaDoorRows
import Derived.WalkKit
import Derived.StillTailTactics
import Derived.IntWalk
import Derived.Deep.QuietTactic
import Derived.BigQuiet
import Derived.Test.YtohoeonfoolpdaaDoorCal
import Derived.Test.YtohoeonfoolpdaaDoorRs
import Derived.Test.YtohoeonfoolpdaaDoorMk
import Derived.WalkSpells
import Derived.Deep.RegionWith
import Derived.Test.YtohoeonfoolpdaaDoorIo
import Derived.Test.YtohoeonfoolpdaaDoorCt
namespace Go.Proofs.YtohoeonfoolpdaaDoor
open Go.RowKit
set_option linter.unusedVariables false

theorem isum_ge {m : Int} : ∀ {L : List Int}, (∀ x ∈ L, m ≤ x) → m * (L.length : Int) ≤ isum L
  | [], _ => by simp [isum]
  | x :: r, h => by
    have h1 := h x List.mem_cons_self
    have h2 := isum_ge (m := m) (L := r) fun y hy => h y (List.mem_cons_of_mem _ hy)
    rw [isum, List.length_cons, show (((r.length + 1 : Nat)) : Int) = (r.length : Int) + 1 by omega, Int.mul_add, Int.mul_one]
    omega
theorem isum_le {m : Int} : ∀ {L : List Int}, (∀ x ∈ L, x ≤ m) → isum L ≤ m * (L.length : Int)
  | [], _ => by simp [isum]
  | x :: r, h => by
    have h1 := h x List.mem_cons_self
    have h2 := isum_le (m := m) (L := r) fun y hy => h y (List.mem_cons_of_mem _ hy)
    rw [isum, List.length_cons, show (((r.length + 1 : Nat)) : Int) = (r.length : Int) + 1 by omega, Int.mul_add, Int.mul_one]
    omega
theorem isum_add (d : Int) : ∀ L : List Int, isum (L.map (· + d)) = isum L + d * (L.length : Int)
  | [] => by simp [isum]
  | x :: r => by
    have h2 := isum_add d r
    rw [List.map_cons, isum, isum, h2, List.length_cons, show (((r.length + 1 : Nat)) : Int) = (r.length : Int) + 1 by omega, Int.mul_add, Int.mul_one]
    omega
/-- A rounded quotient lies between whole numbers as the quotient does. -/
theorem rq_between {n d a b : Int} (hd : 1 ≤ d) (h1 : a * d ≤ n) (h2 : n ≤ b * d) : a ≤ rq n d ∧ rq n d ≤ b := by
  obtain ⟨o, s, ho, hn, s0, s1, _⟩ := rq_facts n d hd
  rw [ho]
  constructor
  · by_cases h : a ≤ o
    · exact h
    · exfalso
      have : o * d ≤ (a - 1) * d := Int.mul_le_mul_of_nonneg_right (by omega) (by omega)
      rw [Int.sub_mul, Int.one_mul] at this
      omega
  · by_cases h : o ≤ b
    · exact h
    · exfalso
      have : (b + 1) * d ≤ o * d := Int.mul_le_mul_of_nonneg_right (by omega) (by omega)
      rw [Int.add_mul, Int.one_mul] at this
      omega
theorem rq_more {n d : Int} (k : Int) (hk : k % 2 = 0) (hd : 1 ≤ d) : rq (n + k * d) d = rq n d + k := by
  obtain ⟨o, s, ho, hn, s0, s1, h3⟩ := rq_facts n d hd
  rw [ho]
  refine rq_unique (s := s) hd (by rw [Int.add_mul]; omega) s0 s1 (fun h => ?_)
  have := h3 h
  omega

/-- Means. -/
def meB (zs : List Int) (g : Int) : Bool := sqB zs && (decide (0 < (knl zs).length) && decide ((zs.length : Int) - ((knl zs).length : Int) ≤ g))
def meV (zs : List Int) (g : Int) : Int := if meB zs g then rq (isum (knl zs)) ((knl zs).length : Int) else 0
theorem meB_facts {zs : List Int} {g : Int} (h : meB zs g = true) : sqB zs = true ∧ 0 < (knl zs).length ∧ (zs.length : Int) - ((knl zs).length : Int) ≤ g := by
  simp only [meB, Bool.and_eq_true, decide_eq_true_eq] at h; exact h
theorem meB_mk {zs : List Int} {g : Int} (h1 : sqB zs = true) (h2 : 0 < (knl zs).length) (h3 : (zs.length : Int) - ((knl zs).length : Int) ≤ g) : meB zs g = true := by
  simp only [meB, Bool.and_eq_true, decide_eq_true_eq]; exact ⟨h1, h2, h3⟩
theorem meV_yes {zs : List Int} {g : Int} (h : meB zs g = true) : meV zs g = rq (isum (knl zs)) ((knl zs).length : Int) := by simp [meV, h]
theorem meV_no {zs : List Int} {g : Int} (h : meB zs g = false) : meV zs g = 0 := by simp [meV, h]
theorem meB_sq {zs : List Int} {g : Int} (h : sqB zs = false) : meB zs g = false := by simp [meB, h]
theorem meB_none {zs : List Int} {g : Int} (h : (knl zs).length = 0) : meB zs g = false := by simp [meB, h]
theorem meB_gaps {zs : List Int} {g : Int} (h : g < (zs.length : Int) - ((knl zs).length : Int)) : meB zs g = false := by
  have : ¬ ((zs.length : Int) - ((knl zs).length : Int) ≤ g) := by omega
  simp [meB, this]
theorem me_sum {zs : List Int} (h : sqB zs = true) : -12000 * 12 ≤ isum (knl zs) ∧ isum (knl zs) ≤ 12000 * 12 ∧ (knl zs).length ≤ 12 := by
  have hl : (knl zs).length ≤ 12 := Nat.le_trans (knl_le zs) (sq_facts h).2.2
  have := isum_bd (L := knl zs) fun x hx => by have := knl_bd h x hx; omega
  omega
theorem me_ro {zs : List Int} {g : Int} (h : meB zs g = true) : roOk (isum (knl zs)) ((knl zs).length : Int) = true ∧ ro (isum (knl zs)) ((knl zs).length : Int) = meV zs g := by
  obtain ⟨h1, h2, h3⟩ := meB_facts h
  obtain ⟨s0, s1, s2⟩ := me_sum h1
  have hr : roOk (isum (knl zs)) ((knl zs).length : Int) = true := roOk_mk (by omega)
  exact ⟨hr, by rw [meV_yes h, ro_yes hr]⟩
theorem me_between {zs : List Int} {g : Int} (h : meB zs g = true) : (soL zs).getD 0 0 ≤ meV zs g ∧ meV zs g ≤ (soL zs).getD ((soL zs).length - 1) 0 ∧ 0 < (soL zs).length := by
  obtain ⟨h1, h2, h3⟩ := meB_facts h
  have hl : (soL zs).length = (knl zs).length := by rw [soL_yes h1, sorted_length]
  rw [meV_yes h]
  have hx : ∀ x ∈ knl zs, (soL zs).getD 0 0 ≤ x ∧ x ≤ (soL zs).getD ((soL zs).length - 1) 0 := fun x hx => by
    have := (sorted_perm (knl zs)).mem_iff.2 hx
    obtain ⟨j, hj, rfl⟩ := List.getElem_of_mem this
    have e : (sorted (knl zs))[j] = (sorted (knl zs)).getD j 0 := by simp [List.getD_eq_getElem?_getD, hj]
    rw [soL_yes h1, e]
    exact ⟨sorted_at (Nat.zero_le _) hj, sorted_at (by omega) (by omega)⟩
  have b := rq_between (n := isum (knl zs)) (d := ((knl zs).length : Int)) (by omega) (isum_ge fun x h => (hx x h).1) (isum_le fun x h => (hx x h).2)
  exact ⟨b.1, b.2, by omega⟩
theorem me_back (zs : List Int) (g : Int) : meB zs.reverse g = meB zs g ∧ meV zs.reverse g = meV zs g := by
  have hp := knl_back zs
  have e1 : (knl zs.reverse).length = (knl zs).length := hp.length_eq
  have e2 : meB zs.reverse g = meB zs g := by rw [meB, meB, sq_rev, e1, List.length_reverse]
  exact ⟨e2, by rw [meV, meV, e2, isum_perm hp, e1]⟩

/-- Values moved by d. -/
def addD (d x : Int) : Int := if x = -9999 then -9999 else x + d
theorem knl_addD {zs : List Int} {d : Int} (hd : 0 ≤ d) (h : ∀ x ∈ zs, x = -9999 ∨ -999 ≤ x) : knl (zs.map (addD d)) = (knl zs).map (· + d) := by
  induction zs with
  | nil => rfl
  | cons x zs ih =>
    have ih := ih fun y hy => h y (List.mem_cons_of_mem _ hy)
    have hx := h x List.mem_cons_self
    simp only [knl] at ih ⊢
    rw [List.map_cons, List.filter_cons, List.filter_cons, ih]
    by_cases hn : x = -9999
    · subst hn; simp [addD]
    · have e1 : (addD d x != -9999) = true := by rw [addD, if_neg hn]; exact bne_iff_ne.2 (by omega)
      have e2 : (x != -9999) = true := bne_iff_ne.2 hn
      rw [e1, e2, addD, if_neg hn]; simp
theorem me_added {zs : List Int} {g : Int} (h : meB zs g = true) (h2 : meB (zs.map (addD 2)) g = true) : meV (zs.map (addD 2)) g = meV zs g + 2 := by
  obtain ⟨h1, h3, _⟩ := meB_facts h
  have e := knl_addD (d := 2) (by omega) (zs := zs) fun x hx => by have := qB_bd (List.all_eq_true.1 (sq_facts h1).1 x hx); omega
  rw [meV_yes h2, meV_yes h, e, isum_add, List.length_map]
  exact rq_more 2 rfl (by omega)

/-- Extremes: the first days of the least and of the greatest value. -/
def LoAt (zs : List Int) (i : Nat) : Prop := i < zs.length ∧ zs.getD i 0 ≠ -9999 ∧ ∀ j, j < zs.length → zs.getD j 0 ≠ -9999 → zs.getD i 0 ≤ zs.getD j 0 ∧ (zs.getD j 0 = zs.getD i 0 → i ≤ j)
def HiAt (zs : List Int) (i : Nat) : Prop := i < zs.length ∧ zs.getD i 0 ≠ -9999 ∧ ∀ j, j < zs.length → zs.getD j 0 ≠ -9999 → zs.getD j 0 ≤ zs.getD i 0 ∧ (zs.getD j 0 = zs.getD i 0 → i ≤ j)
theorem LoAt.one {zs : List Int} {i k : Nat} (h : LoAt zs i) (g : LoAt zs k) : i = k := by
  have a := h.2.2 k g.1 g.2.1
  have b := g.2.2 i h.1 h.2.1
  have e : zs.getD k 0 = zs.getD i 0 := by omega
  have := a.2 e
  have := b.2 e.symm
  omega
theorem HiAt.one {zs : List Int} {i k : Nat} (h : HiAt zs i) (g : HiAt zs k) : i = k := by
  have a := h.2.2 k g.1 g.2.1
  have b := g.2.2 i h.1 h.2.1
  have e : zs.getD k 0 = zs.getD i 0 := by omega
  have := a.2 e
  have := b.2 e.symm
  omega
def loI (zs : List Int) : Nat → Int
  | 0 => -1
  | k + 1 => if zs.getD k 0 ≠ -9999 ∧ (loI zs k < 0 ∨ zs.getD k 0 < zs.getD (loI zs k).toNat 0) then (k : Int) else loI zs k
def hiI (zs : List Int) : Nat → Int
  | 0 => -1
  | k + 1 => if zs.getD k 0 ≠ -9999 ∧ (hiI zs k < 0 ∨ zs.getD (hiI zs k).toNat 0 < zs.getD k 0) then (k : Int) else hiI zs k
theorem lo_inv (zs : List Int) : ∀ k, (loI zs k = -1 ∧ ∀ j, j < k → zs.getD j 0 = -9999) ∨ ∃ i, i < k ∧ loI zs k = (i : Int) ∧ zs.getD i 0 ≠ -9999 ∧ ∀ j, j < k → zs.getD j 0 ≠ -9999 → zs.getD i 0 ≤ zs.getD j 0 ∧ (zs.getD j 0 = zs.getD i 0 → i ≤ j)
  | 0 => .inl ⟨rfl, fun j hj => by omega⟩
  | k + 1 => by
    rcases lo_inv zs k with ⟨h1, h2⟩ | ⟨i, h1, h2, h3, h4⟩
    · by_cases hx : zs.getD k 0 = -9999
      · left
        refine ⟨by rw [loI, if_neg (fun e => e.1 hx)]; exact h1, fun j hj => ?_⟩
        by_cases e : j = k
        · rw [e]; exact hx
        · exact h2 j (by omega)
      · right
        refine ⟨k, by omega, by rw [loI, if_pos ⟨hx, .inl (by omega)⟩], hx, fun j hj hne => ?_⟩
        by_cases e : j = k
        · rw [e]; exact ⟨Int.le_refl _, fun _ => Nat.le_refl _⟩
        · exact absurd (h2 j (by omega)) hne
    · have e2 : (loI zs k).toNat = i := by omega
      by_cases hx : zs.getD k 0 ≠ -9999 ∧ zs.getD k 0 < zs.getD i 0
      · right
        refine ⟨k, by omega, by rw [loI, if_pos ⟨hx.1, .inr (by rw [e2]; exact hx.2)⟩], hx.1, fun j hj hne => ?_⟩
        by_cases e : j = k
        · rw [e]; exact ⟨Int.le_refl _, fun _ => Nat.le_refl _⟩
        · have := h4 j (by omega) hne
          exact ⟨by omega, fun _ => by omega⟩
      · right
        refine ⟨i, by omega, ?_, h3, fun j hj hne => ?_⟩
        · rw [loI, if_neg (fun e => ?_)]
          · exact h2
          · rw [e2] at e
            rcases e.2 with e3 | e3
            · omega
            · exact hx ⟨e.1, e3⟩
        · by_cases e : j = k
          · subst e
            exact ⟨by omega, fun _ => by omega⟩
          · exact h4 j (by omega) hne
theorem hi_inv (zs : List Int) : ∀ k, (hiI zs k = -1 ∧ ∀ j, j < k → zs.getD j 0 = -9999) ∨ ∃ i, i < k ∧ hiI zs k = (i : Int) ∧ zs.getD i 0 ≠ -9999 ∧ ∀ j, j < k → zs.getD j 0 ≠ -9999 → zs.getD j 0 ≤ zs.getD i 0 ∧ (zs.getD j 0 = zs.getD i 0 → i ≤ j)
  | 0 => .inl ⟨rfl, fun j hj => by omega⟩
  | k + 1 => by
    rcases hi_inv zs k with ⟨h1, h2⟩ | ⟨i, h1, h2, h3, h4⟩
    · by_cases hx : zs.getD k 0 = -9999
      · left
        refine ⟨by rw [hiI, if_neg (fun e => e.1 hx)]; exact h1, fun j hj => ?_⟩
        by_cases e : j = k
        · rw [e]; exact hx
        · exact h2 j (by omega)
      · right
        refine ⟨k, by omega, by rw [hiI, if_pos ⟨hx, .inl (by omega)⟩], hx, fun j hj hne => ?_⟩
        by_cases e : j = k
        · rw [e]; exact ⟨Int.le_refl _, fun _ => Nat.le_refl _⟩
        · exact absurd (h2 j (by omega)) hne
    · have e2 : (hiI zs k).toNat = i := by omega
      by_cases hx : zs.getD k 0 ≠ -9999 ∧ zs.getD i 0 < zs.getD k 0
      · right
        refine ⟨k, by omega, by rw [hiI, if_pos ⟨hx.1, .inr (by rw [e2]; exact hx.2)⟩], hx.1, fun j hj hne => ?_⟩
        by_cases e : j = k
        · rw [e]; exact ⟨Int.le_refl _, fun _ => Nat.le_refl _⟩
        · have := h4 j (by omega) hne
          exact ⟨by omega, fun _ => by omega⟩
      · right
        refine ⟨i, by omega, ?_, h3, fun j hj hne => ?_⟩
        · rw [hiI, if_neg (fun e => ?_)]
          · exact h2
          · rw [e2] at e
            rcases e.2 with e3 | e3
            · omega
            · exact hx ⟨e.1, e3⟩
        · by_cases e : j = k
          · subst e
            exact ⟨by omega, fun _ => by omega⟩
          · exact h4 j (by omega) hne
theorem hi_lo (zs : List Int) (k : Nat) : loI zs k < 0 ↔ hiI zs k < 0 := by
  rcases lo_inv zs k with ⟨h1, h2⟩ | ⟨i, h1, h2, h3, _⟩ <;> rcases hi_inv zs k with ⟨g1, g2⟩ | ⟨j, g1, g2, g3, _⟩
  · omega
  · exact absurd (h2 j g1) g3
  · exact absurd (g2 i h1) h3
  · omega
def exLo (zs : List Int) : Nat := (loI zs zs.length).toNat
def exHi (zs : List Int) : Nat := (hiI zs zs.length).toNat
theorem mem_knl (zs : List Int) (x : Int) : x ∈ knl zs ↔ ∃ j, j < zs.length ∧ zs.getD j 0 = x ∧ x ≠ -9999 := by
  rw [knl, List.mem_filter]
  constructor
  · rintro ⟨h1, h2⟩
    obtain ⟨j, hj, rfl⟩ := List.getElem_of_mem h1
    exact ⟨j, hj, by simp [List.getD_eq_getElem?_getD, hj], by simpa using h2⟩
  · rintro ⟨j, hj, h1, h2⟩
    exact ⟨h1 ▸ getD_mem hj, by simpa using h2⟩
theorem ex_some {zs : List Int} (h : moB zs = true) : ∃ j, j < zs.length ∧ zs.getD j 0 ≠ -9999 := by
  obtain ⟨h1, h2⟩ := moB_facts h
  obtain ⟨j, hj, e, hne⟩ := (mem_knl zs _).1 (getD_mem h2)
  exact ⟨j, hj, by rw [e]; exact hne⟩
theorem ex_lo {zs : List Int} (h : moB zs = true) : LoAt zs (exLo zs) ∧ loI zs zs.length = (exLo zs : Int) := by
  obtain ⟨j, hj, hne⟩ := ex_some h
  rcases lo_inv zs zs.length with ⟨_, h2⟩ | ⟨i, h1, h2, h3, h4⟩
  · exact absurd (h2 j hj) hne
  · have e : exLo zs = i := by rw [exLo, h2]; omega
    rw [e]
    exact ⟨⟨h1, h3, h4⟩, h2⟩
theorem ex_hi {zs : List Int} (h : moB zs = true) : HiAt zs (exHi zs) ∧ hiI zs zs.length = (exHi zs : Int) := by
  obtain ⟨j, hj, hne⟩ := ex_some h
  rcases hi_inv zs zs.length with ⟨_, h2⟩ | ⟨i, h1, h2, h3, h4⟩
  · exact absurd (h2 j hj) hne
  · have e : exHi zs = i := by rw [exHi, h2]; omega
    rw [e]
    exact ⟨⟨h1, h3, h4⟩, h2⟩
def exA (zs : List Int) : Int := if moB zs then (exLo zs : Int) else 0
def exZ (zs : List Int) : Int := if moB zs then (exHi zs : Int) else 0
theorem ex_yes {zs : List Int} (h : moB zs = true) : exA zs = (exLo zs : Int) ∧ exZ zs = (exHi zs : Int) := by simp [exA, exZ, h]
theorem ex_no {zs : List Int} (h : moB zs = false) : exA zs = 0 ∧ exZ zs = 0 := by simp [exA, exZ, h]
/-- The first place of the least known value. -/
theorem lo_first {zs : List Int} {i : Nat} {m : Int} (h0 : ∀ x ∈ knl zs, m ≤ x) (hm : m ∈ knl zs) (hi : i < zs.length) (h1 : zs.getD i 0 = m) (h2 : ∀ j, j < i → zs.getD j 0 ≠ m) : LoAt zs i := by
  have hne := (mem_knl zs m).1 hm
  obtain ⟨_, _, _, hne⟩ := hne
  refine ⟨hi, by rw [h1]; exact hne, fun j hj hjn => ⟨?_, fun e => ?_⟩⟩
  · rw [h1]; exact h0 _ ((mem_knl zs _).2 ⟨j, hj, rfl, hjn⟩)
  · by_cases hlt : j < i
    · exact absurd (e.trans h1) (h2 j hlt)
    · omega
theorem hi_first {zs : List Int} {i : Nat} {m : Int} (h0 : ∀ x ∈ knl zs, x ≤ m) (hm : m ∈ knl zs) (hi : i < zs.length) (h1 : zs.getD i 0 = m) (h2 : ∀ j, j < i → zs.getD j 0 ≠ m) : HiAt zs i := by
  have hne := (mem_knl zs m).1 hm
  obtain ⟨_, _, _, hne⟩ := hne
  refine ⟨hi, by rw [h1]; exact hne, fun j hj hjn => ⟨?_, fun e => ?_⟩⟩
  · rw [h1]; exact h0 _ ((mem_knl zs _).2 ⟨j, hj, rfl, hjn⟩)
  · by_cases hlt : j < i
    · exact absurd (e.trans h1) (h2 j hlt)
    · omega
/-- The last record is the first greatest value. -/
theorem rc_last_hi {zs : List Int} (h : moB zs = true) : 0 < (rcL zs).length ∧ (rcL zs).getD ((rcL zs).length - 1) 0 = (exHi zs : Int) := by
  obtain ⟨hq, hk⟩ := moB_facts h
  obtain ⟨hH, _⟩ := ex_hi h
  rw [rcL_yes hq]
  rcases rc_inv hq zs.length (Nat.le_refl _) with ⟨h1, _, h3⟩ | ⟨i, h1, h2, h3, h4, h5, h6⟩
  · obtain ⟨j, hj, hne⟩ := ex_some h
    exact absurd (h3 j hj) hne
  · refine ⟨h2, ?_⟩
    have hm : ((i : Int)) ∈ rcl zs zs.length := by rw [← h3]; exact getD_mem (by omega)
    obtain ⟨_, hb⟩ := (rcl_mem zs i zs.length).1 hm
    simp only [rcB, Bool.and_eq_true, decide_eq_true_eq] at hb
    have hlt : ∀ j, j < i → zs.getD j 0 ≠ -9999 → zs.getD j 0 < zs.getD i 0 := fun j hj hne => by
      rcases rc_inv hq i (by omega) with ⟨_, _, g3⟩ | ⟨i', _, _, _, _, _, g6⟩
      · exact absurd (g3 j hj) hne
      · have := g6 j hj hne; omega
    have hi : HiAt zs i := ⟨h1, h5, fun j hj hne => ⟨by rw [h4]; exact h6 j hj hne, fun e => by
      by_cases hji : j < i
      · have := hlt j hji hne; omega
      · omega⟩⟩
    rw [h3, hH.one hi]

/-- Degree days. -/
def dgS (b : Int) (L : List Int) : Int := isum (L.map fun x => max (b - x) 0)
theorem dgS_app (b : Int) (A B : List Int) : dgS b (A ++ B) = dgS b A + dgS b B := by rw [dgS, List.map_append, isum_app]; rfl
theorem dgS_one (b x : Int) : dgS b [x] = max (b - x) 0 := by simp [dgS, isum]
def dgB (zs : List Int) (b : Int) : Bool := sqB zs && inB b (-999) 10999
def dgV (zs : List Int) (b : Int) : Int := if dgB zs b then dgS b (knl zs) else -1
theorem dgV_yes {zs : List Int} {b : Int} (h : dgB zs b = true) : dgV zs b = dgS b (knl zs) := by simp [dgV, h]
theorem dgV_no {zs : List Int} {b : Int} (h : dgB zs b = false) : dgV zs b = -1 := by simp [dgV, h]
theorem dgS_bd {b : Int} (hb : -12000 ≤ b ∧ b ≤ 12000) : ∀ {L : List Int}, (∀ x ∈ L, -999 ≤ x ∧ x ≤ 10999) → 0 ≤ dgS b L ∧ dgS b L ≤ 20000 * (L.length : Int)
  | [], _ => by simp [dgS, isum]
  | x :: r, h => by
    have h1 := h x List.mem_cons_self
    have h2 := dgS_bd hb (L := r) fun y hy => h y (List.mem_cons_of_mem _ hy)
    have e : dgS b (x :: r) = max (b - x) 0 + dgS b r := rfl
    rw [e, List.length_cons]
    omega
theorem dgS_more (b : Int) : ∀ L : List Int, dgS (b + 1) L = dgS b L + (cLe L b : Int)
  | [] => rfl
  | x :: r => by
    have ih := dgS_more b r
    have e1 : dgS (b + 1) (x :: r) = max (b + 1 - x) 0 + dgS (b + 1) r := rfl
    have e2 : dgS b (x :: r) = max (b - x) 0 + dgS b r := rfl
    rw [e1, e2, ih, cLe, cLe, List.countP_cons]
    by_cases hx : x ≤ b
    · simp [hx]; omega
    · simp [hx]; omega

/-- Ranks. -/
def rkB (zs : List Int) (d : Int) : Bool := sqB zs && (inB d 0 ((zs.length : Int) - 1) && (zs.getD d.toNat 0 != -9999))
def rkV (zs : List Int) (d : Int) : Int := if rkB zs d then (cLt (knl zs) (zs.getD d.toNat 0) : Int) else -1
theorem rkV_yes {zs : List Int} {d : Int} (h : rkB zs d = true) : rkV zs d = (cLt (knl zs) (zs.getD d.toNat 0) : Int) := by simp [rkV, h]
theorem rkV_no {zs : List Int} {d : Int} (h : rkB zs d = false) : rkV zs d = -1 := by simp [rkV, h]
theorem rkB_facts {zs : List Int} {d : Int} (h : rkB zs d = true) : sqB zs = true ∧ (0 ≤ d ∧ d < (zs.length : Int)) ∧ zs.getD d.toNat 0 ≠ -9999 := by
  simp only [rkB, inB, Bool.and_eq_true, decide_eq_true_eq, bne_iff_ne] at h
  exact ⟨h.1, by omega, h.2.2⟩
theorem rkB_mk {zs : List Int} {d : Int} (h1 : sqB zs = true) (h2 : 0 ≤ d ∧ d < (zs.length : Int)) (h3 : zs.getD d.toNat 0 ≠ -9999) : rkB zs d = true := by
  simp only [rkB, inB, Bool.and_eq_true, decide_eq_true_eq, bne_iff_ne]
  exact ⟨h1, by omega, h3⟩
/-- The value of a rank stands at its place in the sorted values. -/
theorem rk_place {zs : List Int} {d : Int} (h : rkB zs d = true) : cLt (knl zs) (zs.getD d.toNat 0) < (soL zs).length ∧ (soL zs).getD (cLt (knl zs) (zs.getD d.toNat 0)) 0 = zs.getD d.toNat 0 ∧
    (0 < cLt (knl zs) (zs.getD d.toNat 0) → (soL zs).getD (cLt (knl zs) (zs.getD d.toNat 0) - 1) 0 < zs.getD d.toNat 0) := by
  obtain ⟨h1, h2, h3⟩ := rkB_facts h
  have hm : zs.getD d.toNat 0 ∈ knl zs := (mem_knl zs _).2 ⟨d.toNat, by omega, rfl, h3⟩
  generalize zs.getD d.toNat 0 = v at *
  have hlt : cLt (knl zs) v < cLe (knl zs) v := by
    rw [cLe_parts]
    have : 0 < cEq (knl zs) v := List.countP_pos_iff.2 ⟨v, hm, by simp⟩
    omega
  have hle : cLe (knl zs) v ≤ (knl zs).length := List.countP_le_length
  rw [soL_yes h1]
  refine ⟨by rw [sorted_length]; omega, (mid_iff (knl zs) v (by omega)).1 ⟨Nat.le_refl _, hlt⟩, fun h0 => ?_⟩
  obtain ⟨c, hc⟩ : ∃ c, cLt (knl zs) v = c + 1 := ⟨cLt (knl zs) v - 1, by omega⟩
  rw [hc, Nat.add_sub_cancel]
  have hcs : c < (sorted (knl zs)).length := by rw [sorted_length]; omega
  have hcv : (sorted (knl zs)).getD c 0 ≤ v := by
    have := sorted_at (L := knl zs) (i := c) (j := c + 1) (by omega) (by rw [sorted_length]; omega)
    have e := (mid_iff (knl zs) v (m := c + 1) (by omega)).1 ⟨by omega, by omega⟩
    omega
  rcases Int.lt_or_eq_of_le hcv with hh | hh
  · exact hh
  · have := (mid_iff (knl zs) v (m := c) (by omega)).2 hh
    omega
theorem lo_rank {zs : List Int} (h : moB zs = true) : rkB zs (exLo zs : Int) = true ∧ rkV zs (exLo zs : Int) = 0 := by
  obtain ⟨hq, hk⟩ := moB_facts h
  obtain ⟨⟨l1, l2, l3⟩, _⟩ := ex_lo h
  have e : ((exLo zs : Nat) : Int).toNat = exLo zs := by omega
  have hb : rkB zs (exLo zs : Int) = true := rkB_mk hq (by omega) (by rw [e]; exact l2)
  refine ⟨hb, ?_⟩
  rw [rkV_yes hb, e]
  have : cLt (knl zs) (zs.getD (exLo zs) 0) = 0 := by
    rw [cLt, List.countP_eq_zero]
    intro x hx
    obtain ⟨j, hj, hjx, hne⟩ := (mem_knl zs x).1 hx
    have := (l3 j hj (by rw [hjx]; exact hne)).1
    rw [hjx] at this
    rw [decide_eq_true_eq, Int.not_lt]; exact this
  rw [this]; rfl
end Go.Proofs.YtohoeonfoolpdaaDoor
namespace Go.Proofs.YtohoeonfoolpdaaDoor
open Go.RowKit
set_option linter.unusedVariables false

/-- The sum of the first k days: total and number. -/
def su (zs : List Int) (k : Nat) : Int × Int := (isum (knl (zs.take k)), (knN zs k : Int))
theorem su_zero (zs : List Int) : su zs 0 = (0, 0) := rfl
theorem knl_takeM (zs : List Int) {k : Nat} (h : k < zs.length) : knl (zs.take (k + 1)) = knl (zs.take k) ++ knl [zs.getD k 0] := by
  rw [List.take_succ_eq_append_getElem h, knl, knl, knl, List.filter_append]
  simp [List.getD_eq_getElem?_getD, h]
theorem su_step {zs : List Int} {k : Nat} (h : k < zs.length) : (zs.getD k 0 = -9999 → su zs (k + 1) = su zs k) ∧ (zs.getD k 0 ≠ -9999 → su zs (k + 1) = ((su zs k).1 + zs.getD k 0, (su zs k).2 + 1)) := by
  constructor <;> intro hx
  · have e : knl [zs.getD k 0] = [] := by rw [hx]; rfl
    rw [su, su, knl_takeM zs h, e, List.append_nil]
    simp only [knN, if_pos hx, Nat.add_zero]
  · have hx2 : (zs.getD k 0 != -9999) = true := bne_iff_ne.2 hx
    have e : knl [zs.getD k 0] = [zs.getD k 0] := by simp only [knl, List.filter_cons, hx2, List.filter_nil]; rfl
    rw [su, su, knl_takeM zs h, e, isum_app, isum, isum]
    simp only [knN, if_neg hx, Prod.mk.injEq]
    omega
theorem su_last {zs : List Int} : su zs zs.length = (isum (knl zs), ((knl zs).length : Int)) := by
  rw [su, List.take_length, knN_all]
theorem su_bd {zs : List Int} (h : sqB zs = true) {k : Nat} (hk : k ≤ zs.length) : (-144000 ≤ (su zs k).1 ∧ (su zs k).1 ≤ 144000) ∧ 0 ≤ (su zs k).2 ∧ (su zs k).2 ≤ 12 := by
  have hl := (sq_facts h).2.2
  have hn := knN_le zs k
  have h1 : (knl (zs.take k)).length ≤ 12 := by
    have := knl_le (zs.take k); rw [List.length_take] at this; omega
  have h2 := isum_bd (L := knl (zs.take k)) fun x hx => by
    rw [knl, List.mem_filter] at hx
    rcases qB_bd (List.all_eq_true.1 (sq_facts h).1 x (List.mem_of_mem_take hx.1)) with e | e
    · exact absurd e (by simpa using hx.2)
    · omega
  simp only [su]
  omega
def sul (zs : List Int) : List (Int × Int) := (List.range (zs.length + 1)).map (su zs)
def suL (zs : List Int) : List (Int × Int) := if sqB zs then sul zs else []
theorem suL_yes {zs : List Int} (h : sqB zs = true) : suL zs = sul zs := by simp [suL, h]
theorem suL_no {zs : List Int} (h : sqB zs = false) : suL zs = [] := by simp [suL, h]
theorem sul_len (zs : List Int) : (sul zs).length = zs.length + 1 := by simp [sul]
theorem sul_at {zs : List Int} {k : Nat} (h : k ≤ zs.length) : (sul zs).getD k (0, 0) = su zs k := by
  simp [sul, List.getD_eq_getElem?_getD, show k < zs.length + 1 by omega]
theorem sul_snoc {zs : List Int} {k : Nat} (h : k ≤ zs.length) : (sul zs).take (k + 1) = (sul zs).take k ++ [su zs k] := by
  rw [List.take_succ_eq_append_getElem (by rw [sul_len]; omega)]; simp [sul]
theorem suL_len (zs : List Int) : (suL zs).length ≤ 13 := by
  cases h : sqB zs
  · rw [suL_no h]; simp
  · rw [suL_yes h, sul_len]; have := (sq_facts h).2.2; omega

/-- The sum between two days. -/
def smOk (s : Int × Int) : Bool := inB s.1 (-999999) 999999 && inB s.2 0 99
def sbB (ss : List (Int × Int)) (f t : Int) : Bool := decide (1 ≤ ss.length ∧ ss.length ≤ 13) && (decide (0 ≤ f ∧ f ≤ t ∧ t < (ss.length : Int)) && (smOk (ss.getD f.toNat (0, 0)) && smOk (ss.getD t.toNat (0, 0))))
def sbV (ss : List (Int × Int)) (f t : Int) : Int × Int := if sbB ss f t then ((ss.getD t.toNat (0, 0)).1 - (ss.getD f.toNat (0, 0)).1, (ss.getD t.toNat (0, 0)).2 - (ss.getD f.toNat (0, 0)).2) else (0, 0)
theorem smOk_facts {s : Int × Int} (h : smOk s = true) : (-999999 ≤ s.1 ∧ s.1 ≤ 999999) ∧ 0 ≤ s.2 ∧ s.2 ≤ 99 := by
  simp only [smOk, inB, Bool.and_eq_true, decide_eq_true_eq] at h; exact h
theorem smOk_mk {s : Int × Int} (h : (-999999 ≤ s.1 ∧ s.1 ≤ 999999) ∧ 0 ≤ s.2 ∧ s.2 ≤ 99) : smOk s = true := by
  simp only [smOk, inB, Bool.and_eq_true, decide_eq_true_eq]; exact h
theorem sbB_facts {ss : List (Int × Int)} {f t : Int} (h : sbB ss f t = true) : (1 ≤ ss.length ∧ ss.length ≤ 13) ∧ (0 ≤ f ∧ f ≤ t ∧ t < (ss.length : Int)) ∧ smOk (ss.getD f.toNat (0, 0)) = true ∧ smOk (ss.getD t.toNat (0, 0)) = true := by
  simp only [sbB, Bool.and_eq_true, decide_eq_true_eq] at h; exact h
theorem sbB_mk {ss : List (Int × Int)} {f t : Int} (h1 : 1 ≤ ss.length ∧ ss.length ≤ 13) (h2 : 0 ≤ f ∧ f ≤ t ∧ t < (ss.length : Int)) (h3 : smOk (ss.getD f.toNat (0, 0)) = true) (h4 : smOk (ss.getD t.toNat (0, 0)) = true) : sbB ss f t = true := by
  simp only [sbB, Bool.and_eq_true, decide_eq_true_eq]; exact ⟨h1, h2, h3, h4⟩
theorem sbB_len {ss : List (Int × Int)} {f t : Int} (h : ¬ (1 ≤ ss.length ∧ ss.length ≤ 13)) : sbB ss f t = false := by rw [sbB, decide_eq_false h, Bool.false_and]
theorem sbB_arg {ss : List (Int × Int)} {f t : Int} (h : ¬ (0 ≤ f ∧ f ≤ t ∧ t < (ss.length : Int))) : sbB ss f t = false := by rw [sbB, decide_eq_false h, Bool.false_and, Bool.and_false]
theorem sbB_low {ss : List (Int × Int)} {f t : Int} (h : smOk (ss.getD f.toNat (0, 0)) = false) : sbB ss f t = false := by rw [sbB, h, Bool.false_and, Bool.and_false, Bool.and_false]
theorem sbB_high {ss : List (Int × Int)} {f t : Int} (h : smOk (ss.getD t.toNat (0, 0)) = false) : sbB ss f t = false := by rw [sbB, h, Bool.and_false, Bool.and_false, Bool.and_false]
theorem sbV_yes {ss : List (Int × Int)} {f t : Int} (h : sbB ss f t = true) : sbV ss f t = ((ss.getD t.toNat (0, 0)).1 - (ss.getD f.toNat (0, 0)).1, (ss.getD t.toNat (0, 0)).2 - (ss.getD f.toNat (0, 0)).2) := by simp [sbV, h]
theorem sbV_no {ss : List (Int × Int)} {f t : Int} (h : sbB ss f t = false) : sbV ss f t = (0, 0) := by simp [sbV, h]
/-- Of the sums of a series. -/
theorem sb_sul {zs : List Int} (h : sqB zs = true) {f t : Nat} (hf : f ≤ t) (ht : t ≤ zs.length) : sbB (sul zs) (f : Int) (t : Int) = true ∧ sbV (sul zs) (f : Int) (t : Int) = ((su zs t).1 - (su zs f).1, (su zs t).2 - (su zs f).2) := by
  have hl := (sq_facts h).2
  have e1 : ((f : Nat) : Int).toNat = f := by omega
  have e2 : ((t : Nat) : Int).toNat = t := by omega
  have b1 := su_bd h (k := f) (by omega)
  have b2 := su_bd h (k := t) (by omega)
  have hb : sbB (sul zs) (f : Int) (t : Int) = true := sbB_mk (by rw [sul_len]; omega) (by rw [sul_len]; omega) (by rw [e1, sul_at (by omega)]; exact smOk_mk (by omega)) (by rw [e2, sul_at ht]; exact smOk_mk (by omega))
  exact ⟨hb, by rw [sbV_yes hb, e1, e2, sul_at ht, sul_at (by omega)]⟩
theorem sb_day {zs : List Int} (h : sqB zs = true) {k : Nat} (hk : k < zs.length) : (zs.getD k 0 = -9999 → sbV (sul zs) (k : Int) ((k : Int) + 1) = (0, 0)) ∧ (zs.getD k 0 ≠ -9999 → sbV (sul zs) (k : Int) ((k : Int) + 1) = (zs.getD k 0, 1)) := by
  have e := (sb_sul h (f := k) (t := k + 1) (by omega) (by omega)).2
  rw [show (((k + 1 : Nat)) : Int) = (k : Int) + 1 by omega] at e
  rw [e]
  constructor <;> intro hx
  · rw [(su_step hk).1 hx]; simp only [Prod.mk.injEq]; omega
  · rw [(su_step hk).2 hx]; simp only [Prod.mk.injEq]; omega
end Go.Proofs.YtohoeonfoolpdaaDoor
namespace Go.Proofs.YtohoeonfoolpdaaDoor
open Go.RowKit
set_option linter.unusedVariables false

/-- A sum: total, number. -/
abbrev R2 := Int × Int
def u0 : R2 := (0, 0)
def uL (r : R2) : Int := r.1
def uH (r : R2) : Int := r.2
/-- The cells of a site. -/
def uc (r : R2) : List Value := [.int .i64 (uL r), .int .i64 (uH r)]
def flatU (rs : List R2) : List Value := rs.flatMap uc
/-- The site r lies in block b from o on. -/
structure At2 (w : World) (b o : Nat) (r : R2) : Prop where
  s : w.cell? ⟨b, o, none⟩ = some (.int .i64 (uL r))
  d : w.cell? ⟨b, o + 1, none⟩ = some (.int .i64 (uH r))
theorem At2.keep {w w' : World} {b o : Nat} {r : R2} (h : At2 w b o r) (k : Keep w w') : At2 w' b o r := ⟨k.cell h.s, k.cell h.d⟩
theorem At2.drewN {w : World} {b o : Nat} {r : R2} (h : At2 w b o r) (n : Nat) : At2 (w.drewN n) b o r := ⟨h.s, h.d⟩
theorem At2.same {w w' : World} {b o : Nat} {r : R2} (h : At2 w b o r) (hc : ∀ i, w'.cell? ⟨b, i, none⟩ = w.cell? ⟨b, i, none⟩) : At2 w' b o r :=
  ⟨(hc _).trans h.s, (hc _).trans h.d⟩

def Rr (w : World) (a : Option Addr) (rs : List R2) : Prop :=
  rs = [] ∨ ∃ b off, a = some ⟨b, off, none⟩ ∧ b < w.heap.size ∧ ∀ i, i < rs.length → At2 w b (off + i * 2) (rs.getD i u0)

theorem Rr.nil (w : World) (a : Option Addr) : Rr w a [] := .inl rfl
theorem Rr.keep {w w' : World} {a : Option Addr} {rs : List R2} (h : Rr w a rs) (k : Keep w w') : Rr w' a rs := by
  rcases h with h | ⟨b, off, ha, hb, h⟩
  · exact .inl h
  · exact .inr ⟨b, off, ha, Nat.lt_of_lt_of_le hb k.size, fun i hi => (h i hi).keep k⟩
theorem Rr.alloc {w : World} {a : Option Addr} {rs : List R2} (h : Rr w a rs) (o : Obj) : Rr (w.alloc o) a rs := h.keep ((Keep.refl w).alloc o)
theorem Rr.drewN {w : World} {a : Option Addr} {rs : List R2} (h : Rr w a rs) (n : Nat) : Rr (w.drewN n) a rs := h.keep ((Keep.refl w).drewN n)
theorem Rr.at_ {w : World} {a : Option Addr} {rs : List R2} (h : Rr w a rs) {i : Nat} (hi : i < rs.length) :
    ∃ b off, a = some ⟨b, off, none⟩ ∧ b < w.heap.size ∧ At2 w b (off + i * 2) (rs.getD i u0) := by
  rcases h with rfl | ⟨b, off, ha, hb, h⟩
  · simp at hi
  · exact ⟨b, off, ha, hb, h i hi⟩
theorem Rr.all {w : World} {a : Option Addr} {rs : List R2} (h : Rr w a rs) (h0 : 0 < rs.length) :
    ∃ b off, a = some ⟨b, off, none⟩ ∧ b < w.heap.size ∧ ∀ i, i < rs.length → At2 w b (off + i * 2) (rs.getD i u0) := by
  rcases h with rfl | h
  · simp at h0
  · exact h
theorem Rr.take {w : World} {a : Option Addr} {rs : List R2} (h : Rr w a rs) (n : Nat) : Rr w a (rs.take n) := by
  rcases h with rfl | ⟨b, off, ha, hb, h⟩
  · left; simp
  · refine .inr ⟨b, off, ha, hb, fun i hi => ?_⟩
    rw [List.length_take] at hi
    have e : (rs.take n).getD i u0 = rs.getD i u0 := by simp [List.getD_eq_getElem?_getD, show i < n by omega]
    rw [e]; exact h i (by omega)
/-- What a law's argument reads as. -/
theorem rr_of_rows {w : World} {a : Option Addr} {len cap : Nat} {zs : Nat → Nat → Int} (h : IsRows 2 w a len cap zs) :
    ∃ rs : List R2, rs.length = len ∧ Rr w a rs ∧ (len ≤ cap ∧ cap ≤ maxLen) := by
  refine ⟨(List.range len).map fun i => (zs i 0, zs i 1), by simp, ?_, ?_⟩
  · rcases h with ⟨rfl, rfl, rfl⟩ | ⟨x, rfl, h1, h2, h3⟩
    · left; rfl
    · by_cases h0 : len = 0
      · left; simp [h0]
      · right
        obtain ⟨c0, _⟩ := h3 0 (by omega) 0 (by omega)
        obtain ⟨b, off, sh⟩ := x
        cases sh with
        | some s =>
          exfalso
          simp [World.cell?, Addr.add] at c0
          split at c0 <;> cases c0
        | none =>
          refine ⟨b, off, rfl, World.block_lt_of_cell? w _ c0, fun i hi => ?_⟩
          simp only [List.length_map, List.length_range] at hi
          have e : ((List.range len).map fun i => ((zs i 0, zs i 1) : R2)).getD i u0 = (zs i 0, zs i 1) := by
            simp [List.getD_eq_getElem?_getD, hi]
          rw [e]
          have hj : ∀ j, j < 2 → w.cell? ⟨b, off + i * 2 + j, none⟩ = some (.int .i64 (zs i j)) := fun j hj => by
            have := (h3 i (by omega) j hj).1
            unfold Addr.add at this
            by_cases hz : i * 2 + j = 0
            · rw [if_pos hz] at this
              rw [show off + i * 2 + j = off by omega]; exact this
            · rw [if_neg hz] at this
              rw [show off + i * 2 + j = off + (i * 2 + j) by omega]; exact this
          exact ⟨hj 0 (by omega), hj 1 (by omega)⟩
  · rcases h with ⟨rfl, rfl, rfl⟩ | ⟨x, rfl, h1, h2, h3⟩
    · exact ⟨Nat.le_refl _, by unfold maxLen; omega⟩
    · exact ⟨h1, h2⟩
theorem utake_all (p : R2 → Bool) (rs : List R2) (k : Nat) (h : k < rs.length) : (rs.take (k + 1)).all p = ((rs.take k).all p && p (rs.getD k u0)) := by
  rw [List.take_succ_eq_append_getElem h, List.all_append]; simp [List.getD_eq_getElem?_getD, h]
theorem uall_not (p : R2 → Bool) (rs : List R2) (k : Nat) (h : k < rs.length) (hp : p (rs.getD k u0) = false) : rs.all p = false := by
  rw [List.all_eq_false]
  refine ⟨rs.getD k u0, by simp [List.getD_eq_getElem?_getD, h], ?_⟩
  rw [hp]; simp
theorem ugetD_mem {rs : List R2} {k : Nat} (h : k < rs.length) : rs.getD k u0 ∈ rs := by simp [List.getD_eq_getElem?_getD, h]
theorem uall_at {p : R2 → Bool} {rs : List R2} (h : rs.all p = true) {k : Nat} (hk : k < rs.length) : p (rs.getD k u0) = true := List.all_eq_true.1 h _ (ugetD_mem hk)


/-- Four cells that may be written. -/
structure Fr2 (w : World) (b o : Nat) : Prop where
  f0 : w.frozen? ⟨b, o, none⟩ = false
  f1 : w.frozen? ⟨b, o + 1, none⟩ = false
/-- Block g holds the reports ys from its beginning on, and may be written. -/
def WrU (w : World) (g : Nat) (ys : List R2) : Prop := ∀ j, j < ys.length → At2 w g (j * 2) (ys.getD j u0) ∧ Fr2 w g (j * 2)
theorem WrU.keep {w w' : World} {g : Nat} {ys : List R2} (h : WrU w g ys) (k : Keep w w') : WrU w' g ys :=
  fun j hj => ⟨(h j hj).1.keep k, ⟨k.still (h j hj).1.s (h j hj).2.f0, k.still (h j hj).1.d (h j hj).2.f1⟩⟩
theorem WrU.rr {w : World} {g : Nat} {ys : List R2} (h : WrU w g ys) : Rr w (some ⟨g, 0, none⟩) ys := by
  by_cases h0 : ys = []
  · exact .inl h0
  · have hp : 0 < ys.length := List.length_pos_iff.2 h0
    exact .inr ⟨g, 0, rfl, World.block_lt_of_cell? w _ (h 0 hp).1.s, fun i hi => by rw [Nat.zero_add]; exact (h i hi).1⟩
/-- A report stored in four cells. -/
def put2 (w : World) (b o : Nat) (r : R2) : World := (w.setCell ⟨b, o, none⟩ (.int .i64 (uL r))).setCell ⟨b, o + 1, none⟩ (.int .i64 (uH r))
theorem put2_far {w : World} {b o : Nat} {r : R2} {b' i : Nat} (h : b' ≠ b ∨ i < o ∨ o + 1 < i) : (put2 w b o r).cell? ⟨b', i, none⟩ = w.cell? ⟨b', i, none⟩ := by
  unfold put2
  rw [World.cell?_setCell_other _ _ _ _ (by intro e; simp only [Addr.mk.injEq] at e; omega), World.cell?_setCell_other _ _ _ _ (by intro e; simp only [Addr.mk.injEq] at e; omega)]
theorem put2_at {w : World} {b o : Nat} {r q : R2} (h : At2 w b o q) : At2 (put2 w b o r) b o r := by
  unfold put2
  constructor
  · rw [World.cell?_setCell_other _ _ _ _ (by simp)]
    exact World.cell?_setCell_same _ _ _ h.s
  · exact World.cell?_setCell_same _ _ _ ((World.cell?_setCell_other _ _ _ _ (by simp)).trans h.d)
theorem put2_frozen (w : World) (b o : Nat) (r : R2) (a : Addr) : (put2 w b o r).frozen? a = w.frozen? a := by
  unfold put2; rw [World.frozen?_setCell, World.frozen?_setCell]
theorem put2_keep {a w : World} (h : Keep a w) {b o : Nat} {r : R2} (hb : a.heap.size ≤ b) : Keep a (put2 w b o r) :=
  (h.setCell hb _).setCell hb _
theorem WrU.set {w : World} {g : Nat} {ys : List R2} (h : WrU w g ys) {k : Nat} (hk : k < ys.length) (r : R2) : WrU (put2 w g (k * 2) r) g (ys.set k r) := by
  intro j hj
  rw [List.length_set] at hj
  obtain ⟨h1, h2⟩ := h j hj
  refine ⟨?_, ⟨?_, ?_⟩⟩
  · by_cases e : j = k
    · subst e
      have e2 : (ys.set j r).getD j u0 = r := by simp [List.getD_eq_getElem?_getD, hj]
      rw [e2]; exact put2_at h1
    · have e2 : (ys.set k r).getD j u0 = ys.getD j u0 := by
        have : k ≠ j := fun h => e h.symm
        simp [List.getD_eq_getElem?_getD, this]
      rw [e2]
      exact ⟨(put2_far (by omega)).trans h1.s, (put2_far (by omega)).trans h1.d⟩
  all_goals rw [put2_frozen]
  · exact h2.f0
  · exact h2.f1
theorem upart_set (rs : List R2) (k : Nat) (hk : k < rs.length) : (rs.take k ++ List.replicate (rs.length - k) u0).set k (rs.getD k u0) = rs.take (k + 1) ++ List.replicate (rs.length - (k + 1)) u0 := by
  have e : List.replicate (rs.length - k) u0 = u0 :: List.replicate (rs.length - (k + 1)) u0 := by
    rw [← List.replicate_succ]; congr 1; omega
  have hg : rs.getD k u0 = rs[k] := by simp [List.getD_eq_getElem?_getD, hk]
  have hl : (rs.take k).length = k := by rw [List.length_take]; omega
  rw [e, List.set_append_right _ _ (by omega), hl, Nat.sub_self, List.set_cons_zero, hg, List.take_succ_eq_append_getElem hk, List.append_assoc]
  rfl

theorem infoRng : (Tryd.prog.info? 31).map (fun i => (i.zero, i.size, i.bytes)) = some (some (.agg #[.int .i64 0, .int .i64 0]), 2, 16) := by kernel_rfl
theorem run_make_ranges (n : Nat) (hn : n ≤ 1048576) (w : World) :
    (Instr.makeSlice 41 (.int .i64 (n : Int)) (.int .i64 (n : Int))).run Tryd.prog w = .ok (.slice (some ⟨w.heap.size, 0, none⟩) n n) (w.alloc (.cells (madeCells #[.int .i64 0, .int .i64 0] (n * 2)) 31)) := by
  obtain ⟨i, hi, hz, hs, hb⟩ := info_parts infoRng
  have hr := run_make (P := Tryd.prog) w 41 31 i _ Tryd.underlying41 hi hz .i64 .i64 n n (by omega) (by omega) (by rw [hb]; omega) (by omega)
  simp only [Int.toNat_natCast, hs] at hr
  exact hr
theorem made2_at (n j : Nat) (hj : j < n * 2) : (madeCells #[Value.int .i64 0, .int .i64 0] (n * 2))[j]? = some (.int .i64 0) := by
  unfold madeCells
  have h4 : j % 2 = 0 ∨ j % 2 = 1 := by omega
  rcases h4 with h | h <;> simp [hj, h]
set_option maxHeartbeats 400000 in
theorem eqRange_same (s d : Int) (w : World) :
    Calls Tryd.prog 57 #[.agg #[.int .i64 s, .int .i64 d], .agg #[.int .i64 s, .int .i64 d]] w fun e w' => e = .returned (.bool true) ∧ Keep w w' := by
  go_enter Tryd.func57, Tryd.ntmps57
  go_wp2
  go_ret
  exact ⟨rfl, ((Keep.refl w).alloc _).alloc _⟩
end Go.Proofs.YtohoeonfoolpdaaDoor
namespace Go.Proofs.YtohoeonfoolpdaaDoor
open Go.RowKit
set_option linter.unusedVariables false

/-- The slice at a lies below block B. -/
def Lo (B : Nat) (a : Option Addr) (n : Nat) : Prop := n = 0 ∨ ∀ b o, a = some ⟨b, o, none⟩ → b < B
theorem Ls.below {B : Nat} {w w' : World} {a : Option Addr} {zs : List Int} (h : Ls w a zs) (hl : Lo B a zs.length) (hb : Below B w w') : Ls w' a zs := by
  rcases h with h | ⟨b, off, ha, hlt, hc⟩
  · exact .inl h
  · rcases hl with hl | hl
    · exact .inl (List.eq_nil_of_length_eq_zero hl)
    · exact .inr ⟨b, off, ha, Nat.lt_of_lt_of_le hlt hb.size, fun i hi => (hb.cell (p := ⟨b, off + i, none⟩) (hl b off ha)).trans (hc i hi)⟩
theorem Ls.only {B : Nat} {w w' : World} {a : Option Addr} {zs : List Int} (h : Ls w a zs) (hl : Lo B a zs.length) (ho : Only B w w') : Ls w' a zs := by
  rcases hl with hl | hl
  · exact .inl (List.eq_nil_of_length_eq_zero hl)
  · exact ho.ls h fun b o hb => by have := hl b o hb; omega
theorem Ls.lo {w : World} {a : Option Addr} {zs : List Int} (h : Ls w a zs) : Lo w.heap.size a zs.length := by
  rcases h with h | ⟨b, off, ha, hlt, hc⟩
  · left; rw [h]; rfl
  · right; intro b' o' hb'; rw [ha] at hb'; injection hb' with hb'; injection hb' with hb' _ _; omega
theorem Lo.mono {B B' : Nat} {a : Option Addr} {n : Nat} (h : Lo B a n) (hB : B ≤ B') : Lo B' a n := by
  rcases h with h | h
  · exact .inl h
  · exact .inr fun b o hb => by have := h b o hb; omega
theorem Fresh.only {B : Nat} {w w' w'' : World} {a : Option Addr} {zs : List Int} (h : Fresh w w' a zs) (ho : Only B w' w'') (hB : B < w.heap.size) : Fresh w w'' a zs := by
  rcases h with h | ⟨g, ha, hg, hl, h⟩
  · exact .inl h
  · exact .inr ⟨g, ha, hg, Nat.lt_of_lt_of_le hl ho.size, ho.wr h (by omega)⟩
theorem Fresh.drewN {w w' : World} {a : Option Addr} {zs : List Int} (h : Fresh w w' a zs) (n : Nat) : Fresh w (w'.drewN n) a zs := h.keep ((Keep.refl w').drewN n)

set_option maxHeartbeats 400000 in
theorem markI0 (a : Option Addr) (c : Nat) (w : World) :
    Calls Tryd.prog 19 #[.slice a 0 c, .int .i64 1] w fun e w' => e = .returned (.int .i64 1) ∧ w = w' := by
  go_enter Tryd.func19, Tryd.ntmps19
  go_wp2_with fail
  go_loop [1, 5] (fun q i => i = .int .i64 0 ∧ q = .int .i64 1) (fun _ i => 0)
  case atStart => exact ⟨rfl, rfl⟩
  case round =>
    obtain ⟨rfl, rfl⟩ := hrel
    go_wp2
    go_ret
    exact ⟨rfl, rfl⟩
/-- Marks on a fresh slice. -/
theorem markF (a : Option Addr) (c : Nat) (zs : List Int) (w0 w : World) (h : Fresh w0 w a zs) (hm : zs.length ≤ 1048576) :
    Calls Tryd.prog 19 #[.slice a zs.length c, .int .i64 1] w fun e w' => e = .returned (.int .i64 (1 + (zs.length : Int))) ∧ (w0.heap.size ≤ w.heap.size → Below w0.heap.size w w') ∧ ∃ ys, ys.length = zs.length ∧ Ls w' a ys ∧ MkI ys := by
  rcases h with rfl | ⟨g, rfl, hg, hl, h⟩
  · refine (markI0 a c w).mono fun e w' ⟨he, hw⟩ => ?_
    subst hw
    exact ⟨he, fun _ => Below.refl _ _, [], rfl, .inl rfl, fun i hi => by simp at hi⟩
  · refine (markI g c zs w h hm).mono fun e w' ⟨he, ho, ys, hy, hw, hk⟩ => ⟨he, fun hs => ho.below hg hs, ys, hy, hw.ls, hk⟩
theorem ssL_len (rs : List R4) (v s t f n : Int) : (ssL rs v s t f n).length ≤ 12 := by
  cases h : ssOk rs v s t f n
  · rw [ssL_no h]; simp
  · have h2 := h
    simp only [ssOk, Bool.and_eq_true] at h2
    obtain ⟨_, _, _, m, rfl, _, hm⟩ := saB_facts h2.2
    obtain ⟨_, _, x, rfl, _⟩ := vrB_facts h2.1
    rw [ssL_yes h, serN_len]; exact hm
end Go.Proofs.YtohoeonfoolpdaaDoor
namespace Go.Proofs.YtohoeonfoolpdaaDoor
open Go.RowKit
set_option linter.unusedVariables false

/-- Reports in a block that is new since w. -/
def FrU (w w' : World) (a : Option Addr) (ys : List R2) : Prop := ys = [] ∨ ∃ g, a = some ⟨g, 0, none⟩ ∧ w.heap.size ≤ g ∧ g < w'.heap.size ∧ WrU w' g ys
theorem FrU.rr {w w' : World} {a : Option Addr} {ys : List R2} (h : FrU w w' a ys) : Rr w' a ys := by
  rcases h with h | ⟨g, rfl, _, _, h⟩
  · exact .inl h
  · exact h.rr
theorem FrU.keep {w w' w'' : World} {a : Option Addr} {ys : List R2} (h : FrU w w' a ys) (k : Keep w' w'') : FrU w w'' a ys := by
  rcases h with h | ⟨g, ha, hg, hl, h⟩
  · exact .inl h
  · exact .inr ⟨g, ha, hg, Nat.lt_of_lt_of_le hl k.size, h.keep k⟩
theorem flatU_len : ∀ rs : List R2, (flatU rs).length = rs.length * 2
  | [] => rfl
  | r :: rs => by
    have h := flatU_len rs
    unfold flatU at *
    rw [List.flatMap_cons, List.length_append, h]
    simp [uc]; omega
theorem flatU_app (rs qs : List R2) : flatU (rs ++ qs) = flatU rs ++ flatU qs := by simp [flatU]
theorem flatU_one (r : R2) : flatU [r] = uc r := by simp [flatU]
theorem flatU_at : ∀ (rs : List R2) (i t : Nat), i < rs.length → t < 2 → (flatU rs)[i * 2 + t]? = (uc (rs.getD i u0))[t]?
  | [], _, _, h, _ => by cases h
  | r :: rs, 0, t, _, ht => by
    have e : flatU (r :: rs) = uc r ++ flatU rs := by simp [flatU]
    rw [e, List.getElem?_append_left (by simp [uc]; omega)]
    simp
  | r :: rs, i + 1, t, h, ht => by
    have e : flatU (r :: rs) = uc r ++ flatU rs := by simp [flatU]
    have h1 : i < rs.length := by simpa using h
    rw [e, List.getElem?_append_right (by simp [uc]; omega)]
    have e2 : (i + 1) * 2 + t - (uc r).length = i * 2 + t := by simp [uc]; omega
    rw [e2, flatU_at rs i t h1 ht]
    simp
theorem at2_of {w : World} {b o : Nat} {r : R2} (h : ∀ t, t < 2 → w.cell? ⟨b, o + t, none⟩ = (uc r)[t]?) : At2 w b o r :=
  ⟨(h 0 (by omega)).trans rfl, (h 1 (by omega)).trans rfl⟩
theorem At2.uc_at {w : World} {b o : Nat} {r : R2} (h : At2 w b o r) (t : Nat) (ht : t < 2) : w.cell? ⟨b, o + t, none⟩ = (uc r)[t]? := by
  have h4 : t = 0 ∨ t = 1 := by omega
  rcases h4 with rfl | rfl
  · exact h.s
  · exact h.d
/-- The cells of a slice of reports, to be appended. -/
theorem news_rr {w : World} {b off : Nat} {rs : List R2} (h : Rr w (some ⟨b, off, none⟩) rs) : ∀ j u, (flatU rs)[j]? = some u → w.cell? ((⟨b, off, none⟩ : Addr).add j) = some u := by
  intro j u hj
  have hl : j < rs.length * 2 := by
    rw [← flatU_len]
    exact (List.getElem?_eq_some_iff.1 hj).1
  rcases h with h | ⟨b', off', he, _, h⟩
  · subst h; simp [flatU] at hj
  · simp only [Option.some.injEq, Addr.mk.injEq, and_true] at he
    obtain ⟨rfl, rfl⟩ := he
    have e : j = j / 2 * 2 + j % 2 := by omega
    rw [e, flatU_at rs _ _ (by omega) (by omega)] at hj
    have h1 := (h (j / 2) (by omega)).uc_at (j % 2) (by omega)
    rw [hj] at h1
    have e2 : (⟨b, off, none⟩ : Addr).add j = ⟨b, off + j, none⟩ := Addr.add_lit b off j
    have e3 : off + j = off + j / 2 * 2 + j % 2 := by omega
    rw [e2, e3]; exact h1
theorem newsU_one {w : World} {b1 : Nat} {r : R2} (h : At2 w b1 0 r) : ∀ j u, (uc r)[j]? = some u → w.cell? ((⟨b1, 0, none⟩ : Addr).add j) = some u := by
  have hR : Rr w (some ⟨b1, 0, none⟩) [r] := .inr ⟨b1, 0, rfl, World.block_lt_of_cell? w _ h.s, fun i hi => by
    obtain rfl : i = 0 := by simpa using hi
    exact h⟩
  have h2 := news_rr hR
  rw [flatU_one] at h2
  exact h2
theorem uc_one (r : R2) : ∀ u ∈ uc r, u.oneCell' = true := by
  intro u hu
  simp only [uc, List.mem_cons, List.not_mem_nil, or_false] at hu
  obtain rfl | rfl := hu <;> rfl
theorem flatU_cells {rs : List R2} : ∀ u ∈ flatU rs, u.oneCell' = true := by
  intro u hu
  simp only [flatU, List.mem_flatMap, uc, List.mem_cons, List.not_mem_nil, or_false] at hu
  obtain ⟨r, _, rfl | rfl⟩ := hu <;> rfl
theorem own_capU {w : World} {base e size g n c : Nat} {xs : List Value} (h : w.ownsRow base e size (.slice (some ⟨g, 0, none⟩) n c) n xs) : n ≤ c := by
  rcases h.2 with ⟨h', _⟩ | ⟨g', cap', cur, h', _, _, h2, _⟩
  · simp at h'
  · simp only [Value.slice.injEq, Option.some.injEq, Addr.mk.injEq, and_true, true_and] at h'
    obtain ⟨rfl, rfl⟩ := h'
    exact h2
/-- What a row of one's own holds may be written. -/
theorem wrU_own {w : World} {base g n c : Nat} {ys : List R2} (h : w.ownsRow base 31 2 (.slice (some ⟨g, 0, none⟩) n c) n (flatU ys)) (hn : n = ys.length) : WrU w g ys := by
  subst hn
  intro j hj
  refine ⟨at2_of fun t ht => ?_, ⟨World.ownsRow.frozenAt h _, World.ownsRow.frozenAt h _⟩⟩
  rw [World.ownsRow.cellAt h _ (by omega), flatU_at ys j t hj ht]

theorem Rr.below {B : Nat} {w w' : World} {a : Option Addr} {rs : List R2} (h : Rr w a rs) (hl : Lo B a rs.length) (hb : Below B w w') : Rr w' a rs := by
  rcases h with h | ⟨b, off, ha, hlt, hc⟩
  · exact .inl h
  · rcases hl with hl | hl
    · exact .inl (List.eq_nil_of_length_eq_zero hl)
    · exact .inr ⟨b, off, ha, Nat.lt_of_lt_of_le hlt hb.size, fun i hi => (hc i hi).same fun j => hb.cell (p := ⟨b, j, none⟩) (hl b off ha)⟩
theorem Rr.lo {w : World} {a : Option Addr} {rs : List R2} (h : Rr w a rs) : Lo w.heap.size a rs.length := by
  rcases h with h | ⟨b, off, ha, hlt, hc⟩
  · left; rw [h]; rfl
  · right; intro b' o' hb'; rw [ha] at hb'; injection hb' with hb'; injection hb' with hb' _ _; omega
theorem Rr.onlyLo {B : Nat} {w w' : World} {a : Option Addr} {rs : List R2} (h : Rr w a rs) (hl : Lo B a rs.length) (ho : Only B w w') : Rr w' a rs := by
  rcases h with h | ⟨b, off, ha, hlt, hc⟩
  · exact .inl h
  · rcases hl with hl | hl
    · exact .inl (List.eq_nil_of_length_eq_zero hl)
    · have hne : b < B := hl b off ha
      exact .inr ⟨b, off, ha, Nat.lt_of_lt_of_le hlt ho.size, fun i hi => (hc i hi).same fun j => ho.cell b j hlt (by omega)⟩
theorem FrU.mono {w0 w w' : World} {a : Option Addr} {ys : List R2} (h : FrU w w' a ys) (hs : w0.heap.size ≤ w.heap.size) : FrU w0 w' a ys := by
  rcases h with h | ⟨g, ha, hg, hl, h⟩
  · exact .inl h
  · exact .inr ⟨g, ha, Nat.le_trans hs hg, hl, h⟩
theorem FrU.only {B : Nat} {w w' w'' : World} {a : Option Addr} {ys : List R2} (h : FrU w w' a ys) (ho : Only B w' w'') (hB : B < w.heap.size) : FrU w w'' a ys := by
  rcases h with h | ⟨g, ha, hg, hl, h⟩
  · exact .inl h
  · refine .inr ⟨g, ha, hg, Nat.lt_of_lt_of_le hl ho.size, fun j hj => ?_⟩
    obtain ⟨h1, h2⟩ := h j hj
    exact ⟨h1.same fun i => ho.cell g i hl (by omega), ⟨(ho.frozen g _ hl (by omega)).trans h2.f0, (ho.frozen g _ hl (by omega)).trans h2.f1⟩⟩
theorem FrU.drewN {w w' : World} {a : Option Addr} {ys : List R2} (h : FrU w w' a ys) (n : Nat) : FrU w (w'.drewN n) a ys := h.keep ((Keep.refl w').drewN n)

/-- A slice value that owns the sites ts. -/
def OwnU (w : World) (base : Nat) (v : Value) (ts : List R2) : Prop := w.ownsRow base 31 2 v ts.length (flatU ts)
theorem OwnU.only {w w' : World} {base B : Nat} {v : Value} {ts : List R2} (h : OwnU w base v ts) (ho : Only B w w') (hB : B < base) : OwnU w' base v ts := by
  refine World.ownsRow.kept h ho ?_
  cases hv : v.ownBlock with
  | none => left; rfl
  | some k => right; have := h.lt k hv; intro e; injection e with e; omega
theorem OwnU.keep {w w' : World} {base : Nat} {v : Value} {ts : List R2} (h : OwnU w base v ts) (k : Keep w w') : OwnU w' base v ts := by
  refine World.ownsRow.kept h (⟨Below.os k, Below.tape k, Below.output k, Below.size k, fun i hi _ => Below.block k i hi⟩ : w.grownBy w' none) ?_
  cases hv : v.ownBlock with
  | none => left; rfl
  | some k => right; simp
theorem OwnU.form {w : World} {base : Nat} {v : Value} {ts : List R2} (h : OwnU w base v ts) (h0 : 0 < ts.length) :
    ∃ g c, v = .slice (some ⟨g, 0, none⟩) ts.length c ∧ ts.length ≤ c ∧ base ≤ g ∧ g < w.heap.size ∧ WrU w g ts := by
  obtain ⟨g, c, hv, hb, hl⟩ := World.ownsRow.form h h0
  subst hv
  exact ⟨g, c, rfl, own_capU h, hb, hl, wrU_own h rfl⟩
theorem OwnU.slice {w : World} {base : Nat} {v : Value} {ts : List R2} (h : OwnU w base v ts) : ∃ a c, v = .slice a ts.length c ∧ ts.length ≤ c ∧ Rr w a ts := by
  rcases Nat.eq_zero_or_pos ts.length with h0 | h0
  · rcases id h.2 with ⟨hv, _⟩ | ⟨g, cap, cur, hv, _⟩
    · exact ⟨none, 0, by rw [hv, h0], by omega, .inl (List.eq_nil_of_length_eq_zero h0)⟩
    · exact ⟨_, _, hv, by omega, .inl (List.eq_nil_of_length_eq_zero h0)⟩
  · obtain ⟨g, c, hv, hc, _, _, hW⟩ := h.form h0
    exact ⟨_, c, hv, hc, hW.rr⟩
theorem OwnU.made (w : World) : OwnU (w.alloc (.cells #[] 31)) w.heap.size (.slice (some ⟨w.heap.size, 0, none⟩) 0 0) [] :=
  World.ownsRow_made w #[] 0 (Nat.le_refl _) (by unfold maxLen; omega) rfl
def mk2 (k : Nat) : R2 := (1 + 2 * (k : Int), 1 + 2 * (k : Int) + 1)
end Go.Proofs.YtohoeonfoolpdaaDoor
namespace Go.Proofs.YtohoeonfoolpdaaDoor
open Go.RowKit
set_option linter.unusedVariables false

set_option maxHeartbeats 400000 in
theorem qv_spec (x : Int) (w : World) :
    Calls Tryd.prog 48 #[.int .i64 x] w fun e w' => e = .returned (.bool (qB x)) ∧ w = w' := by
  by_cases hx : x = -9999
  · subst hx
    go_enter Tryd.func48, Tryd.ntmps48
    go_wp2
    go_ret
    exact ⟨rfl, rfl⟩
  · have e1 : (x == -9999) = false := by simp [hx]
    have HX := Lib.hid (show qB x = inB x (-999) 10999 from qB_ne hx)
    go_enter Tryd.func48, Tryd.ntmps48
    go_wp2_with (go_at_call 49; refine (l6In_any _ _ _ _).mono ?_; rintro e w' ⟨rfl, rfl⟩)
    go_ret
    exact ⟨retB HX.out.symm, rfl⟩
set_option maxHeartbeats 1000000 in
theorem sqv_impl (a : Option Addr) (cap : Nat) (zs : List Int) (w : World) (h : Ls w a zs) (hm : zs.length ≤ 4611686018427387904) :
    Calls Tryd.prog 37 #[.slice a zs.length cap] w fun e w' => e = .returned (.bool (sqB zs)) ∧ w = w' := by
  by_cases h2 : 1 ≤ zs.length ∧ zs.length ≤ 12
  · obtain ⟨h3, h4⟩ := id h2
    have HL := Lib.hid h2
    have d1 : decide ((zs.length : Int) < 1) = false := by simp; omega
    have d2 : decide (12 < (zs.length : Int)) = false := by simp; omega
    clear h2
    go_enter Tryd.func37, Tryd.ntmps37
    go_wp2_with fail
    go_loop [15] (fun i => ∃ k : Nat, k ≤ zs.length ∧ i = .int .i64 k ∧ Hid ((zs.take k).all qB = true)) (fun i => zs.length - (intOf i).toNat)
    case atStart => exact ⟨0, by omega, rfl, Lib.hid (by simp)⟩
    case round =>
      obtain ⟨k, hk, rfl, HA⟩ := hrel
      by_cases hlt : k < zs.length
      · obtain ⟨b, off, rfl, hb, hc⟩ := h.at_ hlt
        by_cases hx : zs.getD k 0 = -9999
        · have HS := Lib.hid (show (zs.take (k + 1)).all qB = true by rw [take_snoc_all _ _ _ hlt, HA.out, hx]; rfl)
          rw [hx] at hc
          clear hx
          go_wp2_with fail
          go_round
          case rel => exact ⟨k + 1, by omega, by go_num, HS⟩
          case measure => simp [intOf]; omega
        · have hx2 : (zs.getD k 0 != -9999) = true := by simpa using hx
          have hqr := qB_ne hx
          rcases Bool.eq_false_or_eq_true (rdB (zs.getD k 0)) with hr | hr
          · have HS := Lib.hid (show (zs.take (k + 1)).all qB = true by rw [take_snoc_all _ _ _ hlt, HA.out, hqr, hr]; rfl)
            clear hqr hx
            generalize zs.getD k 0 = x at hc hr hx2
            go_wp2_with (go_at_call 53; refine (rd_impl _ _).mono ?_; rintro e w' ⟨rfl, rfl⟩)
            go_round
            case rel => exact ⟨k + 1, by omega, by go_num, HS⟩
            case measure => simp [intOf]; omega
          · have HF := Lib.hid (sq_bad (all_not qB zs k hlt (hqr.trans hr)))
            clear hqr hx
            generalize zs.getD k 0 = x at hc hr hx2
            go_wp2_with (go_at_call 53; refine (rd_impl _ _).mono ?_; rintro e w' ⟨rfl, rfl⟩)
            go_ret
            exact ⟨retB HF.out.symm, rfl⟩
      · have HT := Lib.hid (sq_all (by rw [← take_all hlt]; exact HA.out) HL.out)
        go_wp2
        go_ret
        exact ⟨retB HT.out.symm, rfl⟩
  · have HF := Lib.hid (sq_len_no h2)
    have hc : decide ((zs.length : Int) < 1) = true ∨ (decide ((zs.length : Int) < 1) = false ∧ decide (12 < (zs.length : Int)) = true) := by
      by_cases h0 : zs.length < 1
      · left; simp; omega
      · right; constructor <;> simp <;> omega
    clear h2
    rcases hc with hc | ⟨hc, hd⟩
    all_goals
      go_enter Tryd.func37, Tryd.ntmps37
      go_wp2
      go_ret
      exact ⟨retB HF.out.symm, rfl⟩
set_option maxHeartbeats 1000000 in
theorem sqv_spec (a : Option Addr) (cap : Nat) (zs : List Int) (w : World) (h : Ls w a zs) (hm : zs.length ≤ 4611686018427387904) :
    Calls Tryd.prog 34 #[.slice a zs.length cap] w fun e w' => e = .returned (.bool (sqB zs)) ∧ w = w' := by
  go_enter Tryd.func34, Tryd.ntmps34
  go_wp2_with fail
  go_loop [3] (fun i => ∃ k : Nat, k ≤ zs.length ∧ i = .int .i64 k ∧ Hid ((zs.take k).all qB = true)) (fun i => zs.length - (intOf i).toNat)
  case atStart => exact ⟨0, by omega, rfl, Lib.hid (by simp)⟩
  case round =>
    obtain ⟨k, hk, rfl, HA⟩ := hrel
    by_cases hlt : k < zs.length
    · obtain ⟨b, off, rfl, hb, hc⟩ := h.at_ hlt
      rcases Bool.eq_false_or_eq_true (qB (zs.getD k 0)) with hr | hr
      · have HS := Lib.hid (show (zs.take (k + 1)).all qB = true by rw [take_snoc_all _ _ _ hlt, HA.out, hr]; rfl)
        generalize zs.getD k 0 = x at hc hr
        go_wp2_with (go_at_call 48; refine (qv_spec _ _).mono ?_; rintro e w' ⟨rfl, rfl⟩)
        go_round
        case rel => exact ⟨k + 1, by omega, by go_num, HS⟩
        case measure => simp [intOf]; omega
      · have HF := Lib.hid (sq_bad (all_not qB zs k hlt hr))
        generalize zs.getD k 0 = x at hc hr
        go_wp2_with (go_at_call 48; refine (qv_spec _ _).mono ?_; rintro e w' ⟨rfl, rfl⟩)
        go_ret
        exact ⟨retB HF.out.symm, rfl⟩
    · have HA2 : Hid (zs.all qB = true) := Lib.hid (by rw [← take_all hlt]; exact HA.out)
      have HT : Hid (inB (zs.length : Int) 1 12 = sqB zs) := Lib.hid (by
        by_cases h2 : 1 ≤ zs.length ∧ zs.length ≤ 12
        · rw [sq_all HA2.out h2, inB_yes (by omega)]
        · rw [sq_len_no h2, inB_no (by omega)])
      go_wp2_with (go_at_call 49; refine (l6In_any _ _ _ _).mono ?_; rintro e w' ⟨rfl, rfl⟩)
      go_ret
      exact ⟨retB HT.out, rfl⟩
set_option maxHeartbeats 1000000 in
theorem sk_impl (a : Option Addr) (cap : Nat) (zs : List Int) (w : World) (h : Ls w a zs) (hm : zs.length ≤ 4611686018427387904) :
    Calls Tryd.prog 13 #[.slice a zs.length cap] w fun e w' => e = .returned (.int .i64 (sk zs)) ∧ w = w' := by
  rcases Bool.eq_false_or_eq_true (sqB zs) with hq | hq
  · have HL := Lib.hid (sq_facts hq).2
    have HY := Lib.hid (sk_yes hq)
    go_enter Tryd.func13, Tryd.ntmps13
    go_wp2_with (go_at_call 37; refine (sqv_impl _ _ zs _ h hm).mono ?_; rintro e w' ⟨he, rfl⟩; rw [hq] at he; subst he)
    go_loop [3, 11] (fun c i => ∃ k : Nat, k ≤ zs.length ∧ i = .int .i64 k ∧ c = .int .i64 (knN zs k : Int)) (fun _ i => zs.length - (intOf i).toNat)
    case atStart => exact ⟨0, by omega, rfl, rfl⟩
    case round =>
      obtain ⟨k, hk, rfl, rfl⟩ := hrel
      have hkl := knN_le zs k
      by_cases hlt : k < zs.length
      · obtain ⟨b, off, rfl, hb, hc⟩ := h.at_ hlt
        by_cases hx : zs.getD k 0 = -9999
        · have HS : Hid (knN zs (k + 1) = knN zs k) := Lib.hid (by simp only [knN, hx]; simp)
          rw [hx] at hc
          clear hx
          generalize knN zs k = n at hkl HS
          go_wp2_with fail
          go_round
          case rel => exact ⟨k + 1, by omega, by go_num, by rw [HS.out]⟩
          case measure => simp [intOf]; omega
        · have hx2 : (zs.getD k 0 != -9999) = true := by simpa using hx
          have HS : Hid (knN zs (k + 1) = knN zs k + 1) := Lib.hid (by simp only [knN, if_neg hx])
          clear hx
          generalize zs.getD k 0 = x at hc hx2
          generalize knN zs k = n at hkl HS
          go_wp2_with fail
          go_round
          case rel => exact ⟨k + 1, by omega, by go_num, by rw [HS.out]; go_num⟩
          case measure => simp [intOf]; omega
      · obtain rfl : k = zs.length := by omega
        go_wp2
        go_ret
        exact ⟨retI HY.out.symm, rfl⟩
  · have HN := Lib.hid (sk_no hq)
    go_enter Tryd.func13, Tryd.ntmps13
    go_wp2_with (go_at_call 37; refine (sqv_impl _ _ zs _ h hm).mono ?_; rintro e w' ⟨he, rfl⟩; rw [hq] at he; subst he)
    go_ret
    exact ⟨retI HN.out.symm, rfl⟩
end Go.Proofs.YtohoeonfoolpdaaDoor
namespace Go.Proofs.YtohoeonfoolpdaaDoor
open Go.RowKit
set_option linter.unusedVariables false

theorem infoIntO : (Tryd.prog.info? 3).map (fun i => (i.zero, i.size, i.bytes)) = some (some (.int .i64 0), 1, 8) := by kernel_rfl
/-- A slice value that owns the integers zs. -/
def OwI (w : World) (base : Nat) (v : Value) (zs : List Int) : Prop := w.ownsRow base 3 1 v zs.length (zs.map (Value.int .i64))
theorem OwI.keep {w w' : World} {base : Nat} {v : Value} {zs : List Int} (h : OwI w base v zs) (k : Keep w w') : OwI w' base v zs := by
  refine World.ownsRow.kept h (⟨Below.os k, Below.tape k, Below.output k, Below.size k, fun i hi _ => Below.block k i hi⟩ : w.grownBy w' none) ?_
  cases hv : v.ownBlock with
  | none => left; rfl
  | some k => right; simp
theorem OwI.nil (w : World) (base : Nat) : OwI w base (.slice none 0 0) [] := World.ownsRow_nil _ _ _ _
theorem OwI.made (w : World) : OwI (w.alloc (.cells #[] 3)) w.heap.size (.slice (some ⟨w.heap.size, 0, none⟩) 0 0) [] :=
  World.ownsRow_made w #[] 0 (Nat.le_refl _) (by unfold maxLen; omega) rfl
theorem OwI.slice {w : World} {base : Nat} {v : Value} {zs : List Int} (h : OwI w base v zs) : ∃ a c, v = .slice a zs.length c ∧ zs.length ≤ c ∧ Ls w a zs := by
  rcases id h.2 with ⟨hv, h0⟩ | ⟨g, cap, cur, hv, _, hc, _⟩
  · exact ⟨none, 0, by rw [hv, h0], by omega, .inl (List.eq_nil_of_length_eq_zero h0)⟩
  · subst hv; exact ⟨_, _, rfl, by omega, (Ls.own h).2⟩
theorem OwI.fresh {w0 w : World} {base n c : Nat} {a : Option Addr} {zs : List Int} (h : OwI w base (.slice a n c) zs) (hb : w0.heap.size ≤ base) : n = zs.length ∧ n ≤ c ∧ Fresh w0 w a zs := by
  obtain ⟨a', c', hv, hc, _⟩ := h.slice
  injection hv with e1 e2 e3
  subst e1
  subst e2
  subst e3
  refine ⟨rfl, hc, ?_⟩
  by_cases h0 : zs = []
  · exact .inl h0
  · have hp : 0 < zs.length := List.length_pos_iff.2 h0
    obtain ⟨g, cap, hv, hg, hlt⟩ := World.ownsRow.form h hp
    injection hv with e1 _ _
    subst e1
    refine .inr ⟨g, rfl, by omega, hlt, fun j hj => ⟨?_, World.ownsRow.frozenAt h j⟩⟩
    rw [World.ownsRow.cellAt h j (by omega)]
    simp [hj, List.getD_eq_getElem?_getD]
/-- A new slice, or none. -/
def NwL (L : List Int) (w : World) (e : Ending) (w' : World) : Prop := ∃ (a : Option Addr) (c : Nat), e = .returned (.slice a L.length c) ∧ L.length ≤ c ∧ Fresh w w' a L ∧ Keep w w'
/-- A new slice, or none, and a bool. -/
def NwB (L : List Int) (b : Bool) (w : World) (e : Ending) (w' : World) : Prop := ∃ (a : Option Addr) (c : Nat), e = .returned (.tuple #[.slice a L.length c, .bool b]) ∧ L.length ≤ c ∧ Fresh w w' a L ∧ Keep w w'
theorem nwl_no {L : List Int} {w w' : World} (h : L = []) (a : Option Addr) (c : Nat) (k : Keep w w') : NwL L w (.returned (.slice a 0 c)) w' := by
  subst h; exact ⟨a, c, rfl, Nat.zero_le _, .inl rfl, k⟩
theorem nwl_own {L : List Int} {w w' : World} {base n c : Nat} {x : Option Addr} (h : OwI w' base (.slice x n c) L) (hb : w.heap.size ≤ base) (k : Keep w w') : NwL L w (.returned (.slice x n c)) w' := by
  obtain ⟨rfl, hc, hF⟩ := h.fresh hb
  exact ⟨x, c, rfl, hc, hF, k⟩
theorem nwb_no {L : List Int} {b : Bool} {w w' : World} (h : L = []) (hb : b = false) (a : Option Addr) (c : Nat) (k : Keep w w') : NwB L b w (.returned (.tuple #[.slice a 0 c, .bool false])) w' := by
  subst h; subst hb; exact ⟨a, c, rfl, Nat.zero_le _, .inl rfl, k⟩
theorem nwb_own {L : List Int} {b : Bool} {w w' : World} {base n c : Nat} {x : Option Addr} (h : OwI w' base (.slice x n c) L) (h2 : b = true) (hb : w.heap.size ≤ base) (k : Keep w w') : NwB L b w (.returned (.tuple #[.slice x n c, .bool true])) w' := by
  subst h2
  obtain ⟨rfl, hc, hF⟩ := h.fresh hb
  exact ⟨x, c, rfl, hc, hF, k⟩
def FrPostO (L : List Int) (w : World) (e : Ending) (w' : World) : Prop := ∃ (a : Option Addr) (c : Nat), e = .returned (.slice a L.length c) ∧ Fresh w w' a L ∧ Keep w w'
theorem NwL.fr {L : List Int} {w w' : World} {e : Ending} (h : NwL L w e w') : FrPostO L w e w' := by
  obtain ⟨a, c, he, _, hF, k⟩ := h
  exact ⟨a, c, he, hF, k⟩
end Go.Proofs.YtohoeonfoolpdaaDoor
namespace Go.Proofs.YtohoeonfoolpdaaDoor
open Go.RowKit
set_option linter.unusedVariables false

theorem abs_worldA (P : World → Prop) (w : World) (F : World → Prop) (h : F w) (h2 : ∀ wq, F wq → P wq) : P w := h2 w h
theorem news_lsA {w : World} {b off : Nat} {zs : List Int} (h : Ls w (some ⟨b, off, none⟩) zs) : ∀ j u, (zs.map (Value.int .i64))[j]? = some u → w.cell? ((⟨b, off, none⟩ : Addr).add j) = some u := by
  intro j u hj
  rw [List.getElem?_map] at hj
  rcases h with h | ⟨b', off', ha, hb, hc⟩
  · rw [h] at hj; simp at hj
  · injection ha with ha
    injection ha with e1 e2 _
    subst e1; subst e2
    by_cases hl : j < zs.length
    · rw [List.getElem?_eq_getElem hl] at hj
      simp at hj
      subst hj
      have h9 := hc j hl
      rw [show zs.getD j 0 = zs[j] by simp [List.getD_eq_getElem?_getD, hl]] at h9
      rcases Nat.eq_zero_or_pos j with h0 | h0
      · subst h0
        rw [Nat.add_zero] at h9
        rw [← h9]; simp [Addr.add]
      · rw [← h9]; simp [Addr.add, show j ≠ 0 by omega]
    · rw [List.getElem?_eq_none (by omega)] at hj
      simp at hj
theorem ls_takeA {w : World} {a : Option Addr} {zs : List Int} (h : Ls w a zs) (k : Nat) : Ls w a (zs.take k) := by
  rcases h with h | ⟨b, off, ha, hb, hc⟩
  · left; rw [h]; simp
  · refine .inr ⟨b, off, ha, hb, fun i hi => ?_⟩
    rw [List.length_take] at hi
    rw [hc i (by omega)]
    simp [List.getD_eq_getElem?_getD, show i < k by omega]
theorem ls_dropA {w : World} {b off : Nat} {zs : List Int} (h : Ls w (some ⟨b, off, none⟩) zs) (k : Nat) : Ls w (some ⟨b, off + k, none⟩) (zs.drop k) := by
  rcases h with h | ⟨b', off', ha, hb, hc⟩
  · left; rw [h]; simp
  · injection ha with ha
    injection ha with e1 e2 _
    subst e1; subst e2
    refine .inr ⟨b, off + k, rfl, hb, fun i hi => ?_⟩
    rw [List.length_drop] at hi
    rw [show off + k + i = off + (k + i) by omega, hc (k + i) (by omega)]
    simp [List.getD_eq_getElem?_getD]
theorem newsXA {w : World} {b : Nat} {x : Int} (h : w.cell? ⟨b, 0, none⟩ = some (.int .i64 x)) : ∀ j y, [Value.int .i64 x][j]? = some y → w.cell? ((⟨b, 0, none⟩ : Addr).add j) = some y := by
  intro j y hj
  match j, hj with
  | 0, hj => simp at hj; subst hj; simpa [Addr.add] using h
theorem newsWA (w : World) (x : Int) : ∀ j y, [Value.int .i64 x][j]? = some y → (w.alloc (.cells #[.int .i64 x] 3)).cell? ((⟨w.heap.size, 0, none⟩ : Addr).add j) = some y :=
  newsXA (World.cell?_alloc_new w _ _ 0)
theorem one1A {x : Int} : ∀ u ∈ [Value.int .i64 x], u.oneCell' = true := by intro u hu; simp at hu; subst hu; rfl
theorem own_lowA {w : World} {b1 b2 : Nat} {v : Value} {zs : List Int} (hb : b2 ≤ b1) (h : OwI w b1 v zs) : OwI w b2 v zs := by
  obtain ⟨h1, h2⟩ := h
  refine ⟨h1, ?_⟩
  rcases h2 with h3 | ⟨g, cap, cur, h3, h4, h5⟩
  · exact .inl h3
  · exact .inr ⟨g, cap, cur, h3, by omega, h5⟩
theorem step_app_ownA {P : Program} {w : World} {ops : Array Oper} {o : Oper} {a : Act} {K : Act → World → Prop} {Q : Exit → Act → World → Prop} {E : Prop} (hgd : o.guard = none) (s x : Operand) (t : TypeId)
    (ho : o.op = .call { callee := .builtin .append, args := #[s, x], argTypes := #[t, t] })
    (base : Nat) (e : TypeId) (i : TypeInfo) (z : Value) (size bytes : Nat) (ht : P.underlying t = some (.slice e)) (hi : P.info? e = some i) (hz : i.zero = some z)
    (hsize : i.size = size) (hby : i.bytes = bytes) (hzs : z.cells.size = size) (hsz : 0 < size)
    (v : Value) (n : Nat) (xs : List Value) (hs : a.eval s = v) (hown : w.ownsRow base e size v n xs)
    (ad : Addr) (m c : Nat) (news : List Value) (hx : a.eval x = .slice (some ad) m c) (hl : news.length = m * size) (hnews : ∀ j u, news[j]? = some u → w.cell? (ad.add j) = some u) (h1 : ∀ u ∈ news, u.oneCell' = true)
    (h63 : n + m ≤ maxLen) (hbytes : (n + m) * bytes ≤ 140737488355328) (hbase : base ≤ w.heap.size)
    (h : ∀ v' w', w'.ownsRow base e size v' (n + m) (xs ++ news) → w.grownBy w' v.ownBlock → K (a.put o.dst v') w') :
    if Region.wanted o (yielded ops a.tmps) = true then Oper.wp P o a w K Q else E := by
  have hw : Region.wanted o (yielded ops a.tmps) = true := by simp [Region.wanted, hgd]
  rw [if_pos hw]
  exact wp_append_own w s x t ho base e i z size bytes ht hi hz hsize hby hzs hsz v n xs hs hown ad m c news hx hl hnews h1 h63 hbytes hbase fun v' w' h2 h3 _ => h v' w' h2 h3
end Go.Proofs.YtohoeonfoolpdaaDoor
namespace Go.Proofs.YtohoeonfoolpdaaDoor
open Go.RowKit

theorem wpStill_hide {P : Program} {ops : Array Oper} {w : World} {Q : Act → Prop} {l : List Oper} {a : Act} (h : ∀ T : Act → Prop, Hid (∀ a, Q a → T a) → wpStill P ops w T l a) : wpStill P ops w Q l a :=
  h Q (Lib.hid (fun _ h => h))
end Go.Proofs.YtohoeonfoolpdaaDoor
namespace Go.Proofs.YtohoeonfoolpdaaDoor
open Go.RowKit
set_option linter.unusedVariables false

/-- One day more. -/
def sadd (s : R2) (x : Int) : R2 := if x = -9999 then s else (s.1 + x, s.2 + 1)
theorem su_sadd {zs : List Int} {k : Nat} (h : k < zs.length) : su zs (k + 1) = sadd (su zs k) (zs.getD k 0) := by
  by_cases hx : zs.getD k 0 = -9999
  · rw [sadd, if_pos hx]; exact (su_step h).1 hx
  · rw [sadd, if_neg hx]; exact (su_step h).2 hx
def sg2 (s : R2) : Value := .agg #[.int .i64 s.1, .int .i64 s.2]
theorem retSg {a b c d : Int} (h : a = c) (k : b = d) : Ending.returned (.agg #[.int .i64 a, .int .i64 b]) = .returned (.agg #[.int .i64 c, .int .i64 d]) := by rw [h, k]
set_option maxHeartbeats 1000000 in
theorem with_any (t m x : Int) (w : World) (t0 : -2000000 ≤ t) (t1 : t ≤ 2000000) (m0 : -2000000 ≤ m) (m1 : m ≤ 2000000) (x0 : -20000 ≤ x) (x1 : x ≤ 20000) :
    Calls Tryd.prog 42 #[.agg #[.int .i64 t, .int .i64 m], .int .i64 x] w fun e w' => e = .returned (.agg #[.int .i64 (sadd (t, m) x).1, .int .i64 (sadd (t, m) x).2]) ∧ Keep w w' := by
  by_cases hx : x = -9999
  · have e : sadd (t, m) x = (t, m) := by rw [sadd, if_pos hx]
    rw [e]
    subst hx
    go_enter Tryd.func42, Tryd.ntmps42
    go_wp2
    refine bodyPost_ret (v := .agg #[.int .i64 t, .int .i64 m]) (by simp [results, Tryd.results42, go_sem, *]) rfl ⟨rfl, ?_⟩
    first | exact ((Keep.refl w).alloc _).alloc _ | exact ((((Keep.refl w).alloc _).alloc _).setCell (by simp) _).setCell (by simp) _
  · have e : sadd (t, m) x = (t + x, m + 1) := by rw [sadd, if_neg hx]
    rw [e]
    have x9 : (x == -9999) = false := beq_eq_false_iff_ne.2 hx
    clear e hx
    go_enter Tryd.func42, Tryd.ntmps42
    go_wp2
    refine bodyPost_ret (v := .agg #[.int .i64 (t + x), .int .i64 (m + 1)]) (by simp [results, Tryd.results42, go_sem, *]) rfl ⟨rfl, ?_⟩
    first | exact ((Keep.refl w).alloc _).alloc _ | exact ((((Keep.refl w).alloc _).alloc _).setCell (by simp) _).setCell (by simp) _
set_option maxHeartbeats 1000000 in
theorem ladd_any (t m x : Int) (w : World) (t0 : -2000000 ≤ t) (t1 : t ≤ 2000000) (m0 : -2000000 ≤ m) (m1 : m ≤ 2000000) (x0 : -20000 ≤ x) (x1 : x ≤ 20000) :
    Calls Tryd.prog 36 #[.agg #[.int .i64 t, .int .i64 m], .int .i64 x] w fun e w' => e = .returned (.agg #[.int .i64 (sadd (t, m) x).1, .int .i64 (sadd (t, m) x).2]) ∧ Keep w w' := by
  by_cases hx : x = -9999
  · have e : sadd (t, m) x = (t, m) := by rw [sadd, if_pos hx]
    rw [e]
    subst hx
    go_enter Tryd.func36, Tryd.ntmps36
    go_wp2
    refine bodyPost_ret (v := .agg #[.int .i64 t, .int .i64 m]) (by simp [results, Tryd.results36, go_sem, *]) rfl ⟨rfl, ?_⟩
    first | exact ((Keep.refl w).alloc _).alloc _ | exact ((((Keep.refl w).alloc _).alloc _).setCell (by simp) _).setCell (by simp) _
  · have e : sadd (t, m) x = (t + x, m + 1) := by rw [sadd, if_neg hx]
    rw [e]
    have x9 : (x == -9999) = false := beq_eq_false_iff_ne.2 hx
    clear e hx
    go_enter Tryd.func36, Tryd.ntmps36
    go_wp2
    refine bodyPost_ret (v := .agg #[.int .i64 (t + x), .int .i64 (m + 1)]) (by simp [results, Tryd.results36, go_sem, *]) rfl ⟨rfl, ?_⟩
    first | exact ((Keep.refl w).alloc _).alloc _ | exact ((((Keep.refl w).alloc _).alloc _).setCell (by simp) _).setCell (by simp) _
/-- A ring of sums: block RB has the slice of block MB and how many were pushed; MB holds ss. -/
structure Ring (w : World) (RB MB n p : Nat) (ss : List R2) : Prop where
  c0 : w.cell? ⟨RB, 0, none⟩ = some (.slice (some ⟨MB, 0, none⟩) n n)
  c1 : w.cell? ⟨RB, 1, none⟩ = some (.int .i64 (p : Int))
  f1 : w.frozen? ⟨RB, 1, none⟩ = false
  ne : RB ≠ MB
  wr : WrU w MB ss
  ln : ss.length = n
theorem Ring.keep {w w' : World} {RB MB n p : Nat} {ss : List R2} (h : Ring w RB MB n p ss) (k : Keep w w') : Ring w' RB MB n p ss :=
  ⟨k.cell h.c0, k.cell h.c1, k.still h.c1 h.f1, h.ne, h.wr.keep k, h.ln⟩
/-- What a push turns: the two blocks of the ring, and new ones. -/
structure Two (RB MB : Nat) (w w' : World) : Prop where
  os : w'.os = w.os
  tape : w'.tape = w.tape
  output : w'.output = w.output
  size : w.heap.size ≤ w'.heap.size
  block : ∀ k, k < w.heap.size → k ≠ RB → k ≠ MB → w'.heap[k]? = w.heap[k]?
theorem Two.refl (RB MB : Nat) (w : World) : Two RB MB w w := ⟨rfl, rfl, rfl, Nat.le_refl _, fun _ _ _ _ => rfl⟩
theorem Two.trans {RB MB : Nat} {a b c : World} (h : Two RB MB a b) (k : Two RB MB b c) : Two RB MB a c :=
  ⟨k.os.trans h.os, k.tape.trans h.tape, k.output.trans h.output, Nat.le_trans h.size k.size, fun i hi h1 h2 => (k.block i (Nat.lt_of_lt_of_le hi h.size) h1 h2).trans (h.block i hi h1 h2)⟩
theorem Keep.two {RB MB : Nat} {w w' : World} (h : Keep w w') : Two RB MB w w' := ⟨Below.os h, Below.tape h, Below.output h, Below.size h, fun i hi _ _ => Below.block h i hi⟩
theorem Two.setL {RB MB o : Nat} {a w : World} (h : Two RB MB a w) (u : Value) : Two RB MB a (w.setCell ⟨RB, o, none⟩ u) :=
  ⟨h.os, h.tape, h.output, by have := h.size; simpa [World.setCell] using this, fun k hk h1 h2 => (Below.heap_setCell _ _ _ _ (by intro e; exact h1 (by rw [e]))).trans (h.block k hk h1 h2)⟩
theorem Two.setR {RB MB o : Nat} {a w : World} (h : Two RB MB a w) (u : Value) : Two RB MB a (w.setCell ⟨MB, o, none⟩ u) :=
  ⟨h.os, h.tape, h.output, by have := h.size; simpa [World.setCell] using this, fun k hk h1 h2 => (Below.heap_setCell _ _ _ _ (by intro e; exact h2 (by rw [e]))).trans (h.block k hk h1 h2)⟩
theorem Two.cell {RB MB : Nat} {w w' : World} (h : Two RB MB w w') {b o : Nat} {v : Value} (hc : w.cell? ⟨b, o, none⟩ = some v) (h1 : b ≠ RB) (h2 : b ≠ MB) : w'.cell? ⟨b, o, none⟩ = some v :=
  (World.cell?_of_block (w := w) (h.block b (World.block_lt_of_cell? w _ hc) h1 h2)).trans hc
theorem Two.still {RB MB : Nat} {w w' : World} (h : Two RB MB w w') {b o : Nat} {v : Value} {x : Bool} (hc : w.cell? ⟨b, o, none⟩ = some v) (hf : w.frozen? ⟨b, o, none⟩ = x) (h1 : b ≠ RB) (h2 : b ≠ MB) : w'.frozen? ⟨b, o, none⟩ = x :=
  (World.frozen?_of_block (w := w) (h.block b (World.block_lt_of_cell? w _ hc) h1 h2)).trans hf
theorem Two.keep {RB MB : Nat} {a w w' : World} (h : Two RB MB w w') (k : Keep a w) (h1 : a.heap.size ≤ RB) (h2 : a.heap.size ≤ MB) : Keep a w' :=
  ⟨h.os.trans (Below.os k), h.tape.trans (Below.tape k), h.output.trans (Below.output k), Nat.le_trans (Below.size k) h.size, fun i hi => (h.block i (Nat.lt_of_lt_of_le hi (Below.size k)) (by omega) (by omega)).trans (Below.block k i hi)⟩
theorem Ring.other {w : World} {RB MB n p B o : Nat} {ss : List R2} {u : Value} (h : Ring w RB MB n p ss) (h1 : B ≠ RB) (h2 : B ≠ MB) : Ring (w.setCell ⟨B, o, none⟩ u) RB MB n p ss := by
  obtain ⟨c0, c1, f1, hne, hw, hl⟩ := h
  refine ⟨?_, ?_, ?_, hne, fun j hj => ?_, hl⟩
  · rw [World.cell?_setCell_other _ _ _ _ (by intro e; simp only [Addr.mk.injEq] at e; omega)]; exact c0
  · rw [World.cell?_setCell_other _ _ _ _ (by intro e; simp only [Addr.mk.injEq] at e; omega)]; exact c1
  · rw [World.frozen?_setCell]; exact f1
  · obtain ⟨⟨a, b⟩, ⟨c, d⟩⟩ := hw j hj
    refine ⟨⟨?_, ?_⟩, ⟨?_, ?_⟩⟩
    · rw [World.cell?_setCell_other _ _ _ _ (by intro e; simp only [Addr.mk.injEq] at e; omega)]; exact a
    · rw [World.cell?_setCell_other _ _ _ _ (by intro e; simp only [Addr.mk.injEq] at e; omega)]; exact b
    · rw [World.frozen?_setCell]; exact c
    · rw [World.frozen?_setCell]; exact d
set_option maxHeartbeats 1000000 in
theorem newRing (n : Nat) (w : World) (hn : n ≤ 1048576) :
    Calls Tryd.prog 29 #[.int .i64 (n : Int)] w fun e w' => e = .returned (.pointer (some ⟨w.heap.size + 1, 0, none⟩)) ∧ Ring w' (w.heap.size + 1) w.heap.size n 0 (List.replicate n u0) ∧ Keep w w' ∧ w.heap.size + 1 < w'.heap.size := by
  have hmk := fun W => run_make_ranges n hn W
  go_enter Tryd.func29, Tryd.ntmps29
  go_wp2
  go_ret
  refine ⟨rfl, ⟨by go_simp, by go_simp, by go_simp, by omega, ?_, by simp⟩, ((Keep.refl w).alloc _).alloc _, by simp⟩
  intro j hj
  have hj' : j < n := by simpa using hj
  have e : (List.replicate n u0).getD j u0 = u0 := by simp [List.getD_eq_getElem?_getD, hj']
  rw [e]
  have hk : Keep (w.alloc (.cells (madeCells #[Value.int .i64 0, .int .i64 0] (n * 2)) 31)) ((w.alloc (.cells (madeCells #[Value.int .i64 0, .int .i64 0] (n * 2)) 31)).alloc (.cells #[.slice (some ⟨w.heap.size, 0, none⟩) n n, .int .i64 0] 76)) := (Keep.refl _).alloc _
  exact ⟨⟨hk.new _ (made2_at _ _ (by omega)), hk.new _ (made2_at _ _ (by omega))⟩, ⟨hk.fresh _, hk.fresh _⟩⟩
theorem wrU_other {w : World} {B g o : Nat} {ys : List R2} {u : Value} (hne : B ≠ g) (h : WrU w g ys) : WrU (w.setCell ⟨B, o, none⟩ u) g ys := fun j hj => by
  obtain ⟨⟨a, b⟩, ⟨c, d⟩⟩ := h j hj
  refine ⟨⟨?_, ?_⟩, ⟨?_, ?_⟩⟩
  · rw [World.cell?_setCell_other _ _ _ _ (by intro e; simp only [Addr.mk.injEq] at e; omega)]; exact a
  · rw [World.cell?_setCell_other _ _ _ _ (by intro e; simp only [Addr.mk.injEq] at e; omega)]; exact b
  · rw [World.frozen?_setCell]; exact c
  · rw [World.frozen?_setCell]; exact d
set_option maxRecDepth 100000 in
set_option maxHeartbeats 2000000 in
theorem push_any (RB MB n p q : Nat) (ss : List R2) (s : R2) (w : World) (h : Ring w RB MB n p ss) (hn : 0 < n) (hn2 : n ≤ 1000) (hp : p ≤ 100000) (hq : p % n = q) :
    Calls Tryd.prog 30 #[.pointer (some ⟨RB, 0, none⟩), .agg #[.int .i64 (uL s), .int .i64 (uH s)]] w fun e w' => e = .returned (.tuple #[]) ∧ Ring w' RB MB n (p + 1) (ss.set q s) ∧ Two RB MB w w' := by
  have hR := Lib.hid h
  obtain ⟨c0, c1, f1, hne, hw, hl⟩ := h
  have hqn : q < n := by rw [← hq]; exact Nat.mod_lt _ hn
  have ht : Int.tmod (p : Int) (n : Int) = (q : Int) := by rw [← hq]; exact (Int.ofNat_tmod p n).symm
  have ht2 : (p : Int) % (n : Int) = (q : Int) := by omega
  have qw : IntKind.i64.wrap (q : Int) = (q : Int) := IntWalk.i64_in _ ⟨by omega, by omega⟩
  have n0 : ((n : Int) == 0) = false := beq_eq_false_iff_ne.2 (by omega)
  have n1 : ¬ ((n : Int) = 0) := by omega
  have n2 : (n : Int) ≠ -1 := by omega
  have n3 : ¬ (n = 0) := by omega
  have pw : IntKind.i64.wrap ((p : Int) + 1) = (p : Int) + 1 := IntWalk.i64_in _ ⟨by omega, by omega⟩
  have q0 : (0 : Int) ≤ (q : Int) := by omega
  have q1 : (q : Int) < (n : Int) := by omega
  obtain ⟨⟨x0, x1⟩, ⟨y0, y1⟩⟩ := hw q (by omega)
  have HW := Lib.hid (hw.set (k := q) (by omega) s)
  have hMB : MB < w.heap.size := World.block_lt_of_cell? w _ x0
  have hRB : RB < w.heap.size := World.block_lt_of_cell? w _ c0
  have hne' : MB ≠ RB := fun e => hne e.symm
  have HL := Lib.hid hl
  have kA : Keep w (w.alloc (.cells #[.int .i64 (uL s), .int .i64 (uH s)] 31)) := (Keep.refl w).alloc _
  have C0 := kA.cell c0
  have C1 := kA.cell c1
  have F1 := kA.still c1 f1
  have X0 := kA.cell x0
  have X1 := kA.cell x1
  have Y0 := kA.still x0 y0
  have Y1 := kA.still x1 y1
  have B0 : (w.alloc (.cells #[.int .i64 (uL s), .int .i64 (uH s)] 31)).cell? ⟨w.heap.size, 0, none⟩ = some (.int .i64 (uL s)) := World.cell?_alloc_new w _ _ 0
  have B1 : (w.alloc (.cells #[.int .i64 (uL s), .int .i64 (uH s)] 31)).cell? ⟨w.heap.size, 1, none⟩ = some (.int .i64 (uH s)) := World.cell?_alloc_new w _ _ 1
  clear hw hl hq
  go_enter Tryd.func30, Tryd.ntmps30
  go_wp2_with fail
  refine wp_region_still_tail 16 (by kernel_rfl) (by kernel_rfl) ?_
  simp only [List.take_succ_cons, List.take_zero, List.drop_succ_cons, List.drop_zero]
  change wpStill _ _ (w.alloc _).drew _ _ _
  refine wpStill_hide (fun T hT => ?_)
  repeat still_step
  refine wpStill_nil ?_
  refine hT.out _ ?_
  clear hT
  change wpList _ _ _ _ _ (w.alloc _).drew
  go_wp2_with fail
  go_end0
  refine ⟨rfl, ⟨by go_simp, by go_simp, by go_simp, hne, (wrU_other hne HW.out).keep (((Keep.refl _).alloc _).drew), by rw [List.length_set]; exact HL.out⟩, ?_⟩
  exact (((((Two.refl RB MB w).setR _).setR _).setL _).trans (Keep.two ((Keep.refl _).alloc _).drew))
/-- What the ring keeps, the oldest first. -/
def keptL (ss : List R2) (n p : Nat) : List R2 := (List.range (p - (p - n))).map fun j => ss.getD ((p - n + j) % n) u0
theorem keptL_len (ss : List R2) (n p : Nat) : (keptL ss n p).length = p - (p - n) := by simp [keptL]
theorem keptL_snoc {ss : List R2} {n p k : Nat} (h : k < p - (p - n)) : (keptL ss n p).take (k + 1) = (keptL ss n p).take k ++ [ss.getD ((p - n + k) % n) u0] := by
  rw [List.take_succ_eq_append_getElem (by rw [keptL_len]; exact h)]; simp [keptL]
def NwU (L : List R2) (w : World) (e : Ending) (w' : World) : Prop := ∃ (a : Option Addr) (c : Nat), e = .returned (.slice a L.length c) ∧ L.length ≤ c ∧ FrU w w' a L ∧ Keep w w'
theorem ownU_nil (w : World) (base : Nat) : OwnU w base (.slice none 0 0) [] := World.ownsRow_nil _ _ _ _
theorem nwU_own {L : List R2} {w w' : World} {base n c : Nat} {x : Option Addr} (h : OwnU w' base (.slice x n c) L) (hb : w.heap.size ≤ base) (k : Keep w w') : NwU L w (.returned (.slice x n c)) w' := by
  by_cases h0 : 0 < L.length
  · obtain ⟨g, c', hv, hc, hg, hl, hW⟩ := h.form h0
    injection hv with e1 e2 e3
    subst e1; subst e2; subst e3
    exact ⟨_, c, rfl, hc, .inr ⟨g, rfl, by omega, hl, hW⟩, k⟩
  · obtain ⟨a', c', hv, hc, _⟩ := h.slice
    injection hv with e1 e2 e3
    subst e1; subst e2; subst e3
    exact ⟨_, _, rfl, hc, .inl (List.eq_nil_of_length_eq_zero (by omega)), k⟩
set_option maxRecDepth 100000 in
set_option maxHeartbeats 4000000 in
theorem kept_any (RB MB n p : Nat) (ss : List R2) (w : World) (h : Ring w RB MB n p ss) (hn : 0 < n) (hn2 : n ≤ 1000) (hp : p ≤ 100000) :
    Calls Tryd.prog 33 #[.pointer (some ⟨RB, 0, none⟩)] w (NwU (keptL ss n p) w) := by
  obtain ⟨i0, hi0, hz0, hz1, hz2⟩ := info_parts infoRng
  obtain ⟨f, hf⟩ : ∃ f, p - n = f := ⟨_, rfl⟩
  have hfi : max ((p : Int) - (n : Int)) 0 = (f : Int) := by omega
  have HLn : Hid ((keptL ss n p).length = p - f) := Lib.hid (by rw [keptL_len, hf])
  have HS := Lib.hid (fun (k : Nat) (hk : k < p - f) => keptL_snoc (ss := ss) (n := n) (p := p) (k := k) (by rw [hf]; exact hk))
  rw [hf] at HS
  have hfp : f ≤ p := by omega
  clear hf
  have pnw : IntKind.i64.wrap ((p : Int) - (n : Int)) = (p : Int) - (n : Int) := IntWalk.i64_in _ ⟨by omega, by omega⟩
  obtain ⟨c0, c1, f1, hne, hw, hl⟩ := id h
  have HR := Lib.hid h
  have HWr := Lib.hid hw
  have HL := Lib.hid hl
  clear h hw hl
  go_enter Tryd.func33, Tryd.ntmps33
  go_wp2_with fail
  go_quiet (fail)
  go_wp2_with fail
  all_goals
    go_loopw [3, 4] (fun u i wr => ∃ (k : Nat) (x : Option Addr) (cx : Nat), k ≤ p - f ∧ i = .int .i64 ((f + k : Nat) : Int) ∧ u = .slice x k cx ∧ Hid (OwnU wr w.heap.size (.slice x k cx) ((keptL ss n p).take k)) ∧ Keep w wr) (fun _ i _ => p - (intOf i).toNat)
    case atStart => exact ⟨0, none, 0, by omega, by first | rfl | (congr 1; omega), rfl, Lib.hid (ownU_nil _ _), (Keep.refl w).drewN _⟩
    case round =>
      obtain ⟨k, x, cx, hk, rfl, rfl, HO, hK⟩ := hrel
      have hsz := hK.size
      obtain ⟨i, hi⟩ : ∃ i, f + k = i := ⟨_, rfl⟩
      rw [hi]
      have c0' := hK.cell c0
      have c1' := hK.cell c1
      have i0' : (0 : Int) ≤ (i : Int) := by omega
      by_cases hlt : i < p
      · have HSk := Lib.hid (HS.out k (by omega))
        rw [hi] at HSk
        obtain ⟨q, hq⟩ : ∃ q, i % n = q := ⟨_, rfl⟩
        rw [hq] at HSk
        have hqn : q < n := by rw [← hq]; exact Nat.mod_lt _ hn
        have ht : Int.tmod (i : Int) (n : Int) = (q : Int) := by rw [← hq]; exact (Int.ofNat_tmod i n).symm
        have ht2 : (i : Int) % (n : Int) = (q : Int) := by omega
        have qw : IntKind.i64.wrap (q : Int) = (q : Int) := IntWalk.i64_in _ ⟨by omega, by omega⟩
        have n0 : ((n : Int) == 0) = false := beq_eq_false_iff_ne.2 (by omega)
        have n1 : ¬ ((n : Int) = 0) := by omega
        have n2 : (n : Int) ≠ -1 := by omega
        have n3 : ¬ (n = 0) := by omega
        have q0 : (0 : Int) ≤ (q : Int) := by omega
        have q1 : (q : Int) < (n : Int) := by omega
        have dlt : decide (i < p) = true := decide_eq_true hlt
        obtain ⟨⟨x0, x1⟩, _⟩ := (HWr.out.keep hK) q (by rw [HL.out]; exact hqn)
        generalize ss.getD q u0 = s at *
        obtain ⟨L, hL⟩ : ∃ L, (keptL ss n p).take k = L := ⟨_, rfl⟩
        have HLk : Hid (L.length = k) := Lib.hid (by rw [← hL, List.length_take, HLn.out]; omega)
        rw [hL] at HO HSk
        clear hL hq
        have hownD : (wr.alloc (.cells #[.int .i64 (uL s), .int .i64 (uH s)] 31)).drew.ownsRow w.heap.size 31 2 (.slice x k cx) k (flatU L) := by
          have h9 := (HO.out).keep (((Keep.refl wr).alloc (.cells #[.int .i64 (uL s), .int .i64 (uH s)] 31)).drew)
          unfold OwnU at h9
          rw [HLk.out] at h9
          exact h9
        have hNews : ∀ j u, (uc s)[j]? = some u → (wr.alloc (.cells #[.int .i64 (uL s), .int .i64 (uH s)] 31)).drew.cell? ((⟨wr.heap.size, 0, none⟩ : Addr).add j) = some u :=
          newsU_one (r := s) (⟨World.cell?_alloc_new wr _ _ 0, World.cell?_alloc_new wr _ _ 1⟩ : At2 (wr.alloc (.cells #[.int .i64 (uL s), .int .i64 (uH s)] 31)).drew wr.heap.size 0 s)
        have HEnd : Hid (∀ (w9 : World) (v' : Value), w9.ownsRow w.heap.size 31 2 v' (k + 1) (flatU L ++ uc s) → ∃ x' c', v' = .slice x' (k + 1) c' ∧ Hid (OwnU w9 w.heap.size (.slice x' (k + 1) c') ((keptL ss n p).take (k + 1)))) := Lib.hid (fun w9 v' ho => by
          have h9 : OwnU w9 w.heap.size v' (L ++ [s]) := by
            unfold OwnU
            rw [flatU_app, flatU_one, List.length_append, HLk.out]
            exact ho
          obtain ⟨g', c', hv, hc', _, _, _⟩ := h9.form (by simp)
          rw [List.length_append, HLk.out] at hv
          subst hv
          exact ⟨_, c', rfl, Lib.hid (by rw [HSk.out]; exact h9)⟩)
        go_wp2_with fail
        go_region_law (
          (refine step_app_ownA rfl _ _ _ rfl w.heap.size 31 i0 _ 2 16 Tryd.underlying41 hi0 hz0 hz1 hz2 rfl (by decide) (.slice x k cx) k (flatU L) rfl hownD ⟨wr.heap.size, 0, none⟩ 1 1 (uc s) rfl rfl hNews (uc_one s) (by unfold maxLen; omega) (by omega) (by first | omega | (simp; omega)) ?_
           intro v' w9 hown' hgrow))
        all_goals
          have HK2 : Hid (Keep w w9) := Lib.hid (Below.grown (hK.alloc (.cells #[.int .i64 (uL s), .int .i64 (uH s)] 31)).drew hgrow (hK.alloc (.cells #[.int .i64 (uL s), .int .i64 (uH s)] 31)).drew.size (fun q hq => (hownD.lt q hq).1))
          obtain ⟨x', c', rfl, HN2⟩ := HEnd.out w9 v' hown'
          clear hgrow hownD hown'
          go_wp2
          go_roundw
          case rel => exact ⟨k + 1, x', c', by omega, by first | (congr 1; omega) | (go_num), rfl, HN2, HK2.out⟩
          case measure => simp [intOf]; omega
      · have dlt : decide (i < p) = false := decide_eq_false hlt
        have hkp : k = p - f := by omega
        have HF : Hid (OwnU wr w.heap.size (.slice x k cx) (keptL ss n p)) := Lib.hid (by
          have h1 := HO.out
          rw [List.take_of_length_le (by rw [HLn.out]; omega)] at h1
          exact h1)
        clear hkp
        go_wp2
        go_ret
        exact nwU_own HF.out (Nat.le_refl _) hK
/-- A new slice of sums and a bool. -/
def NwUB (L : List R2) (b : Bool) (w : World) (e : Ending) (w' : World) : Prop := ∃ (a : Option Addr) (c : Nat), e = .returned (.tuple #[.slice a L.length c, .bool b]) ∧ L.length ≤ c ∧ FrU w w' a L ∧ Keep w w'
theorem kept_full {L : List R2} {n : Nat} (h : L.length = n) : keptL L n n = L := by
  apply List.ext_getElem
  · rw [keptL_len]; omega
  · intro i h1 h2
    simp only [keptL, List.getElem_map, List.getElem_range, Nat.sub_self, Nat.zero_add]
    rw [Nat.mod_eq_of_lt (by omega)]
    simp [List.getD_eq_getElem?_getD, h2]
theorem fill_set {L : List R2} {n k : Nat} (hl : L.length = n) (hk : k < n) : (L.take k ++ List.replicate (n - k) u0).set k (L.getD k u0) = L.take (k + 1) ++ List.replicate (n - (k + 1)) u0 := by
  have e : List.replicate (n - k) u0 = u0 :: List.replicate (n - (k + 1)) u0 := by
    rw [← List.replicate_succ]; congr 1; omega
  have hg : L.getD k u0 = L[k] := by simp [List.getD_eq_getElem?_getD, show k < L.length by omega]
  have ht : (L.take k).length = k := by rw [List.length_take]; omega
  rw [e, List.set_append_right _ _ (by omega), ht, Nat.sub_self, List.set_cons_zero, hg, List.take_succ_eq_append_getElem (by omega), List.append_assoc]
  rfl
set_option maxRecDepth 100000 in
set_option maxHeartbeats 4000000 in
theorem su_impl (a : Option Addr) (cap : Nat) (zs : List Int) (w : World) (h : Ls w a zs) (hm : zs.length ≤ 1048576) :
    Calls Tryd.prog 15 #[.slice a zs.length cap] w (NwUB (suL zs) (sqB zs) w) := by
  have HQ := Lib.hid (sqv_impl a cap zs w h (by omega))
  rcases Bool.eq_false_or_eq_true (sqB zs) with hs | hs
  case' inr =>
    have HN := Lib.hid (And.intro (suL_no hs) hs)
    rw [hs] at HQ
    clear hs
    go_enter Tryd.func15, Tryd.ntmps15
    go_wp2_with fail
    refine HQ.out.mono ?_
    rintro e w1 ⟨rfl, rfl⟩
    go_wp2
    go_ret2
    rw [HN.out.1, HN.out.2]
    exact ⟨none, 0, rfl, Nat.le_refl _, .inl rfl, Keep.refl _⟩
  have HY := Lib.hid (And.intro (suL_yes hs) hs)
  have hl := (sq_facts hs).2
  have HAt := Lib.hid (fun (k : Nat) (hk : k < zs.length) => sq_at hs hk)
  have HBd := Lib.hid (fun (k : Nat) (hk : k ≤ zs.length) => su_bd hs hk)
  have HStep := Lib.hid (fun (k : Nat) (hk : k < zs.length) => su_sadd (zs := zs) hk)
  have HG := Lib.hid (fun (k : Nat) (hk : k ≤ zs.length) => sul_at (zs := zs) hk)
  obtain ⟨n, hn⟩ : ∃ n, zs.length + 1 = n := ⟨_, rfl⟩
  have ne : (zs.length : Int) + 1 = (n : Int) := by omega
  have HLn : Hid ((sul zs).length = n) := Lib.hid (by rw [sul_len, hn])
  have hn13 : n ≤ 13 := by omega
  have hn2 : 2 ≤ n := by omega
  have HN1 := Lib.hid hn
  rw [hs] at HQ
  clear hs hn
  go_enter Tryd.func15, Tryd.ntmps15
  go_wp2_with fail
  refine HQ.out.mono ?_
  rintro e w1 ⟨rfl, rfl⟩
  go_wp2_with fail
  refine (newRing n _ (by omega)).mono ?_
  rintro e w2 ⟨rfl, hR, k2, hs2⟩
  have hRA := hR.keep ((Keep.refl w2).alloc (.cells #[.int .i64 0, .int .i64 0] 31))
  have t0 : (w2.alloc (.cells #[.int .i64 0, .int .i64 0] 31)).cell? ⟨w2.heap.size, 0, none⟩ = some (.int .i64 0) := World.cell?_alloc_new w2 _ _ 0
  have t1 : (w2.alloc (.cells #[.int .i64 0, .int .i64 0] 31)).cell? ⟨w2.heap.size, 1, none⟩ = some (.int .i64 0) := World.cell?_alloc_new w2 _ _ 1
  have tf0 : (w2.alloc (.cells #[.int .i64 0, .int .i64 0] 31)).frozen? ⟨w2.heap.size, 0, none⟩ = false := World.frozen?_alloc_at _ _ _ _ rfl
  have tf1 : (w2.alloc (.cells #[.int .i64 0, .int .i64 0] 31)).frozen? ⟨w2.heap.size, 1, none⟩ = false := World.frozen?_alloc_at _ _ _ _ rfl
  obtain ⟨TB, hTB⟩ : ∃ TB, w2.heap.size = TB := ⟨_, rfl⟩
  rw [hTB] at t0 t1 tf0 tf1 hs2
  have hK2 : Keep w (w2.alloc (.cells #[.int .i64 0, .int .i64 0] 31)) := k2.alloc _
  have hT1 : TB ≠ w.heap.size + 1 := by omega
  have hT2 : TB ≠ w.heap.size := by omega
  have hTw : w.heap.size ≤ TB := by omega
  have hpush := fun W (h : Ring W (w.heap.size + 1) w.heap.size n 0 (List.replicate n u0)) => push_any (w.heap.size + 1) w.heap.size n 0 0 (List.replicate n u0) (0, 0) W h (by omega) (by omega) (by omega) (by simp)
  go_wp2_with fail
  clear hTB
  refine (hpush _ hRA).mono ?_
  rintro e w3 ⟨rfl, hR3, h2w3⟩
  have T0 := h2w3.cell t0 hT1 hT2
  have T1 := h2w3.cell t1 hT1 hT2
  have TF0 := h2w3.still t0 tf0 hT1 hT2
  have TF1 := h2w3.still t1 tf1 hT1 hT2
  have hK3 := h2w3.keep hK2 (by omega) (Nat.le_refl _)
  have hRep : (List.replicate n u0).set 0 ((0, 0) : R2) = (sul zs).take 1 ++ List.replicate (n - 1) u0 := by
    have e := fill_set (L := sul zs) (n := n) (k := 0) HLn.out (by omega)
    have e2 : (sul zs).getD 0 u0 = (0, 0) := HG.out 0 (by omega)
    rw [e2] at e
    simpa using e
  rw [hRep] at hR3
  clear hRep hpush hRA hR t0 t1 tf0 tf1 h2w3 hK2
  have hR3' : Hid (Ring w3 (w.heap.size + 1) w.heap.size n 1 ((sul zs).take 1 ++ List.replicate (n - 1) u0)) := Lib.hid hR3
  clear hR3
  go_wp2_with fail
  go_loopw [21] (fun i wr => ∃ k : Nat, k ≤ zs.length ∧ i = .int .i64 k ∧ Hid (Ring wr (w.heap.size + 1) w.heap.size n (k + 1) ((sul zs).take (k + 1) ++ List.replicate (n - (k + 1)) u0)) ∧
      (wr.cell? ⟨TB, 0, none⟩ = some (.int .i64 (su zs k).1) ∧ wr.cell? ⟨TB, 1, none⟩ = some (.int .i64 (su zs k).2)) ∧ (wr.frozen? ⟨TB, 0, none⟩ = false ∧ wr.frozen? ⟨TB, 1, none⟩ = false) ∧ Keep w wr) (fun i _ => zs.length - (intOf i).toNat)
  case atStart => exact ⟨0, by omega, rfl, hR3', ⟨T0, T1⟩, ⟨TF0, TF1⟩, hK3⟩
  case round =>
    obtain ⟨k, hk, rfl, HR, ⟨c0, c1⟩, ⟨f0, f1⟩, hK⟩ := hrel
    clear T0 T1 TF0 TF1 hK3 hR3'
    by_cases hlt : k < zs.length
    · obtain ⟨b, off, rfl, hb, cz⟩ := (h.keep hK).at_ hlt
      have bx := HAt.out k hlt
      obtain ⟨⟨b0, b1⟩, b2, b3⟩ := HBd.out k hk
      have HS := Lib.hid (HStep.out k hlt)
      have HG1 := Lib.hid (HG.out (k + 1) (by omega))
      obtain ⟨⟨d0, d1⟩, d2, d3⟩ := HBd.out (k + 1) (by omega)
      rw [HStep.out k hlt] at d0 d1 d2 d3
      have k0 : (0 : Int) ≤ (k : Int) := by omega
      have kz : (k : Int) < (zs.length : Int) := by omega
      generalize su zs k = s0 at *
      generalize zs.getD k 0 = x at *
      obtain ⟨t, m⟩ := s0
      dsimp only at c0 c1 b0 b1 b2 b3
      have HSa : Hid (su zs (k + 1) = sadd (t, m) x) := HS
      obtain ⟨s1, hs1⟩ : ∃ s1, sadd (t, m) x = s1 := ⟨_, rfl⟩
      have HW := Lib.hid (fun W => with_any t m x W (by omega) (by omega) (by omega) (by omega) (by omega) (by omega))
      rw [hs1] at HW HSa
      obtain ⟨t', m'⟩ := s1
      clear hs1 HS d0 d1 d2 d3
      go_wp2_with fail
      refine (HW.out _).mono ?_
      rintro e w5 ⟨rfl, k5⟩
      have e0 := k5.cell c0
      have e1 := k5.cell c1
      have g0 := k5.still c0 f0
      have g1 := k5.still c1 f1
      have HR5 := Lib.hid (((HR.out.keep k5).other (B := TB) (o := 0) (u := .int .i64 t') hT1 hT2).other (B := TB) (o := 1) (u := .int .i64 m') hT1 hT2)
      have hfill := fill_set (L := sul zs) (n := n) (k := k + 1) HLn.out (by have := HN1.out; omega)
      have hg1 : (sul zs).getD (k + 1) u0 = (t', m') := (HG1.out).trans HSa.out
      rw [hg1] at hfill
      have hpush := fun W (h : Ring W (w.heap.size + 1) w.heap.size n (k + 1) ((sul zs).take (k + 1) ++ List.replicate (n - (k + 1)) u0)) => push_any (w.heap.size + 1) w.heap.size n (k + 1) (k + 1) _ (t', m') W h (by omega) (by omega) (by omega) (Nat.mod_eq_of_lt (by have := HN1.out; omega))
      rw [hfill] at hpush
      have HPush := Lib.hid hpush
      clear hpush hfill hg1
      go_wp2_with fail
      refine (HPush.out _ HR5.out).mono ?_
      rintro e w6 ⟨rfl, hR6, h26⟩
      have q0 : w6.cell? ⟨TB, 0, none⟩ = some (.int .i64 t') := h26.cell (by go_simp) hT1 hT2
      have q1 : w6.cell? ⟨TB, 1, none⟩ = some (.int .i64 m') := h26.cell (by go_simp) hT1 hT2
      have r0 : w6.frozen? ⟨TB, 0, none⟩ = false := h26.still (v := .int .i64 t') (by go_simp) (by go_simp) hT1 hT2
      have r1 : w6.frozen? ⟨TB, 1, none⟩ = false := h26.still (v := .int .i64 m') (by go_simp) (by go_simp) hT1 hT2
      have hK6 : Keep w w6 := h26.keep (((hK.trans k5).setCell hTw _).setCell hTw _) (by omega) (Nat.le_refl _)
      have HR6 := Lib.hid hR6
      clear hR6 HR5 HR HPush
      go_wp2
      go_roundw
      case rel => exact ⟨k + 1, by omega, by go_num, HR6, by rw [HSa.out]; exact ⟨q0, q1⟩, ⟨r0, r1⟩, hK6⟩
      case measure => simp [intOf]; omega
    · obtain rfl : k = zs.length := by omega
      have HRf : Hid (Ring wr (w.heap.size + 1) w.heap.size n n (sul zs)) := Lib.hid (by
        have h1 := HR.out
        have hnn := HN1.out
        rw [hnn, List.take_of_length_le (by rw [HLn.out]; exact Nat.le_refl _), Nat.sub_self] at h1
        simpa using h1)
      have HKp := Lib.hid (kept_any (w.heap.size + 1) w.heap.size n n (sul zs) wr HRf.out (by omega) (by omega) (by omega))
      rw [kept_full HLn.out] at HKp
      go_wp2_with fail
      refine HKp.out.mono ?_
      rintro e w7 ⟨x7, c7, rfl, hc7, hF7, k7⟩
      go_wp2
      go_ret2
      rw [HY.out.1, HY.out.2]
      exact ⟨x7, c7, rfl, hc7, hF7.mono hK.size, hK.trans k7⟩
end Go.Proofs.YtohoeonfoolpdaaDoor
namespace Go.Proofs.YtohoeonfoolpdaaDoor
open Go.RowKit
set_option linter.unusedVariables false

/-- The date of a day. -/
noncomputable def dOf (n c : Int) : Int × Int × Int :=
  open Classical in if h : ∃ t : Int × Int × Int, dv t.1 t.2.1 t.2.2 c = true ∧ dn t.1 t.2.1 t.2.2 c = n then Classical.choose h else (0, 0, 0)
theorem dOf_of {n c y m d : Int} (h1 : dv y m d c = true) (h2 : dn y m d c = n) : dOf n c = (y, m, d) := by
  have h : ∃ t : Int × Int × Int, dv t.1 t.2.1 t.2.2 c = true ∧ dn t.1 t.2.1 t.2.2 c = n := ⟨(y, m, d), h1, h2⟩
  rw [dOf, dif_pos h]
  obtain ⟨a, b⟩ := Classical.choose_spec h
  obtain ⟨e1, e2, e3⟩ := dn_inj a h1 (b.trans h2.symm)
  exact Prod.ext e1 (Prod.ext e2 e3)
/-- Day behind day: the same month, or the next one. -/
def Nx (a b : Int × Int × Int) (c : Int) : Prop :=
  (a.2.2 ≠ mlen a.1 a.2.1 c ∧ b.1 = a.1 ∧ b.2.1 = a.2.1 ∧ b.2.2 = a.2.2 + 1) ∨ (a.2.2 = mlen a.1 a.2.1 c ∧ b.2.2 = 1 ∧ ((a.2.1 < 12 ∧ b.1 = a.1 ∧ b.2.1 = a.2.1 + 1) ∨ (a.2.1 = 12 ∧ b.1 = a.1 + 1 ∧ b.2.1 = 1)))
theorem dv_next {y m d c y' m' d' : Int} (h : dv y m d c = true) (h' : dv y' m' d' c = true) (e : dn y' m' d' c = dn y m d c + 1) : Nx (y, m, d) (y', m', d') c := by
  have hf := dv_facts h
  rcases later 1 (by omega) (by omega) h with ⟨h1, h2, h3⟩ | ⟨h1, h1b, h2, h3⟩ | ⟨h1, h1b, h1c, h2, h3⟩ | ⟨h1, h1b, h1c, h2⟩
  · obtain ⟨rfl, rfl, rfl⟩ := dn_inj h' h2 (e.trans h3.symm)
    exact .inl ⟨by dsimp only; omega, rfl, rfl, rfl⟩
  · obtain ⟨rfl, rfl, e3⟩ := dn_inj h' h2 (e.trans h3.symm)
    exact .inr ⟨by dsimp only; omega, by dsimp only; omega, .inl ⟨h1b, rfl, rfl⟩⟩
  · obtain ⟨rfl, rfl, e3⟩ := dn_inj h' h2 (e.trans h3.symm)
    exact .inr ⟨by dsimp only; omega, by dsimp only; omega, .inr ⟨h1b, rfl, rfl⟩⟩
  · have := dn_ok h'
    rw [e, h2] at this; cases this
theorem Nx.month {a b : Int × Int × Int} {c : Int} (h : Nx a b c) (ha : 1 ≤ a.2.1) : (a.2.2 ≠ mlen a.1 a.2.1 c → b.1 = a.1 ∧ b.2.1 = a.2.1) ∧ (a.2.2 = mlen a.1 a.2.1 c → b.2.1 ≠ a.2.1) := by
  rcases h with ⟨h1, h2, h3, _⟩ | ⟨h1, _, ⟨h2, h3, h4⟩ | ⟨h2, h3, h4⟩⟩
  · exact ⟨fun _ => ⟨h2, h3⟩, fun e => absurd e h1⟩
  · exact ⟨fun e => absurd h1 e, fun _ => by omega⟩
  · exact ⟨fun e => absurd h1 e, fun _ => by omega⟩

/-- The months of the first k days, as the model has them; dates by 'dt'. -/
def mthPut (L : List R4) (t : Int × Int × Int) (z : Int) : List R4 :=
  match L.getLast? with
  | none => [(t.1, t.2.1, (sadd (0, 0) z).1, (sadd (0, 0) z).2)]
  | some r => if rD r = t.2.1 then L.dropLast ++ [(rS r, rD r, (sadd (rK r, rV r) z).1, (sadd (rK r, rV r) z).2)] else L ++ [(t.1, t.2.1, (sadd (0, 0) z).1, (sadd (0, 0) z).2)]
def mthN (dt : Nat → Int × Int × Int) (zs : List Int) : Nat → List R4
  | 0 => []
  | k + 1 => mthPut (mthN dt zs k) (dt k) (zs.getD k 0)
/-- A month ends with day k. -/
def mthE (dt : Nat → Int × Int × Int) (c : Int) (n k : Nat) : Bool := decide (k + 1 = n) || decide ((dt k).2.2 = mlen (dt k).1 (dt k).2.1 c)
/-- Where the open month began, and the months that are closed, as the program has them. -/
def mthB (dt : Nat → Int × Int × Int) (c : Int) (n : Nat) : Nat → Nat
  | 0 => 0
  | k + 1 => if mthE dt c n k then k + 1 else mthB dt c n k
def mthR (dt : Nat → Int × Int × Int) (zs : List Int) (b k : Nat) : R4 := ((dt k).1, (dt k).2.1, (su zs (k + 1)).1 - (su zs b).1, (su zs (k + 1)).2 - (su zs b).2)
def mthC (dt : Nat → Int × Int × Int) (zs : List Int) (c : Int) (n : Nat) : Nat → List R4
  | 0 => []
  | k + 1 => if mthE dt c n k then mthC dt zs c n k ++ [mthR dt zs (mthB dt c n k) k] else mthC dt zs c n k
theorem mthB_le (dt : Nat → Int × Int × Int) (c : Int) (n : Nat) : ∀ k, mthB dt c n k ≤ k
  | 0 => Nat.le_refl _
  | k + 1 => by
    have := mthB_le dt c n k
    rw [mthB]; split <;> omega
theorem mthC_len (dt : Nat → Int × Int × Int) (zs : List Int) (c : Int) (n : Nat) : ∀ k, (mthC dt zs c n k).length ≤ k
  | 0 => Nat.le_refl _
  | k + 1 => by
    have := mthC_len dt zs c n k
    rw [mthC]; split
    · simp; omega
    · omega
theorem mthN_len (dt : Nat → Int × Int × Int) (zs : List Int) : ∀ k, (mthN dt zs k).length ≤ k
  | 0 => Nat.le_refl _
  | k + 1 => by
    have := mthN_len dt zs k
    rw [mthN, mthPut]; split
    · simp
    · rename_i r hr
      have hne : mthN dt zs k ≠ [] := by intro e; rw [e] at hr; cases hr
      have := List.length_pos_iff.2 hne
      split <;> simp <;> omega
theorem sadd_diff (s b : R2) (z : Int) : ((sadd s z).1 - b.1, (sadd s z).2 - b.2) = sadd (s.1 - b.1, s.2 - b.2) z := by
  unfold sadd; split <;> simp <;> omega
/-- The dates of days that follow each other. -/
def Run (dt : Nat → Int × Int × Int) (c : Int) (n : Nat) : Prop := ∀ k, k + 1 < n → Nx (dt k) (dt (k + 1)) c ∧ 1 ≤ (dt k).2.1
theorem mth_key {dt : Nat → Int × Int × Int} {zs : List Int} {c : Int} {n : Nat} (hr : Run dt c n) (hn : n ≤ zs.length) : ∀ k, k < n →
    mthN dt zs (k + 1) = mthC dt zs c n k ++ [mthR dt zs (mthB dt c n k) k]
  | 0, hk => by
    have e : su zs 1 = sadd (su zs 0) (zs.getD 0 0) := su_sadd (by omega)
    have e0 : su zs 0 = (0, 0) := su_zero zs
    show mthPut [] (dt 0) (zs.getD 0 0) = [] ++ [mthR dt zs 0 0]
    rw [mthPut, mthR, e, e0]
    simp
  | k + 1, hk => by
    have ih := mth_key hr hn k (by omega)
    have e : su zs (k + 1 + 1) = sadd (su zs (k + 1)) (zs.getD (k + 1) 0) := su_sadd (by omega)
    obtain ⟨hx, h1⟩ := hr k hk
    obtain ⟨hsame, hnew⟩ := hx.month h1
    show mthPut (mthN dt zs (k + 1)) (dt (k + 1)) (zs.getD (k + 1) 0) = _
    rw [ih, mthPut]
    have hl : (mthC dt zs c n k ++ [mthR dt zs (mthB dt c n k) k]).getLast? = some (mthR dt zs (mthB dt c n k) k) := by simp
    rw [hl]
    have hrd : rD (mthR dt zs (mthB dt c n k) k) = (dt k).2.1 := rfl
    have hb := mthB_le dt c n k
    have eR : ∀ b, mthR dt zs b (k + 1) = ((dt (k + 1)).1, (dt (k + 1)).2.1, (sadd ((su zs (k + 1)).1 - (su zs b).1, (su zs (k + 1)).2 - (su zs b).2) (zs.getD (k + 1) 0)).1, (sadd ((su zs (k + 1)).1 - (su zs b).1, (su zs (k + 1)).2 - (su zs b).2) (zs.getD (k + 1) 0)).2) := fun b => by
      rw [← sadd_diff, mthR, e]
    by_cases he : (dt k).2.2 = mlen (dt k).1 (dt k).2.1 c
    · have hE : mthE dt c n k = true := by simp [mthE, he]
      have hne := hnew he
      simp only [hrd]
      rw [if_neg (fun e9 => hne e9.symm), mthC, if_pos hE, mthB, if_pos hE, eR, Int.sub_self, Int.sub_self]
    · have hE : mthE dt c n k = false := by simp [mthE, he]; omega
      obtain ⟨s1, s2⟩ := hsame he
      simp only [hrd]
      rw [if_pos s2.symm, List.dropLast_concat, mthC, if_neg (by rw [hE]; decide), mthB, if_neg (by rw [hE]; decide), eR, s1, s2]
      rfl
theorem mth_all {dt : Nat → Int × Int × Int} {zs : List Int} {c : Int} (hr : Run dt c zs.length) (h0 : 0 < zs.length) : mthC dt zs c zs.length zs.length = mthN dt zs zs.length := by
  obtain ⟨k, hk⟩ : ∃ k, zs.length = k + 1 := ⟨zs.length - 1, by omega⟩
  have h := mth_key hr (Nat.le_refl _) k (by omega)
  have hE : mthE dt c zs.length k = true := by simp [mthE, hk]
  have e : mthC dt zs c zs.length (k + 1) = mthC dt zs c zs.length k ++ [mthR dt zs (mthB dt c zs.length k) k] := by rw [mthC, if_pos hE]
  rw [← h, ← hk] at e
  exact e
/-- What MonthsOf answers. -/
def mthOk (zs : List Int) (f c : Int) : Bool := sqB zs && (List.range zs.length).all fun k => dayOk (f + (k : Int)) c
noncomputable def mthD (f c : Int) (k : Nat) : Int × Int × Int := dOf (f + (k : Int)) c
noncomputable def mthL (zs : List Int) (f c : Int) : List R4 := if mthOk zs f c then mthN (mthD f c) zs zs.length else []
theorem mthOk_facts {zs : List Int} {f c : Int} (h : mthOk zs f c = true) : sqB zs = true ∧ ∀ k, k < zs.length → dayOk (f + (k : Int)) c = true := by
  simp only [mthOk, Bool.and_eq_true] at h
  exact ⟨h.1, fun k hk => List.all_eq_true.1 h.2 k (List.mem_range.2 hk)⟩
theorem mthOk_bad {zs : List Int} {f c : Int} {k : Nat} (hk : k < zs.length) (h : dayOk (f + (k : Int)) c = false) : mthOk zs f c = false := by
  rcases Bool.eq_false_or_eq_true (mthOk zs f c) with h9 | h9
  · have := (mthOk_facts h9).2 k hk
    rw [h] at this; cases this
  · exact h9
theorem mthOk_sq {zs : List Int} {f c : Int} (h : sqB zs = false) : mthOk zs f c = false := by rw [mthOk, h]; rfl
theorem mthOk_mk {zs : List Int} {f c : Int} (h : sqB zs = true) (h2 : ∀ k, k < zs.length → dayOk (f + (k : Int)) c = true) : mthOk zs f c = true := by
  rw [mthOk, h, Bool.true_and]; exact List.all_eq_true.2 fun k hk => h2 k (List.mem_range.1 hk)
theorem mthD_run {f c : Int} {n : Nat} (h : ∀ k, k < n → ∃ y m d, dv y m d c = true ∧ dn y m d c = f + (k : Int)) : Run (mthD f c) c n := by
  intro k hk
  obtain ⟨y, m, d, h1, h2⟩ := h k (by omega)
  obtain ⟨y', m', d', h3, h4⟩ := h (k + 1) hk
  rw [mthD, mthD, dOf_of h1 h2, dOf_of h3 h4]
  exact ⟨dv_next h1 h3 (by rw [h4, h2]; omega), (dv_facts h1).2.2.2.1⟩
theorem mthL_no {zs : List Int} {f c : Int} (h : mthOk zs f c = false) : mthL zs f c = [] := by simp [mthL, h]
theorem mthL_yes {zs : List Int} {f c : Int} (h : mthOk zs f c = true) : mthL zs f c = mthN (mthD f c) zs zs.length := by simp [mthL, h]
theorem mthL_len {zs : List Int} (f c : Int) : (mthL zs f c).length ≤ 12 := by
  cases h : mthOk zs f c
  · rw [mthL_no h]; simp
  · rw [mthL_yes h]
    have := mthN_len (mthD f c) zs zs.length
    have := (sq_facts (mthOk_facts h).1).2
    omega
end Go.Proofs.YtohoeonfoolpdaaDoor
namespace Go.Proofs.YtohoeonfoolpdaaDoor
open Go.RowKit
set_option linter.unusedVariables false

/-- Reports in a block that is new since w. -/
def FrR (w w' : World) (a : Option Addr) (ys : List R4) : Prop := ys = [] ∨ ∃ g, a = some ⟨g, 0, none⟩ ∧ w.heap.size ≤ g ∧ g < w'.heap.size ∧ WrR w' g ys
theorem FrR.rs {w w' : World} {a : Option Addr} {ys : List R4} (h : FrR w w' a ys) : Rs w' a ys := by
  rcases h with h | ⟨g, rfl, _, _, h⟩
  · exact .inl h
  · exact h.rs
theorem FrR.keep {w w' w'' : World} {a : Option Addr} {ys : List R4} (h : FrR w w' a ys) (k : Keep w' w'') : FrR w w'' a ys := by
  rcases h with h | ⟨g, ha, hg, hl, h⟩
  · exact .inl h
  · exact .inr ⟨g, ha, hg, Nat.lt_of_lt_of_le hl k.size, h.keep k⟩
theorem flatR_len : ∀ rs : List R4, (flatR rs).length = rs.length * 4
  | [] => rfl
  | r :: rs => by
    have h := flatR_len rs
    unfold flatR at *
    rw [List.flatMap_cons, List.length_append, h]
    simp [rc]; omega
theorem flatR_app (rs qs : List R4) : flatR (rs ++ qs) = flatR rs ++ flatR qs := by simp [flatR]
theorem flatR_one (r : R4) : flatR [r] = rc r := by simp [flatR]
theorem flatR_at : ∀ (rs : List R4) (i t : Nat), i < rs.length → t < 4 → (flatR rs)[i * 4 + t]? = (rc (rs.getD i r0))[t]?
  | [], _, _, h, _ => by cases h
  | r :: rs, 0, t, _, ht => by
    have e : flatR (r :: rs) = rc r ++ flatR rs := by simp [flatR]
    rw [e, List.getElem?_append_left (by simp [rc]; omega)]
    simp
  | r :: rs, i + 1, t, h, ht => by
    have e : flatR (r :: rs) = rc r ++ flatR rs := by simp [flatR]
    have h1 : i < rs.length := by simpa using h
    rw [e, List.getElem?_append_right (by simp [rc]; omega)]
    have e2 : (i + 1) * 4 + t - (rc r).length = i * 4 + t := by simp [rc]; omega
    rw [e2, flatR_at rs i t h1 ht]
    simp
theorem at4_of {w : World} {b o : Nat} {r : R4} (h : ∀ t, t < 4 → w.cell? ⟨b, o + t, none⟩ = (rc r)[t]?) : At4 w b o r :=
  ⟨(h 0 (by omega)).trans rfl, (h 1 (by omega)).trans rfl, (h 2 (by omega)).trans rfl, (h 3 (by omega)).trans rfl⟩
theorem At4.rc_at {w : World} {b o : Nat} {r : R4} (h : At4 w b o r) (t : Nat) (ht : t < 4) : w.cell? ⟨b, o + t, none⟩ = (rc r)[t]? := by
  have h4 : t = 0 ∨ t = 1 ∨ t = 2 ∨ t = 3 := by omega
  rcases h4 with rfl | rfl | rfl | rfl
  · exact h.s
  · exact h.d
  · exact h.k
  · exact h.v
/-- The cells of a slice of reports, to be appended. -/
theorem rc_one (r : R4) : ∀ u ∈ rc r, u.oneCell' = true := by
  intro u hu
  simp only [rc, List.mem_cons, List.not_mem_nil, or_false] at hu
  obtain rfl | rfl | rfl | rfl := hu <;> rfl
theorem own_cap {w : World} {base e size g n c : Nat} {xs : List Value} (h : w.ownsRow base e size (.slice (some ⟨g, 0, none⟩) n c) n xs) : n ≤ c := by
  rcases h.2 with ⟨h', _⟩ | ⟨g', cap', cur, h', _, _, h2, _⟩
  · simp at h'
  · simp only [Value.slice.injEq, Option.some.injEq, Addr.mk.injEq, and_true, true_and] at h'
    obtain ⟨rfl, rfl⟩ := h'
    exact h2
theorem wrR_ownE {w : World} {base e g n c : Nat} {ys : List R4} (h : w.ownsRow base e 4 (.slice (some ⟨g, 0, none⟩) n c) n (flatR ys)) (hn : n = ys.length) : WrR w g ys := by
  subst hn
  intro j hj
  refine ⟨at4_of fun t ht => ?_, ⟨World.ownsRow.frozenAt h _, World.ownsRow.frozenAt h _, World.ownsRow.frozenAt h _, World.ownsRow.frozenAt h _⟩⟩
  rw [World.ownsRow.cellAt h _ (by omega), flatR_at ys j t hj ht]
theorem frR_ownE {w wr : World} {base e : Nat} {ga : Option Addr} {c : Nat} {ys : List R4} (h : wr.ownsRow base e 4 (.slice ga ys.length c) ys.length (flatR ys)) (hb : w.heap.size ≤ base) : FrR w wr ga ys ∧ ys.length ≤ c := by
  by_cases hz : ys = []
  · exact ⟨.inl hz, by rw [hz]; exact Nat.zero_le _⟩
  · obtain ⟨g, c', he, _, _⟩ := h.form (List.length_pos_iff.2 hz)
    simp only [Value.slice.injEq] at he
    obtain ⟨rfl, _, rfl⟩ := he
    exact ⟨.inr ⟨g, rfl, Nat.le_trans hb (World.ownsRow.lt h g rfl).1, (World.ownsRow.lt h g rfl).2, wrR_ownE h rfl⟩, own_cap h⟩
theorem own_keepM {w w' : World} {base e n size : Nat} {v : Value} {xs : List Value} (h : w.ownsRow base e size v n xs) (k : Keep w w') : w'.ownsRow base e size v n xs := by
  refine World.ownsRow.kept h (⟨Below.os k, Below.tape k, Below.output k, Below.size k, fun i hi _ => Below.block k i hi⟩ : w.grownBy w' none) ?_
  cases hv : v.ownBlock with
  | none => left; rfl
  | some k => right; simp
theorem own_two {w w' : World} {base e n size RB MB : Nat} {v : Value} {xs : List Value} (h : w.ownsRow base e size v n xs) (t : Two RB MB w w') (h1 : RB < base) (h2 : MB < base) : w'.ownsRow base e size v n xs := by
  refine ⟨h.1, ?_⟩
  rcases h.2 with hn | ⟨g, cap, cur, rfl, hb, hgg, rest⟩
  · exact .inl hn
  · refine .inr ⟨g, cap, cur, rfl, hb, ?_, rest⟩
    rw [t.block g (Array.getElem?_eq_some_iff.1 hgg).1 (by omega) (by omega)]
    exact hgg
theorem Ring.below {w w' : World} {RB MB n p B : Nat} {ss : List R2} (h : Ring w RB MB n p ss) (hb : Below B w w') (h1 : RB < B) (h2 : MB < B) : Ring w' RB MB n p ss := by
  obtain ⟨c0, c1, f1, hne, hw, hl⟩ := h
  refine ⟨(hb.cell (p := ⟨RB, 0, none⟩) h1).trans c0, (hb.cell (p := ⟨RB, 1, none⟩) h1).trans c1, (hb.frozen (p := ⟨RB, 1, none⟩) h1).trans f1, hne, fun j hj => ?_, hl⟩
  obtain ⟨⟨a, b⟩, ⟨c, d⟩⟩ := hw j hj
  exact ⟨⟨(hb.cell (p := ⟨MB, _, none⟩) h2).trans a, (hb.cell (p := ⟨MB, _, none⟩) h2).trans b⟩, ⟨(hb.frozen (p := ⟨MB, _, none⟩) h2).trans c, (hb.frozen (p := ⟨MB, _, none⟩) h2).trans d⟩⟩
theorem ring2 {ss : List R2} {p q : Nat} {sl s' : R2} (hl : ss.length = 2) (hp : 1 ≤ p) (hq : p % 2 = q) (h : ss.getD ((p - 1) % 2) u0 = sl) : keptL (ss.set q s') 2 (p + 1) = [sl, s'] ∧ (ss.set q s').getD ((p + 1 - 1) % 2) u0 = s' := by
  have e : p + 1 - 2 = p - 1 := by omega
  have e2 : p + 1 - (p + 1 - 2) = 2 := by omega
  have e3 : p - 1 + 1 = p := by omega
  have hne : q ≠ (p - 1) % 2 := by omega
  have hq2 : q < ss.length := by omega
  have hq3 : (p - 1) % 2 < ss.length := by omega
  constructor
  · rw [keptL, e2, e]
    simp only [List.range_succ, List.range_zero, List.nil_append, List.map_append, List.map_cons, List.map_nil, Nat.add_zero, e3, hq]
    rw [← h]
    simp [List.getD_eq_getElem?_getD, hne, hq2]
  · rw [show p + 1 - 1 = p by omega, hq]
    simp [List.getD_eq_getElem?_getD, hq2]
theorem Rs.below {B : Nat} {w w' : World} {a : Option Addr} {rs : List R4} (h : Rs w a rs) (hl : Lo B a rs.length) (hb : Below B w w') : Rs w' a rs := by
  rcases h with h | ⟨b, off, ha, hlt, hc⟩
  · exact .inl h
  · rcases hl with hl | hl
    · exact .inl (List.eq_nil_of_length_eq_zero hl)
    · exact .inr ⟨b, off, ha, Nat.lt_of_lt_of_le hlt hb.size, fun i hi => (hc i hi).same fun j => hb.cell (p := ⟨b, j, none⟩) (hl b off ha)⟩
theorem Rs.lo {w : World} {a : Option Addr} {rs : List R4} (h : Rs w a rs) : Lo w.heap.size a rs.length := by
  rcases h with h | ⟨b, off, ha, hlt, hc⟩
  · left; rw [h]; rfl
  · right; intro b' o' hb'; rw [ha] at hb'; injection hb' with hb'; injection hb' with hb' _ _; omega
theorem Rs.onlyLo {B : Nat} {w w' : World} {a : Option Addr} {rs : List R4} (h : Rs w a rs) (hl : Lo B a rs.length) (ho : Only B w w') : Rs w' a rs := by
  rcases h with h | ⟨b, off, ha, hlt, hc⟩
  · exact .inl h
  · rcases hl with hl | hl
    · exact .inl (List.eq_nil_of_length_eq_zero hl)
    · have hne : b < B := hl b off ha
      exact .inr ⟨b, off, ha, Nat.lt_of_lt_of_le hlt ho.size, fun i hi => (hc i hi).same fun j => ho.cell b j hlt (by omega)⟩
theorem FrR.mono {w0 w w' : World} {a : Option Addr} {ys : List R4} (h : FrR w w' a ys) (hs : w0.heap.size ≤ w.heap.size) : FrR w0 w' a ys := by
  rcases h with h | ⟨g, ha, hg, hl, h⟩
  · exact .inl h
  · exact .inr ⟨g, ha, Nat.le_trans hs hg, hl, h⟩
theorem FrR.only {B : Nat} {w w' w'' : World} {a : Option Addr} {ys : List R4} (h : FrR w w' a ys) (ho : Only B w' w'') (hB : B < w.heap.size) : FrR w w'' a ys := by
  rcases h with h | ⟨g, ha, hg, hl, h⟩
  · exact .inl h
  · refine .inr ⟨g, ha, hg, Nat.lt_of_lt_of_le hl ho.size, fun j hj => ?_⟩
    obtain ⟨h1, h2⟩ := h j hj
    exact ⟨h1.same fun i => ho.cell g i hl (by omega), ⟨(ho.frozen g _ hl (by omega)).trans h2.f0, (ho.frozen g _ hl (by omega)).trans h2.f1, (ho.frozen g _ hl (by omega)).trans h2.f2, (ho.frozen g _ hl (by omega)).trans h2.f3⟩⟩
theorem FrR.drewN {w w' : World} {a : Option Addr} {ys : List R4} (h : FrR w w' a ys) (n : Nat) : FrR w (w'.drewN n) a ys := h.keep ((Keep.refl w').drewN n)

theorem wrap_wf {a : Int} (h : (Lit.int .i64 a).wf = true) : IntKind.i64.wrap a = a := by
  simp [Lit.wf, IntKind.min, IntKind.max, IntKind.signed, IntKind.bits] at h
  exact IntWalk.i64_in _ (by omega)
theorem infoMon : (Tryd.prog.info? 33).map (fun i => (i.zero, i.size, i.bytes)) = some (some (.agg #[.int .i64 0, .int .i64 0, .int .i64 0, .int .i64 0]), 4, 32) := by kernel_rfl
theorem newsM (w : World) {s d k v : Int} :
    ∀ j u, (rc (s, d, k, v))[j]? = some u → (w.alloc (.cells #[.int .i64 s, .int .i64 d, .int .i64 k, .int .i64 v] 33)).cell? ((⟨w.heap.size, 0, none⟩ : Addr).add j) = some u := by
  intro j u hj
  rw [Addr.add_lit, Nat.zero_add, World.cell?_alloc_new, ← hj]
  simp [rc, rS, rD, rK, rV]
set_option maxHeartbeats 400000 in
theorem eqSum_sameM (t v : Int) (w : World) :
    Calls Tryd.prog 57 #[.agg #[.int .i64 t, .int .i64 v], .agg #[.int .i64 t, .int .i64 v]] w fun e w' => e = .returned (.bool true) ∧ Keep w w' := by
  go_enter Tryd.func57, Tryd.ntmps57
  go_wp2
  go_ret
  exact ⟨rfl, ((Keep.refl w).alloc _).alloc _⟩
set_option maxRecDepth 100000 in
set_option maxHeartbeats 1000000 in
theorem eqMon_same (s d t v : Int) (w : World) :
    Calls Tryd.prog 43 #[.agg #[.int .i64 s, .int .i64 d, .int .i64 t, .int .i64 v], .agg #[.int .i64 s, .int .i64 d, .int .i64 t, .int .i64 v]] w fun e w' => e = .returned (.bool true) ∧ Keep w w' := by
  go_enter Tryd.func43, Tryd.ntmps43
  go_wp2_with fail
  refine (eqSum_sameM t v _).mono ?_
  rintro e w1 ⟨rfl, k1⟩
  go_wp2
  go_ret
  exact ⟨rfl, (((Keep.refl w).alloc _).alloc _).trans k1⟩
set_option maxHeartbeats 1000000 in
theorem eqM_same (a b : Option Addr) (c d : Nat) (rs : List R4) (w : World) (h1 : Rs w a rs) (h2 : Rs w b rs) (hm : rs.length ≤ 1048576) :
    Calls Tryd.prog 17 #[.slice a rs.length c, .slice b rs.length d] w fun e w' => e = .returned (.bool true) ∧ Keep w w' := by
  go_enter Tryd.func17, Tryd.ntmps17
  go_wp2_with fail
  go_loopw [5] (fun i wr => ∃ k : Nat, k ≤ rs.length ∧ i = .int .i64 k ∧ Keep w wr) (fun i _ => rs.length - (intOf i).toNat)
  case atStart => exact ⟨0, by omega, rfl, Keep.refl w⟩
  case round =>
    obtain ⟨k, hk, rfl, hK⟩ := hrel
    by_cases hlt : k < rs.length
    · obtain ⟨b1, o1, rfl, _, ⟨c0, c1, c2, c3⟩⟩ := (h1.keep hK).at_ hlt
      obtain ⟨b2, o2, rfl, _, ⟨e0, e1, e2, e3⟩⟩ := (h2.keep hK).at_ hlt
      generalize rS (rs.getD k r0) = x0 at c0 e0
      generalize rD (rs.getD k r0) = x1 at c1 e1
      generalize rK (rs.getD k r0) = x2 at c2 e2
      generalize rV (rs.getD k r0) = x3 at c3 e3
      have k0 : (0 : Int) ≤ (k : Int) := by omega
      have k1 : (k : Int) < (rs.length : Int) := by omega
      go_wp2_with fail
      go_region_held3 (fun w' => w'.cell? ⟨b1, o1 + k * 4, none⟩ = some (.int .i64 x0) ∧ w'.cell? ⟨b1, o1 + k * 4 + 1, none⟩ = some (.int .i64 x1) ∧ w'.cell? ⟨b1, o1 + k * 4 + 2, none⟩ = some (.int .i64 x2) ∧ w'.cell? ⟨b1, o1 + k * 4 + 3, none⟩ = some (.int .i64 x3) ∧
          w'.cell? ⟨b2, o2 + k * 4, none⟩ = some (.int .i64 x0) ∧ w'.cell? ⟨b2, o2 + k * 4 + 1, none⟩ = some (.int .i64 x1) ∧ w'.cell? ⟨b2, o2 + k * 4 + 2, none⟩ = some (.int .i64 x2) ∧ w'.cell? ⟨b2, o2 + k * 4 + 3, none⟩ = some (.int .i64 x3)) (go_keep)
        ((go_at_call 43; refine (eqMon_same x0 x1 x2 x3 _).mono ?_; rintro e w1 ⟨rfl, hk1⟩; have kk := ((Keep.refl wr).drew).trans hk1; have f0 := kk.cell c0; have f1 := kk.cell c1; have f2 := kk.cell c2; have f3 := kk.cell c3; have g0 := kk.cell e0; have g1 := kk.cell e1; have g2 := kk.cell e2; have g3 := kk.cell e3))
      have hK2 := hK.trans kk
      go_wp2
      go_roundw
      case rel => exact ⟨k + 1, by omega, by go_num, hK2⟩
      case measure => simp [intOf]; omega
    · go_wp2
      go_ret
      exact ⟨rfl, hK⟩
set_option maxHeartbeats 1000000 in
theorem markM (g c : Nat) (rs : List R4) (w : World) (h : WrR w g rs) (hm : rs.length ≤ 1048576) :
    Calls Tryd.prog 20 #[.slice (some ⟨g, 0, none⟩) rs.length c, .int .i64 1] w fun e w' => e = .returned (.int .i64 (1 + 4 * (rs.length : Int))) ∧ Only g w w' ∧ ∃ ys, ys.length = rs.length ∧ WrR w' g ys ∧ MkR ys := by
  go_enter Tryd.func20, Tryd.ntmps20
  go_wp2_with fail
  go_loopw [1, 5] (fun q i wr => ∃ (k : Nat) (ys : List R4), k ≤ rs.length ∧ i = .int .i64 k ∧ q = .int .i64 (1 + 4 * (k : Int)) ∧ Hid (ys.length = rs.length ∧ WrR wr g ys ∧ ∀ i, i < k → ys.getD i r0 = mk4 i) ∧ Only g w wr) (fun _ i _ => rs.length - (intOf i).toNat)
  case atStart => exact ⟨0, rs, by omega, rfl, rfl, Lib.hid ⟨rfl, h, fun i hi => by omega⟩, Only.refl g w⟩
  case round =>
    obtain ⟨k, ys, hk, rfl, rfl, HW, hO⟩ := hrel
    by_cases hlt : k < rs.length
    · obtain ⟨⟨x0, x1, x2, x3⟩, ⟨y0, y1, y2, y3⟩⟩ := HW.out.2.1 k (by have := HW.out.1; omega)
      have HW2 : Hid ((ys.set k (mk4 k)).length = rs.length ∧ WrR (put4 wr g (k * 4) (mk4 k)) g (ys.set k (mk4 k)) ∧ ∀ i, i < k + 1 → (ys.set k (mk4 k)).getD i r0 = mk4 i) := Lib.hid (by
        obtain ⟨l, W, m⟩ := HW.out
        refine ⟨by rw [List.length_set]; exact l, W.set (by omega) _, fun i hi => ?_⟩
        by_cases e : i = k
        · subst e; simp [List.getD_eq_getElem?_getD, show i < ys.length by omega]
        · have e2 : k ≠ i := fun h => e h.symm
          have := m i (by omega)
          rw [← this]
          simp [List.getD_eq_getElem?_getD, e2])
      have HO := Lib.hid ((((hO.put1 (k * 4) (.int .i64 (rS (mk4 k)))).put1 (k * 4 + 1) (.int .i64 (rD (mk4 k)))).put1 (k * 4 + 2) (.int .i64 (rK (mk4 k)))).put1 (k * 4 + 3) (.int .i64 (rV (mk4 k))))
      go_wp2
      go_roundw
      case rel => exact ⟨k + 1, ys.set k (mk4 k), by omega, by go_num, by congr 1, HW2, HO.out⟩
      case measure => simp [intOf]; omega
    · obtain rfl : k = rs.length := by omega
      go_wp2
      go_ret
      exact ⟨rfl, hO, ys, HW.out.1, HW.out.2.1, fun i hi => HW.out.2.2 i (by have := HW.out.1; omega)⟩
set_option maxHeartbeats 1000000 in
theorem heldM (a : Option Addr) (c : Nat) (ys : List R4) (w : World) (h : Rs w a ys) (hk' : MkR ys) (hm : ys.length ≤ 1048576) :
    Calls Tryd.prog 21 #[.slice a ys.length c, .int .i64 1] w fun e w' => e = .returned (.int .i64 (1 + 4 * (ys.length : Int))) ∧ w = w' := by
  have HM := Lib.hid hk'
  clear hk'
  go_enter Tryd.func21, Tryd.ntmps21
  go_wp2_with fail
  go_loop [1, 5] (fun q i => ∃ k : Nat, k ≤ ys.length ∧ i = .int .i64 k ∧ q = .int .i64 (1 + 4 * (k : Int))) (fun _ i => ys.length - (intOf i).toNat)
  case atStart => exact ⟨0, by omega, rfl, rfl⟩
  case round =>
    obtain ⟨k, hk, rfl, rfl⟩ := hrel
    by_cases hlt : k < ys.length
    · obtain ⟨b, off, rfl, _, hc⟩ := h.at_ hlt
      rw [HM.out k hlt] at hc
      obtain ⟨c0, c1, c2, c3⟩ := hc
      simp only [rS, rD, rK, rV, mk4] at c0 c1 c2 c3
      go_wp2
      go_round
      case rel => exact ⟨k + 1, by omega, by go_num, by congr 1⟩
      case measure => simp [intOf]; omega
    · obtain rfl : k = ys.length := by omega
      go_wp2
      go_ret
      exact ⟨rfl, rfl⟩
set_option maxHeartbeats 400000 in
theorem markM0 (a : Option Addr) (c : Nat) (w : World) :
    Calls Tryd.prog 20 #[.slice a 0 c, .int .i64 1] w fun e w' => e = .returned (.int .i64 1) ∧ w = w' := by
  go_enter Tryd.func20, Tryd.ntmps20
  go_wp2_with fail
  go_loop [1, 5] (fun q i => i = .int .i64 0 ∧ q = .int .i64 1) (fun _ i => 0)
  case atStart => exact ⟨rfl, rfl⟩
  case round =>
    obtain ⟨rfl, rfl⟩ := hrel
    go_wp2
    go_ret
    exact ⟨rfl, rfl⟩
/-- Marks on fresh reports. -/
theorem markFM (a : Option Addr) (c : Nat) (rs : List R4) (w0 w : World) (h : FrR w0 w a rs) (hm : rs.length ≤ 1048576) :
    Calls Tryd.prog 20 #[.slice a rs.length c, .int .i64 1] w fun e w' => e = .returned (.int .i64 (1 + 4 * (rs.length : Int))) ∧ (w0.heap.size ≤ w.heap.size → Below w0.heap.size w w') ∧ ∃ ys, ys.length = rs.length ∧ Rs w' a ys ∧ MkR ys := by
  rcases h with rfl | ⟨g, rfl, hg, hl, h⟩
  · refine (markM0 a c w).mono fun e w' ⟨he, hw⟩ => ?_
    subst hw
    exact ⟨he, fun _ => Below.refl _ _, [], rfl, .inl rfl, fun i hi => by simp at hi⟩
  · refine (markM g c rs w h hm).mono fun e w' ⟨he, ho, ys, hy, hw, hk⟩ => ⟨he, fun hs => ho.below hg hs, ys, hy, hw.rs, hk⟩
set_option maxHeartbeats 1000000 in
theorem sM_same (a b : Option Addr) (c d : Nat) (rs : List R4) (w : World) (h1 : Rs w a rs) (h2 : Rs w b rs) (hm : rs.length ≤ 1048576) :
    Calls Tryd.prog 10 #[.slice a rs.length c, .slice b rs.length d] w fun e w' => e = .returned (.bool true) ∧ Keep w w' := by
  go_enter Tryd.func10, Tryd.ntmps10
  go_wp2_with fail
  go_loopw [5] (fun i wr => ∃ k : Nat, k ≤ rs.length ∧ i = .int .i64 k ∧ Keep w wr) (fun i _ => rs.length - (intOf i).toNat)
  case atStart => exact ⟨0, by omega, rfl, Keep.refl w⟩
  case round =>
    obtain ⟨k, hk, rfl, hK⟩ := hrel
    by_cases hlt : k < rs.length
    · obtain ⟨b1, o1, rfl, _, ⟨c0, c1, c2, c3⟩⟩ := (h1.keep hK).at_ hlt
      obtain ⟨b2, o2, rfl, _, ⟨e0, e1, e2, e3⟩⟩ := (h2.keep hK).at_ hlt
      generalize rS (rs.getD k r0) = x0 at c0 e0
      generalize rD (rs.getD k r0) = x1 at c1 e1
      generalize rK (rs.getD k r0) = x2 at c2 e2
      generalize rV (rs.getD k r0) = x3 at c3 e3
      have k0 : (0 : Int) ≤ (k : Int) := by omega
      have k1 : (k : Int) < (rs.length : Int) := by omega
      go_wp2_with fail
      go_quiet (fail)
      have hK2 : Keep w (wr.drewN nq) := hK.drewN nq
      go_wp2
      go_roundw
      case rel => exact ⟨k + 1, by omega, by go_num, hK2⟩
      case measure => simp [intOf]; omega
    · go_wp2
      go_ret
      exact ⟨rfl, hK⟩
end Go.Proofs.YtohoeonfoolpdaaDoor
namespace Go.Proofs.YtohoeonfoolpdaaDoor
open Go.RowKit
set_option linter.unusedVariables false

theorem smOk_ne {s : Int × Int} (h : ¬ ((-999999 ≤ s.1 ∧ s.1 ≤ 999999) ∧ 0 ≤ s.2 ∧ s.2 ≤ 99)) : smOk s = false := by
  cases h9 : smOk s
  · rfl
  · exact absurd (smOk_facts h9) h
set_option maxHeartbeats 1000000 in
theorem inl_any (t m : Int) (w : World) :
    Calls Tryd.prog 47 #[.agg #[.int .i64 t, .int .i64 m]] w fun e w' => e = .returned (.bool (smOk (t, m))) ∧ Keep w w' := by
  by_cases h0 : -999999 ≤ t
  case' neg =>
    have e : smOk (t, m) = false := smOk_ne (s := (t, m)) (fun h => h0 (by have := h.1; have := h.2; dsimp only at *; omega))
    have d0 : decide (-999999 ≤ t) = false := decide_eq_false h0
    rw [e]
    clear e
    go_enter Tryd.func47, Tryd.ntmps47
    go_wp2
    go_ret
    exact ⟨rfl, (Keep.refl w).alloc _⟩
  by_cases h1 : t ≤ 999999
  case' neg =>
    have e : smOk (t, m) = false := smOk_ne (s := (t, m)) (fun h => h1 (by have := h.1; have := h.2; dsimp only at *; omega))
    have d0 : decide (-999999 ≤ t) = true := decide_eq_true h0
    have d1 : decide (t ≤ 999999) = false := decide_eq_false h1
    rw [e]
    clear e
    go_enter Tryd.func47, Tryd.ntmps47
    go_wp2
    go_ret
    exact ⟨rfl, (Keep.refl w).alloc _⟩
  by_cases h2 : 0 ≤ m
  case' neg =>
    have e : smOk (t, m) = false := smOk_ne (s := (t, m)) (fun h => h2 (by have := h.1; have := h.2; dsimp only at *; omega))
    have d0 : decide (-999999 ≤ t) = true := decide_eq_true h0
    have d1 : decide (t ≤ 999999) = true := decide_eq_true h1
    have d2 : decide (0 ≤ m) = false := decide_eq_false h2
    rw [e]
    clear e
    go_enter Tryd.func47, Tryd.ntmps47
    go_wp2
    go_ret
    exact ⟨rfl, (Keep.refl w).alloc _⟩
  by_cases h3 : m ≤ 99
  case' neg =>
    have e : smOk (t, m) = false := smOk_ne (s := (t, m)) (fun h => h3 (by have := h.1; have := h.2; dsimp only at *; omega))
    have d0 : decide (-999999 ≤ t) = true := decide_eq_true h0
    have d1 : decide (t ≤ 999999) = true := decide_eq_true h1
    have d2 : decide (0 ≤ m) = true := decide_eq_true h2
    have d3 : decide (m ≤ 99) = false := decide_eq_false h3
    rw [e]
    clear e
    go_enter Tryd.func47, Tryd.ntmps47
    go_wp2
    go_ret
    exact ⟨rfl, (Keep.refl w).alloc _⟩
  have e : smOk (t, m) = true := smOk_mk (s := (t, m)) ⟨⟨h0, h1⟩, h2, h3⟩
  have d0 : decide (-999999 ≤ t) = true := decide_eq_true h0
  have d1 : decide (t ≤ 999999) = true := decide_eq_true h1
  have d2 : decide (0 ≤ m) = true := decide_eq_true h2
  have d3 : decide (m ≤ 99) = true := decide_eq_true h3
  rw [e]
  clear e
  go_enter Tryd.func47, Tryd.ntmps47
  go_wp2
  go_ret
  exact ⟨rfl, (Keep.refl w).alloc _⟩
set_option maxRecDepth 100000 in
set_option maxHeartbeats 4000000 in
theorem sb_impl (a : Option Addr) (c : Nat) (ss : List R2) (f t : Int) (w : World) (h : Rr w a ss) (hm : ss.length ≤ 1048576) (f0 : -1000000 ≤ f) (f1 : f ≤ 1000000) (t0 : -1000000 ≤ t) (t1 : t ≤ 1000000) :
    Calls Tryd.prog 32 #[.slice a ss.length c, .int .i64 f, .int .i64 t] w fun e w' => e = .returned (.tuple #[.agg #[.int .i64 (sbV ss f t).1, .int .i64 (sbV ss f t).2], .bool (sbB ss f t)]) ∧ Keep w w' := by
  by_cases h0 : 1 ≤ ss.length
  case' neg =>
    have e := sbB_len (ss := ss) (f := f) (t := t) (by omega)
    rw [sbV_no e, e]
    have d0 : decide (ss.length < 1) = true := decide_eq_true (by omega)
    clear e
    go_enter Tryd.func32, Tryd.ntmps32
    go_wp2
    refine bodyPost_ret (v := .tuple #[.agg #[.int .i64 0, .int .i64 0], .bool false]) (by simp [results, Tryd.results32, go_sem, *]) rfl ⟨rfl, ?_⟩
    first | exact (Keep.refl w).alloc _ | exact (((Keep.refl w).alloc _).setCell (by simp) _).setCell (by simp) _
  by_cases h1 : ss.length ≤ 13
  case' neg =>
    have e := sbB_len (ss := ss) (f := f) (t := t) (by omega)
    rw [sbV_no e, e]
    have d0 : decide (ss.length < 1) = false := decide_eq_false (by omega)
    have d1 : decide (13 < ss.length) = true := decide_eq_true (by omega)
    clear e
    go_enter Tryd.func32, Tryd.ntmps32
    go_wp2
    refine bodyPost_ret (v := .tuple #[.agg #[.int .i64 0, .int .i64 0], .bool false]) (by simp [results, Tryd.results32, go_sem, *]) rfl ⟨rfl, ?_⟩
    first | exact (Keep.refl w).alloc _ | exact (((Keep.refl w).alloc _).setCell (by simp) _).setCell (by simp) _
  by_cases h2 : 0 ≤ f
  case' neg =>
    have e := sbB_arg (ss := ss) (f := f) (t := t) (by omega)
    rw [sbV_no e, e]
    have d0 : decide (ss.length < 1) = false := decide_eq_false (by omega)
    have d1 : decide (13 < ss.length) = false := decide_eq_false (by omega)
    have d2 : decide (f < 0) = true := decide_eq_true (by omega)
    clear e
    go_enter Tryd.func32, Tryd.ntmps32
    go_wp2
    refine bodyPost_ret (v := .tuple #[.agg #[.int .i64 0, .int .i64 0], .bool false]) (by simp [results, Tryd.results32, go_sem, *]) rfl ⟨rfl, ?_⟩
    first | exact (Keep.refl w).alloc _ | exact (((Keep.refl w).alloc _).setCell (by simp) _).setCell (by simp) _
  by_cases h3 : f ≤ t
  case' neg =>
    have e := sbB_arg (ss := ss) (f := f) (t := t) (by omega)
    rw [sbV_no e, e]
    have d0 : decide (ss.length < 1) = false := decide_eq_false (by omega)
    have d1 : decide (13 < ss.length) = false := decide_eq_false (by omega)
    have d2 : decide (f < 0) = false := decide_eq_false (by omega)
    have d3 : decide (t < f) = true := decide_eq_true (by omega)
    clear e
    go_enter Tryd.func32, Tryd.ntmps32
    go_wp2
    refine bodyPost_ret (v := .tuple #[.agg #[.int .i64 0, .int .i64 0], .bool false]) (by simp [results, Tryd.results32, go_sem, *]) rfl ⟨rfl, ?_⟩
    first | exact (Keep.refl w).alloc _ | exact (((Keep.refl w).alloc _).setCell (by simp) _).setCell (by simp) _
  by_cases h4 : t < (ss.length : Int)
  case' neg =>
    have e := sbB_arg (ss := ss) (f := f) (t := t) (by omega)
    rw [sbV_no e, e]
    have d0 : decide (ss.length < 1) = false := decide_eq_false (by omega)
    have d1 : decide (13 < ss.length) = false := decide_eq_false (by omega)
    have d2 : decide (f < 0) = false := decide_eq_false (by omega)
    have d3 : decide (t < f) = false := decide_eq_false (by omega)
    have d4 : decide ((ss.length : Int) ≤ t) = true := decide_eq_true (by omega)
    clear e
    go_enter Tryd.func32, Tryd.ntmps32
    go_wp2
    refine bodyPost_ret (v := .tuple #[.agg #[.int .i64 0, .int .i64 0], .bool false]) (by simp [results, Tryd.results32, go_sem, *]) rfl ⟨rfl, ?_⟩
    first | exact (Keep.refl w).alloc _ | exact (((Keep.refl w).alloc _).setCell (by simp) _).setCell (by simp) _
  have d0 : decide (ss.length < 1) = false := decide_eq_false (by omega)
  have d1 : decide (13 < ss.length) = false := decide_eq_false (by omega)
  have d2 : decide (f < 0) = false := decide_eq_false (by omega)
  have d3 : decide (t < f) = false := decide_eq_false (by omega)
  have d4 : decide ((ss.length : Int) ≤ t) = false := decide_eq_false (by omega)
  obtain ⟨i, rfl⟩ : ∃ i : Nat, f = (i : Int) := ⟨f.toNat, by omega⟩
  obtain ⟨j, rfl⟩ : ∃ j : Nat, t = (j : Int) := ⟨t.toNat, by omega⟩
  have hij : i ≤ j := by omega
  have hjl : j < ss.length := by omega
  have hA := Lib.hid (fun (h3 : smOk (ss.getD i u0) = true) (h4 : smOk (ss.getD j u0) = true) => sbB_mk (ss := ss) (f := (i : Int)) (t := (j : Int)) (by omega) (by omega) h3 h4)
  have hB := Lib.hid (fun (h3 : smOk (ss.getD i u0) = false) => sbB_low (ss := ss) (f := (i : Int)) (t := (j : Int)) h3)
  have hC := Lib.hid (fun (h3 : smOk (ss.getD j u0) = false) => sbB_high (ss := ss) (f := (i : Int)) (t := (j : Int)) h3)
  obtain ⟨b, off, rfl, hb, hat⟩ := h.all (by omega)
  obtain ⟨x0, x1⟩ := hat i (by omega)
  obtain ⟨y0, y1⟩ := hat j (by omega)
  have hi0 : (0 : Int) ≤ (i : Int) := by omega
  have hi1 : (i : Int) < (ss.length : Int) := by omega
  have hj0 : (0 : Int) ≤ (j : Int) := by omega
  have hj1 : (j : Int) < (ss.length : Int) := by omega
  have hV := Lib.hid (fun (h : sbB ss (i : Int) (j : Int) = true) => sbV_yes h)
  have hV0 := Lib.hid (fun (h : sbB ss (i : Int) (j : Int) = false) => sbV_no h)
  simp only [Int.toNat_natCast] at hV
  have hpe : ss.getD i (0, 0) = ss.getD i u0 := rfl
  have hqe : ss.getD j (0, 0) = ss.getD j u0 := rfl
  rw [hpe, hqe] at hV
  clear hpe hqe hat
  generalize ss.getD i u0 = p at *
  generalize ss.getD j u0 = q at *
  obtain ⟨p1, p2⟩ := p
  obtain ⟨q1, q2⟩ := q
  unfold uL at x0 y0
  unfold uH at x1 y1
  dsimp only at x0 x1 y0 y1
  go_enter Tryd.func32, Tryd.ntmps32
  go_wp2_with fail
  have x0_1 : (w.alloc (.cells #[.int .i64 0, .int .i64 0] 31)).cell? ⟨b, off + i * 2, none⟩ = some (.int .i64 p1) := Keep.cell ((Keep.refl w).alloc (.cells #[.int .i64 0, .int .i64 0] 31)) x0
  have x1_1 : (w.alloc (.cells #[.int .i64 0, .int .i64 0] 31)).cell? ⟨b, off + i * 2 + 1, none⟩ = some (.int .i64 p2) := Keep.cell ((Keep.refl w).alloc (.cells #[.int .i64 0, .int .i64 0] 31)) x1
  have y0_1 : (w.alloc (.cells #[.int .i64 0, .int .i64 0] 31)).cell? ⟨b, off + j * 2, none⟩ = some (.int .i64 q1) := Keep.cell ((Keep.refl w).alloc (.cells #[.int .i64 0, .int .i64 0] 31)) y0
  have y1_1 : (w.alloc (.cells #[.int .i64 0, .int .i64 0] 31)).cell? ⟨b, off + j * 2 + 1, none⟩ = some (.int .i64 q2) := Keep.cell ((Keep.refl w).alloc (.cells #[.int .i64 0, .int .i64 0] 31)) y1
  have x0_2 : ((w.alloc (.cells #[.int .i64 0, .int .i64 0] 31)).alloc (.cells #[.int .i64 0, .int .i64 0] 31)).cell? ⟨b, off + i * 2, none⟩ = some (.int .i64 p1) := Keep.cell (((Keep.refl w).alloc (.cells #[.int .i64 0, .int .i64 0] 31)).alloc (.cells #[.int .i64 0, .int .i64 0] 31)) x0
  have x1_2 : ((w.alloc (.cells #[.int .i64 0, .int .i64 0] 31)).alloc (.cells #[.int .i64 0, .int .i64 0] 31)).cell? ⟨b, off + i * 2 + 1, none⟩ = some (.int .i64 p2) := Keep.cell (((Keep.refl w).alloc (.cells #[.int .i64 0, .int .i64 0] 31)).alloc (.cells #[.int .i64 0, .int .i64 0] 31)) x1
  have y0_2 : ((w.alloc (.cells #[.int .i64 0, .int .i64 0] 31)).alloc (.cells #[.int .i64 0, .int .i64 0] 31)).cell? ⟨b, off + j * 2, none⟩ = some (.int .i64 q1) := Keep.cell (((Keep.refl w).alloc (.cells #[.int .i64 0, .int .i64 0] 31)).alloc (.cells #[.int .i64 0, .int .i64 0] 31)) y0
  have y1_2 : ((w.alloc (.cells #[.int .i64 0, .int .i64 0] 31)).alloc (.cells #[.int .i64 0, .int .i64 0] 31)).cell? ⟨b, off + j * 2 + 1, none⟩ = some (.int .i64 q2) := Keep.cell (((Keep.refl w).alloc (.cells #[.int .i64 0, .int .i64 0] 31)).alloc (.cells #[.int .i64 0, .int .i64 0] 31)) y1
  have x0_3 : (((w.alloc (.cells #[.int .i64 0, .int .i64 0] 31)).alloc (.cells #[.int .i64 0, .int .i64 0] 31)).alloc (.cells #[.int .i64 0, .int .i64 0] 31)).cell? ⟨b, off + i * 2, none⟩ = some (.int .i64 p1) := Keep.cell ((((Keep.refl w).alloc (.cells #[.int .i64 0, .int .i64 0] 31)).alloc (.cells #[.int .i64 0, .int .i64 0] 31)).alloc (.cells #[.int .i64 0, .int .i64 0] 31)) x0
  have x1_3 : (((w.alloc (.cells #[.int .i64 0, .int .i64 0] 31)).alloc (.cells #[.int .i64 0, .int .i64 0] 31)).alloc (.cells #[.int .i64 0, .int .i64 0] 31)).cell? ⟨b, off + i * 2 + 1, none⟩ = some (.int .i64 p2) := Keep.cell ((((Keep.refl w).alloc (.cells #[.int .i64 0, .int .i64 0] 31)).alloc (.cells #[.int .i64 0, .int .i64 0] 31)).alloc (.cells #[.int .i64 0, .int .i64 0] 31)) x1
  have y0_3 : (((w.alloc (.cells #[.int .i64 0, .int .i64 0] 31)).alloc (.cells #[.int .i64 0, .int .i64 0] 31)).alloc (.cells #[.int .i64 0, .int .i64 0] 31)).cell? ⟨b, off + j * 2, none⟩ = some (.int .i64 q1) := Keep.cell ((((Keep.refl w).alloc (.cells #[.int .i64 0, .int .i64 0] 31)).alloc (.cells #[.int .i64 0, .int .i64 0] 31)).alloc (.cells #[.int .i64 0, .int .i64 0] 31)) y0
  have y1_3 : (((w.alloc (.cells #[.int .i64 0, .int .i64 0] 31)).alloc (.cells #[.int .i64 0, .int .i64 0] 31)).alloc (.cells #[.int .i64 0, .int .i64 0] 31)).cell? ⟨b, off + j * 2 + 1, none⟩ = some (.int .i64 q2) := Keep.cell ((((Keep.refl w).alloc (.cells #[.int .i64 0, .int .i64 0] 31)).alloc (.cells #[.int .i64 0, .int .i64 0] 31)).alloc (.cells #[.int .i64 0, .int .i64 0] 31)) y1
  have hn0 : b ≠ w.heap.size := by omega
  have hn1 : b ≠ w.heap.size + 1 := by omega
  have hn2 : b ≠ w.heap.size + 1 + 1 := by omega
  have hm0 : w.heap.size ≠ b := by omega
  have hm1 : w.heap.size + 1 ≠ b := by omega
  have hm2 : w.heap.size + 1 + 1 ≠ b := by omega
  have y0_a : ((w.alloc (.cells #[.int .i64 0, .int .i64 0] 31)).alloc (.cells #[.int .i64 p1, .int .i64 p2] 31)).cell? ⟨b, off + j * 2, none⟩ = some (.int .i64 q1) := Keep.cell (((Keep.refl w).alloc (.cells #[.int .i64 0, .int .i64 0] 31)).alloc (.cells #[.int .i64 p1, .int .i64 p2] 31)) y0
  have y1_a : ((w.alloc (.cells #[.int .i64 0, .int .i64 0] 31)).alloc (.cells #[.int .i64 p1, .int .i64 p2] 31)).cell? ⟨b, off + j * 2 + 1, none⟩ = some (.int .i64 q2) := Keep.cell (((Keep.refl w).alloc (.cells #[.int .i64 0, .int .i64 0] 31)).alloc (.cells #[.int .i64 p1, .int .i64 p2] 31)) y1
  have y0_b : (((w.alloc (.cells #[.int .i64 0, .int .i64 0] 31)).alloc (.cells #[.int .i64 p1, .int .i64 p2] 31)).alloc (.cells #[.int .i64 0, .int .i64 0] 31)).cell? ⟨b, off + j * 2, none⟩ = some (.int .i64 q1) := Keep.cell ((((Keep.refl w).alloc (.cells #[.int .i64 0, .int .i64 0] 31)).alloc (.cells #[.int .i64 p1, .int .i64 p2] 31)).alloc (.cells #[.int .i64 0, .int .i64 0] 31)) y0
  have y1_b : (((w.alloc (.cells #[.int .i64 0, .int .i64 0] 31)).alloc (.cells #[.int .i64 p1, .int .i64 p2] 31)).alloc (.cells #[.int .i64 0, .int .i64 0] 31)).cell? ⟨b, off + j * 2 + 1, none⟩ = some (.int .i64 q2) := Keep.cell ((((Keep.refl w).alloc (.cells #[.int .i64 0, .int .i64 0] 31)).alloc (.cells #[.int .i64 p1, .int .i64 p2] 31)).alloc (.cells #[.int .i64 0, .int .i64 0] 31)) y1
  have y0_c : (((w.alloc (.cells #[.int .i64 0, .int .i64 0] 31)).alloc (.cells #[.int .i64 0, .int .i64 0] 31)).alloc (.cells #[.int .i64 p1, .int .i64 p2] 31)).cell? ⟨b, off + j * 2, none⟩ = some (.int .i64 q1) := Keep.cell ((((Keep.refl w).alloc (.cells #[.int .i64 0, .int .i64 0] 31)).alloc (.cells #[.int .i64 0, .int .i64 0] 31)).alloc (.cells #[.int .i64 p1, .int .i64 p2] 31)) y0
  have y1_c : (((w.alloc (.cells #[.int .i64 0, .int .i64 0] 31)).alloc (.cells #[.int .i64 0, .int .i64 0] 31)).alloc (.cells #[.int .i64 p1, .int .i64 p2] 31)).cell? ⟨b, off + j * 2 + 1, none⟩ = some (.int .i64 q2) := Keep.cell ((((Keep.refl w).alloc (.cells #[.int .i64 0, .int .i64 0] 31)).alloc (.cells #[.int .i64 0, .int .i64 0] 31)).alloc (.cells #[.int .i64 p1, .int .i64 p2] 31)) y1
  go_region_law (fail)
  all_goals
    clear x0_1 x1_1 y0_1 y1_1 x0_2 x1_2 y0_2 y1_2 x0_3 x1_3 y0_3 y1_3 y0_a y1_a y0_b y1_b y0_c y1_c hn0 hn1 hn2 hm0 hm1 hm2 x0 x1 y0 y1 d0 d1 d2 d3 d4
    first
    | refine @abs_worldA (fun wq => Exit.then _ _ Exit.normal _ wq) (((w.alloc (.cells #[.int .i64 0, .int .i64 0] 31)).alloc (.cells #[.int .i64 p1, .int .i64 p2] 31)).alloc (.cells #[.int .i64 q1, .int .i64 q2] 31)).drew (fun wq => (wq.cell? ⟨w.heap.size + 1, 0, none⟩ = some (.int .i64 p1) ∧ wq.cell? ⟨w.heap.size + 1, 1, none⟩ = some (.int .i64 p2) ∧ wq.cell? ⟨w.heap.size + 1 + 1, 0, none⟩ = some (.int .i64 q1) ∧ wq.cell? ⟨w.heap.size + 1 + 1, 1, none⟩ = some (.int .i64 q2) ∧ (wq.cell? ⟨w.heap.size, 0, none⟩ = some (.int .i64 0) ∧ wq.cell? ⟨w.heap.size, 1, none⟩ = some (.int .i64 0)) ∧ (wq.frozen? ⟨w.heap.size, 0, none⟩ = false ∧ wq.frozen? ⟨w.heap.size, 1, none⟩ = false) ∧ Keep w wq)) ⟨by go_simp, by go_simp, by go_simp, by go_simp, ⟨by go_simp, by go_simp⟩, ⟨by go_simp, by go_simp⟩, ((((Keep.refl w).alloc (.cells #[.int .i64 0, .int .i64 0] 31)).alloc (.cells #[.int .i64 p1, .int .i64 p2] 31)).alloc (.cells #[.int .i64 q1, .int .i64 q2] 31)).drew⟩ ?_
    | refine @abs_worldA (fun wq => Exit.then _ _ Exit.normal _ wq) (((w.alloc (.cells #[.int .i64 0, .int .i64 0] 31)).alloc (.cells #[.int .i64 q1, .int .i64 q2] 31)).alloc (.cells #[.int .i64 p1, .int .i64 p2] 31)).drew (fun wq => (wq.cell? ⟨w.heap.size + 1 + 1, 0, none⟩ = some (.int .i64 p1) ∧ wq.cell? ⟨w.heap.size + 1 + 1, 1, none⟩ = some (.int .i64 p2) ∧ wq.cell? ⟨w.heap.size + 1, 0, none⟩ = some (.int .i64 q1) ∧ wq.cell? ⟨w.heap.size + 1, 1, none⟩ = some (.int .i64 q2) ∧ (wq.cell? ⟨w.heap.size, 0, none⟩ = some (.int .i64 0) ∧ wq.cell? ⟨w.heap.size, 1, none⟩ = some (.int .i64 0)) ∧ (wq.frozen? ⟨w.heap.size, 0, none⟩ = false ∧ wq.frozen? ⟨w.heap.size, 1, none⟩ = false) ∧ Keep w wq)) ⟨by go_simp, by go_simp, by go_simp, by go_simp, ⟨by go_simp, by go_simp⟩, ⟨by go_simp, by go_simp⟩, ((((Keep.refl w).alloc (.cells #[.int .i64 0, .int .i64 0] 31)).alloc (.cells #[.int .i64 q1, .int .i64 q2] 31)).alloc (.cells #[.int .i64 p1, .int .i64 p2] 31)).drew⟩ ?_
    rintro W ⟨s0, s1, r0, r1, ⟨n0, n1⟩, ⟨m0, m1⟩, kW⟩
    go_wp2_with fail
    refine (inl_any p1 p2 _).mono ?_
    rintro e w4 ⟨rfl, k4⟩
    have k4' := kW.trans k4
    have S0 := k4.cell s0
    have S1 := k4.cell s1
    have R0 := k4.cell r0
    have R1 := k4.cell r1
    have N0 := k4.cell n0
    have N1 := k4.cell n1
    have M0 := k4.still n0 m0
    have M1 := k4.still n1 m1
    clear s0 s1 r0 r1 n0 n1 m0 m1 kW k4
    rcases Bool.eq_false_or_eq_true (smOk (p1, p2)) with hp | hp
    case' inr =>
      have e := hB.out hp
      rw [hp]
      go_wp2
      refine bodyPost_ret (v := .tuple #[.agg #[.int .i64 0, .int .i64 0], .bool false]) (by simp [results, Tryd.results32, go_sem, *]) rfl ⟨by rw [hV0.out e, e], (k4'.setCell (Nat.le_refl _) _).setCell (Nat.le_refl _) _⟩
    rw [hp]
    go_wp2_with fail
    refine (inl_any q1 q2 _).mono ?_
    rintro e w5 ⟨rfl, k5⟩
    have k5' := k4'.trans k5
    have s0 := k5.cell S0
    have s1 := k5.cell S1
    have r0 := k5.cell R0
    have r1 := k5.cell R1
    have n0 := k5.cell N0
    have n1 := k5.cell N1
    have m0 := k5.still N0 M0
    have m1 := k5.still N1 M1
    clear S0 S1 R0 R1 N0 N1 M0 M1 k4' k5
    rcases Bool.eq_false_or_eq_true (smOk (q1, q2)) with hq | hq
    case' inr =>
      have e := hC.out hq
      rw [hq]
      go_wp2
      refine bodyPost_ret (v := .tuple #[.agg #[.int .i64 0, .int .i64 0], .bool false]) (by simp [results, Tryd.results32, go_sem, *]) rfl ⟨by rw [hV0.out e, e], (k5'.setCell (Nat.le_refl _) _).setCell (Nat.le_refl _) _⟩
    have e := hA.out hp hq
    obtain ⟨⟨a1, a2⟩, a3, a4⟩ := smOk_facts hp
    obtain ⟨⟨b1, b2⟩, b3, b4⟩ := smOk_facts hq
    dsimp only at a1 a2 a3 a4 b1 b2 b3 b4
    have pw1 : IntKind.i64.wrap (q1 - p1) = q1 - p1 := IntWalk.i64_in _ ⟨by omega, by omega⟩
    have pw2 : IntKind.i64.wrap (q2 - p2) = q2 - p2 := IntWalk.i64_in _ ⟨by omega, by omega⟩
    rw [hq]
    go_wp2
    refine bodyPost_ret (v := .tuple #[.agg #[.int .i64 (q1 - p1), .int .i64 (q2 - p2)], .bool true]) (by simp [results, Tryd.results32, go_sem, *]) rfl ⟨by rw [hV.out e, e], (k5'.setCell (Nat.le_refl _) _).setCell (Nat.le_refl _) _⟩
end Go.Proofs.YtohoeonfoolpdaaDoor
namespace Go.Proofs.YtohoeonfoolpdaaDoor
open Go.RowKit
set_option linter.unusedVariables false

def MthPost (zs : List Int) (f c : Int) (w : World) (e : Ending) (w' : World) : Prop :=
  ∃ (a : Option Addr) (cp : Nat), e = .returned (.tuple #[.slice a (mthL zs f c).length cp, .bool (mthOk zs f c)]) ∧ (mthL zs f c).length ≤ cp ∧ FrR w w' a (mthL zs f c) ∧ Keep w w'
theorem mth_no {zs : List Int} {f c : Int} {w w' : World} {a : Option Addr} {cp : Nat} (h : mthOk zs f c = false) (k : Keep w w') : MthPost zs f c w (.returned (.tuple #[.slice a 0 cp, .bool false])) w' :=
  ⟨a, cp, by rw [mthL_no h, h]; rfl, by rw [mthL_no h]; exact Nat.zero_le _, by rw [mthL_no h]; exact .inl rfl, k⟩
theorem Two.blk {RB MB : Nat} {w w' : World} (h : Two RB MB w w') : w.heap.size ≤ w'.heap.size := h.size
set_option maxRecDepth 100000 in
set_option maxHeartbeats 8000000 in
theorem mth_impl (a : Option Addr) (cap : Nat) (zs : List Int) (f c : Int) (w : World) (T : Tabs w) (h : Ls w a zs) (hm : zs.length ≤ 1048576) (hfw : IntKind.i64.wrap f = f) :
    Calls Tryd.prog 8 #[.slice a zs.length cap, .int .i64 f, .int .i64 c] w (MthPost zs f c w) := by
  have HSU0 := Lib.hid (su_impl a cap zs w h hm)
  rcases Bool.eq_false_or_eq_true (sqB zs) with hs | hs
  case' inr =>
    have HN := Lib.hid (mthOk_sq (f := f) (c := c) hs)
    rw [suL_no hs, hs] at HSU0
    clear hs
    go_enter Tryd.func8, Tryd.ntmps8
    go_wp2_with fail
    refine HSU0.out.mono ?_
    rintro e w1 ⟨x1, c1, rfl, _, _, k1⟩
    go_wp2
    go_ret2
    exact mth_no HN.out k1
  obtain ⟨i0, hi, hz0, hz1, hz2⟩ := info_parts infoMon
  have hl := (sq_facts hs).2
  have HSQ := Lib.hid hs
  have HLs := Lib.hid h
  rw [suL_yes hs, hs] at HSU0
  clear hs h
  go_enter Tryd.func8, Tryd.ntmps8
  go_wp2_with fail
  refine HSU0.out.mono ?_
  rintro e w1 ⟨x1, c1, rfl, hc1, hF1, k1⟩
  have HRR := Lib.hid hF1.rr
  have HK1 := Lib.hid k1
  have HT := Lib.hid (T.keep k1)
  have HL1 := Lib.hid (sul_len zs)
  clear HSU0 hF1 T
  go_wp2_with fail
  refine (newRing 2 _ (by omega)).mono ?_
  rintro e w2 ⟨rfl, hR2, k2, hs2⟩
  have hs2' : w1.heap.size ≤ w2.heap.size := k2.size
  obtain ⟨b1, o1, rfl, _, ⟨g0, g1⟩⟩ := (HRR.out.keep k2).at_ (i := 0) (by rw [HL1.out]; omega)
  have e0 : (sul zs).getD 0 u0 = su zs 0 := sul_at (by omega)
  rw [e0, Nat.zero_mul, Nat.add_zero] at g0 g1
  have HS0 : Hid (su zs 0 = ((0 : Int), (0 : Int))) := Lib.hid (su_zero zs)
  rw [HS0.out] at g0 g1
  simp only [uL, uH] at g0 g1
  have HPu := Lib.hid (push_any (w1.heap.size + 1) w1.heap.size 2 0 0 (List.replicate 2 u0) (0, 0) w2 hR2 (by omega) (by omega) (by omega) (by simp))
  obtain ⟨N1, hN1⟩ : ∃ N1, (sul zs).length = N1 := ⟨_, rfl⟩
  have hN0 : 0 < N1 := by rw [← hN1, HL1.out]; omega
  rw [hN1]
  clear hR2 e0
  go_wp2_with fail
  refine HPu.out.mono ?_
  rintro e w3 ⟨rfl, hR3, h23⟩
  have K3 : Keep w1 w3 := h23.keep k2 (by omega) (Nat.le_refl _)
  have h23s := h23.size
  have HR3 := Lib.hid hR3
  rw [show (List.replicate 2 u0).set 0 ((0, 0) : R2) = [(0, 0), u0] from rfl] at HR3
  clear hR3 h23 HPu g0 g1
  rw [← hN1]
  clear hN1 hN0
  go_wp2_with fail
  go_loopw [10, 32] (fun u i wr => ∃ (k n c' : Nat) (ga : Option Addr) (p : Nat) (ss : List R2), k ≤ zs.length ∧ i = .int .i64 k ∧ u = .slice ga n c' ∧ Hid (n = (mthC (mthD f c) zs c zs.length k).length) ∧
      Hid (wr.ownsRow w2.heap.size 33 4 (.slice ga n c') n (flatR (mthC (mthD f c) zs c zs.length k))) ∧ Hid (Ring wr (w1.heap.size + 1) w1.heap.size 2 p ss) ∧
      Hid (1 ≤ p ∧ p ≤ k + 1 ∧ ss.getD ((p - 1) % 2) u0 = su zs (mthB (mthD f c) c zs.length k)) ∧ Keep w1 wr ∧ w2.heap.size ≤ wr.heap.size ∧ Hid (∀ j, j < k → ∃ y m d, dv y m d c = true ∧ dn y m d c = f + (j : Int))) (fun _ i _ => zs.length - (RowKit.intOf i).toNat)
  case atStart => exact ⟨0, 0, 0, none, 1, _, by omega, rfl, rfl, Lib.hid rfl, Lib.hid (World.ownsRow_nil _ _ _ _), HR3, Lib.hid ⟨by omega, by omega, by rw [mthB, HS0.out]; rfl⟩, K3, h23s, Lib.hid (fun j hj => absurd hj (by omega))⟩
  case round =>
    clear HR3 K3 HS0
    obtain ⟨k, n, c', ga, p, ss, hk, rfl, rfl, HLN, HOW, HRG, HPP, hK, hszr, HDT⟩ := hrel
    have hsz := hK.size
    have hln := mthC_len (mthD f c) zs c zs.length k
    by_cases hlt : k < zs.length
    · have hfk : IntKind.i64.wrap (f + (k : Int)) = f + (k : Int) := by
        by_cases k0 : k = 0
        · subst k0; simpa using hfw
        · obtain ⟨y, m, d, h1, h2⟩ := HDT.out 0 (by omega)
          have hb := dn_bd h1
          exact IntWalk.i64_in _ (by omega)
      rcases Bool.eq_false_or_eq_true (dayOk (f + (k : Int)) c) with hd | hd
      case' inr =>
        have HNO := Lib.hid (mthOk_bad (zs := zs) hlt hd)
        have HDO := Lib.hid (dateof_impl_no (f + (k : Int)) c wr (HT.out.keep hK) hd)
        clear hd
        go_wp2_with fail
        refine HDO.out.mono ?_
        rintro e w4 ⟨rfl, k4⟩
        go_wp2
        go_ret2
        exact mth_no HNO.out (((HK1.out.trans hK).trans k4).alloc _)
      have HDO := Lib.hid (dateof_impl_yes (f + (k : Int)) c wr (HT.out.keep hK) hd)
      go_wp2_with fail
      refine HDO.out.mono ?_
      rintro e w4 ⟨y, m, d, rfl, hdv, hdn, k4⟩
      obtain ⟨hcO, y1, y2, m1, m2, dd1, dd2⟩ := dv_facts hdv
      have HDK : Hid (mthD f c k = (y, m, d)) := Lib.hid (dOf_of hdv hdn)
      have HDN : Hid (∀ j, j < k + 1 → ∃ y m d, dv y m d c = true ∧ dn y m d c = f + (j : Int)) := Lib.hid (fun j hj => by
        by_cases e : j < k
        · exact HDT.out j e
        · obtain rfl : j = k := by omega
          exact ⟨y, m, d, hdv, hdn⟩)
      have HE : Hid (mthE (mthD f c) c zs.length k = (decide (k + 1 = zs.length) || decide (d = mlen y m c))) := Lib.hid (by rw [mthE, HDK.out])
      have HCy : Hid (mthE (mthD f c) c zs.length k = true → mthC (mthD f c) zs c zs.length (k + 1) = mthC (mthD f c) zs c zs.length k ++ [(y, m, (su zs (k + 1)).1 - (su zs (mthB (mthD f c) c zs.length k)).1, (su zs (k + 1)).2 - (su zs (mthB (mthD f c) c zs.length k)).2)]) := Lib.hid (fun h9 => by rw [mthC, if_pos h9, mthR, HDK.out])
      have HBy : Hid (mthE (mthD f c) c zs.length k = true → mthB (mthD f c) c zs.length (k + 1) = k + 1) := Lib.hid (fun h9 => by rw [mthB, if_pos h9])
      have HCn : Hid (mthE (mthD f c) c zs.length k = false → mthC (mthD f c) zs c zs.length (k + 1) = mthC (mthD f c) zs c zs.length k ∧ mthB (mthD f c) c zs.length (k + 1) = mthB (mthD f c) c zs.length k) := Lib.hid (fun h9 => ⟨by rw [mthC, if_neg (by rw [h9]; decide)], by rw [mthB, if_neg (by rw [h9]; decide)]⟩)
      have KD : Keep w1 (w4.alloc (.cells #[.int .i64 y, .int .i64 m, .int .i64 d] 38)) := (hK.trans k4).alloc _
      have HOD := Lib.hid ((own_keepM HOW.out k4).alloc (.cells #[.int .i64 y, .int .i64 m, .int .i64 d] 38))
      have HRD := Lib.hid ((HRG.out.keep k4).keep ((Keep.refl w4).alloc (.cells #[.int .i64 y, .int .i64 m, .int .i64 d] 38)))
      have d0 : (w4.alloc (.cells #[.int .i64 y, .int .i64 m, .int .i64 d] 38)).cell? ⟨w4.heap.size, 0, none⟩ = some (.int .i64 y) := World.cell?_alloc_new w4 _ _ 0
      have d1 : (w4.alloc (.cells #[.int .i64 y, .int .i64 m, .int .i64 d] 38)).cell? ⟨w4.heap.size, 1, none⟩ = some (.int .i64 m) := World.cell?_alloc_new w4 _ _ 1
      have d2 : (w4.alloc (.cells #[.int .i64 y, .int .i64 m, .int .i64 d] 38)).cell? ⟨w4.heap.size, 2, none⟩ = some (.int .i64 d) := World.cell?_alloc_new w4 _ _ 2
      have T13 : Hid (∀ n, Tabs ((w4.alloc (.cells #[.int .i64 y, .int .i64 m, .int .i64 d] 38)).drewN n)) := Lib.hid (fun n => ((HT.out.keep KD).drewN n))
      have hlw : IntKind.i64.wrap ((zs.length : Int) - 1) = (zs.length : Int) - 1 := IntWalk.i64_in _ (by omega)
      have hyk : yOk y = true := by simp [yOk, inB]; omega
      have HLK : Hid (k + 1 ≤ zs.length) := Lib.hid hlt
      clear hdv hdn hd HDO dd1 dd2 y1 y2
      by_cases hlast : k + 1 = zs.length
      · have hb1 : ((k : Int) == (zs.length : Int) - 1) = true := by simp; omega
        have HLA := Lib.hid hlast
        clear hlast
        go_wp2_with fail
        go_quiet (fail)
        have KQ : Keep (w4.alloc (.cells #[.int .i64 y, .int .i64 m, .int .i64 d] 38)) ((w4.alloc (.cells #[.int .i64 y, .int .i64 m, .int .i64 d] 38)).drewN nq) := (Keep.refl _).drewN nq
        replace d0 := KQ.cell d0
        replace d1 := KQ.cell d1
        replace HOD := Lib.hid (own_keepM HOD.out KQ)
        replace HRD := Lib.hid (HRD.out.keep KQ)
        replace KD := KD.trans KQ
        have hszD : w2.heap.size ≤ ((w4.alloc (.cells #[.int .i64 y, .int .i64 m, .int .i64 d] 38)).drewN nq).heap.size := by have h8 := KQ.size; have h9 := k4.size; simp at h8 h9 ⊢; omega
        have hD1 : w4.heap.size ≠ w1.heap.size + 1 := by have h9 := k4.size; omega
        have hD2 : w4.heap.size ≠ w1.heap.size := by have h9 := k4.size; omega
        clear KQ d2
        generalize (w4.alloc (.cells #[.int .i64 y, .int .i64 m, .int .i64 d] 38)).drewN nq = W5 at *
        have HC1 := Lib.hid (HCy.out (by rw [HE.out]; simp [HLA.out]))
        have HB1 := Lib.hid (HBy.out (by rw [HE.out]; simp [HLA.out]))
        obtain ⟨j, hj⟩ : ∃ j, Hid (k + 1 = j) := ⟨_, Lib.hid rfl⟩
        obtain ⟨b2, o2, ho2, _, g0, g1⟩ := (HRR.out.keep KD).at_ (i := j) (by rw [HL1.out, ← hj.out]; omega)
        obtain ⟨rfl, rfl⟩ : b2 = b1 ∧ o2 = o1 := by simp only [Option.some.injEq, Addr.mk.injEq] at ho2; exact ⟨ho2.1.symm, ho2.2.1.symm⟩
        clear ho2
        have eS : (sul zs).getD j u0 = su zs (k + 1) := (sul_at (zs := zs) (show j ≤ zs.length by rw [← hj.out]; omega)).trans (by rw [← hj.out])
        rw [eS] at g0 g1
        clear eS
        obtain ⟨⟨q0, q1⟩, q2, q3⟩ := su_bd HSQ.out (k := k + 1) (by omega)
        obtain ⟨⟨r0, r1⟩, r2, r3⟩ := su_bd HSQ.out (k := mthB (mthD f c) c zs.length k) (by have := mthB_le (mthD f c) c zs.length k; omega)
        obtain ⟨st1, sn1, HSU⟩ : ∃ st1 sn1, Hid (su zs (k + 1) = (st1, sn1)) := ⟨_, _, Lib.hid rfl⟩
        obtain ⟨t0, n0, HSB0⟩ : ∃ t0 n0, Hid (su zs (mthB (mthD f c) c zs.length k) = (t0, n0)) := ⟨_, _, Lib.hid rfl⟩
        obtain ⟨st, hst⟩ : ∃ st, st = st1 - t0 := ⟨_, rfl⟩
        obtain ⟨sn, hsn⟩ : ∃ sn, sn = sn1 - n0 := ⟨_, rfl⟩
        rw [HSU.out] at g0 g1 q0 q1 q2 q3
        rw [HSB0.out] at r0 r1 r2 r3
        simp only [uL, uH] at g0 g1
        dsimp only at q0 q1 q2 q3 r0 r1 r2 r3
        rw [HSU.out, HSB0.out] at HC1
        dsimp only at HC1
        rw [← hst, ← hsn] at HC1
        have HSV : Hid (sbV [(t0, n0), (st1, sn1)] 0 1 = (st, sn)) := Lib.hid (by
          have hb : sbB [(t0, n0), (st1, sn1)] 0 1 = true := sbB_mk (by simp) (by simp) (smOk_mk (by simp; omega)) (smOk_mk (by simp; omega))
          rw [sbV_yes hb, hst, hsn]; rfl)
        have hp1 := HPP.out.1
        have hp2 := HPP.out.2.1
        have HR2 := Lib.hid (ring2 (s' := (st1, sn1)) HRD.out.ln hp1 rfl (HPP.out.2.2.trans HSB0.out))
        have HPush := Lib.hid (fun W (hk : Keep W5 W) => push_any (w1.heap.size + 1) w1.heap.size 2 p (p % 2) ss (st1, sn1) W (HRD.out.keep hk) (by omega) (by omega) (by omega) rfl)
        have j0 : (0 : Int) ≤ (j : Int) := by omega
        have j1 : (j : Int) < ((sul zs).length : Int) := by rw [HL1.out, ← hj.out]; omega
        have j2 : j < (sul zs).length := by rw [HL1.out, ← hj.out]; omega
        have jw : IntKind.i64.wrap ((k : Int) + 1) = (j : Int) := by rw [show (k : Int) + 1 = (j : Int) by rw [← hj.out]; omega]; exact IntWalk.i64_in _ (by rw [← hj.out]; omega)
        clear HCy HBy HCn HE HRD q0 q1 q2 q3 r0 r1 r2 r3 hst hsn HOW HRG
        go_wp2_with fail
        refine (HPush.out _ (Keep.refl _)).mono ?_
        rintro e w6 ⟨rfl, hR6, h26⟩
        have K6 : Keep w1 w6 := h26.keep KD (by omega) (by omega)
        have s26 := h26.size
        have hlen : n ≤ 12 := by rw [HLN.out]; omega
        have HO6 := Lib.hid (own_two HOD.out h26 (by omega) (by omega))
        obtain ⟨E1, E2⟩ := HR2.out
        have HKp := Lib.hid (kept_any (w1.heap.size + 1) w1.heap.size 2 (p + 1) _ w6 hR6 (by omega) (by omega) (by omega))
        rw [E1] at HKp
        have e0 := h26.cell d0 hD1 hD2
        have e1 := h26.cell d1 hD1 hD2
        have HR6 := Lib.hid hR6
        clear hR6 h26
        go_wp2_with fail
        refine HKp.out.mono ?_
        rintro e w7 ⟨x7, c7, rfl, hc7, hF7, k7⟩
        have HSB := Lib.hid (sb_impl x7 c7 _ 0 1 w7 hF7.rr (by simp) (by omega) (by omega) (by omega) (by omega))
        rw [HSV.out] at HSB
        clear HKp hF7
        go_wp2_with fail
        refine HSB.out.mono ?_
        rintro e w8 ⟨rfl, k8⟩
        have k68 := k7.trans k8
        have f0 := k68.cell e0
        have f1 := k68.cell e1
        have K8 : Keep w1 w8 := K6.trans k68
        have HO8 := Lib.hid (own_keepM HO6.out k68)
        have HR8 := Lib.hid (HR6.out.keep k68)
        have s8 := K8.size
        have s68 := k68.size
        have hw28 : w2.heap.size ≤ w8.heap.size := by omega
        clear k7 k8 k68 HO6 HR6 e0 e1 HSB
        have hl48 : w4.heap.size < w8.heap.size := by have h9 := World.block_lt_of_cell? w8 _ f0; simpa using h9
        have hn48 : w4.heap.size ≠ w8.heap.size := by omega
        have hown := HO8.out.alloc (.cells #[.int .i64 st, .int .i64 sn] 31)
        go_wp2_with (at_builtin; go_loud (refine wpList_append_own _ rfl _ _ 26 rfl w2.heap.size 33 i0 (.agg #[.int .i64 0, .int .i64 0, .int .i64 0, .int .i64 0]) 4 32 Tryd.underlying26 hi hz0 hz1 hz2 rfl (by decide) _ _ _ rfl (hown.alloc _) ⟨w8.heap.size + 1, 0, none⟩ 1 1 (rc (y, m, st, sn)) rfl rfl ?c1a ?c2a ?c3a ?c4a ?c5a ?_))
        case c1a =>
          have h9 := newsM (w8.alloc (.cells #[.int .i64 st, .int .i64 sn] 31)) (s := y) (d := m) (k := st) (v := sn)
          simpa using h9
        case c2a => exact rc_one _
        case c3a => unfold maxLen; omega
        case c4a => omega
        case c5a => first | omega | (simp; omega)
        intro v' w9 hown' hgrow hnil
        obtain ⟨g', c', rfl, hbg, hlg⟩ := hown'.form (by omega)
        have KA : Keep w1 ((w8.alloc (.cells #[.int .i64 st, .int .i64 sn] 31)).alloc (.cells #[.int .i64 y, .int .i64 m, .int .i64 st, .int .i64 sn] 33)) := (K8.alloc _).alloc _
        have HN : Hid (w9.ownsRow w2.heap.size 33 4 (.slice (some ⟨g', 0, none⟩) (n + 1) c') (n + 1) (flatR (mthC (mthD f c) zs c zs.length (k + 1)))) := Lib.hid (by rw [HC1.out, flatR_app, flatR_one]; exact hown')
        have HN2 : Hid (n + 1 = (mthC (mthD f c) zs c zs.length (k + 1)).length) := Lib.hid (by rw [HC1.out, List.length_append, ← HLN.out]; rfl)
        have HS9 : Hid (w2.heap.size ≤ w9.heap.size) := Lib.hid (by have h9 := hgrow.size; simp at h9; omega)
        have HK9 : Hid (Keep w1 w9) := Lib.hid (Below.grown KA hgrow KA.size (fun q hq => Nat.le_trans hs2' ((HO8.out.lt q hq).1)))
        have HB9 : Hid (Below w2.heap.size w8 w9) := Lib.hid (Below.grown (B := w2.heap.size) ((((Below.refl w2.heap.size w8).alloc (by omega) _).alloc (by simp; omega) _)) hgrow (by simp; omega) (fun q hq => (HO8.out.lt q hq).1))
        have HR9 := Lib.hid (HR8.out.below HB9.out (by omega) (by omega))
        have HP9 : Hid (1 ≤ p + 1 ∧ p + 1 ≤ k + 1 + 1 ∧ (ss.set (p % 2) (st1, sn1)).getD ((p + 1 - 1) % 2) u0 = su zs (mthB (mthD f c) c zs.length (k + 1))) := Lib.hid ⟨by omega, by omega, by rw [E2, HB1.out, HSU.out]⟩
        clear hown' hgrow hnil hown HB9 HR8 HO8 KA E1 E2
        go_wp2
        go_roundw
        case rel => exact ⟨k + 1, n + 1, c', some ⟨g', 0, none⟩, p + 1, _, HLK.out, by rw [← hj.out], rfl, HN2, HN, HR9, HP9, HK9.out, HS9.out, HDN⟩
        case measure => have h9 := HLK.out; have h8 := hj.out; simp [RowKit.intOf]; omega
      have hb1 : ((k : Int) == (zs.length : Int) - 1) = false := by simp; omega
      have hb2 : ¬ (k : Int) = (zs.length : Int) - 1 := by omega
      obtain ⟨ml, hml⟩ : ∃ ml, mlen y m c = ml := ⟨_, rfl⟩
      have HML := Lib.hid (fun n => mon_impl y m c _ (T13.out n) hcO hyk m1 m2)
      rw [hml] at HML HE
      clear hml
      by_cases hmd : d = ml
      · have hd1 : (d == ml) = true := beq_iff_eq.2 hmd
        have HMD := Lib.hid hmd
        clear hmd
        go_wp2_with fail
        go_quiet ((go_at_call 31; exact quietS (HML.out _)))
        have KQ : Keep (w4.alloc (.cells #[.int .i64 y, .int .i64 m, .int .i64 d] 38)) ((w4.alloc (.cells #[.int .i64 y, .int .i64 m, .int .i64 d] 38)).drewN nq) := (Keep.refl _).drewN nq
        replace d0 := KQ.cell d0
        replace d1 := KQ.cell d1
        replace HOD := Lib.hid (own_keepM HOD.out KQ)
        replace HRD := Lib.hid (HRD.out.keep KQ)
        replace KD := KD.trans KQ
        have hszD : w2.heap.size ≤ ((w4.alloc (.cells #[.int .i64 y, .int .i64 m, .int .i64 d] 38)).drewN nq).heap.size := by have h8 := KQ.size; have h9 := k4.size; simp at h8 h9 ⊢; omega
        have hD1 : w4.heap.size ≠ w1.heap.size + 1 := by have h9 := k4.size; omega
        have hD2 : w4.heap.size ≠ w1.heap.size := by have h9 := k4.size; omega
        clear KQ d2
        generalize (w4.alloc (.cells #[.int .i64 y, .int .i64 m, .int .i64 d] 38)).drewN nq = W5 at *
        have HC1 := Lib.hid (HCy.out (by rw [HE.out]; simp [HMD.out]))
        have HB1 := Lib.hid (HBy.out (by rw [HE.out]; simp [HMD.out]))
        obtain ⟨j, hj⟩ : ∃ j, Hid (k + 1 = j) := ⟨_, Lib.hid rfl⟩
        obtain ⟨b2, o2, ho2, _, g0, g1⟩ := (HRR.out.keep KD).at_ (i := j) (by rw [HL1.out, ← hj.out]; omega)
        obtain ⟨rfl, rfl⟩ : b2 = b1 ∧ o2 = o1 := by simp only [Option.some.injEq, Addr.mk.injEq] at ho2; exact ⟨ho2.1.symm, ho2.2.1.symm⟩
        clear ho2
        have eS : (sul zs).getD j u0 = su zs (k + 1) := (sul_at (zs := zs) (show j ≤ zs.length by rw [← hj.out]; omega)).trans (by rw [← hj.out])
        rw [eS] at g0 g1
        clear eS
        obtain ⟨⟨q0, q1⟩, q2, q3⟩ := su_bd HSQ.out (k := k + 1) (by omega)
        obtain ⟨⟨r0, r1⟩, r2, r3⟩ := su_bd HSQ.out (k := mthB (mthD f c) c zs.length k) (by have := mthB_le (mthD f c) c zs.length k; omega)
        obtain ⟨st1, sn1, HSU⟩ : ∃ st1 sn1, Hid (su zs (k + 1) = (st1, sn1)) := ⟨_, _, Lib.hid rfl⟩
        obtain ⟨t0, n0, HSB0⟩ : ∃ t0 n0, Hid (su zs (mthB (mthD f c) c zs.length k) = (t0, n0)) := ⟨_, _, Lib.hid rfl⟩
        obtain ⟨st, hst⟩ : ∃ st, st = st1 - t0 := ⟨_, rfl⟩
        obtain ⟨sn, hsn⟩ : ∃ sn, sn = sn1 - n0 := ⟨_, rfl⟩
        rw [HSU.out] at g0 g1 q0 q1 q2 q3
        rw [HSB0.out] at r0 r1 r2 r3
        simp only [uL, uH] at g0 g1
        dsimp only at q0 q1 q2 q3 r0 r1 r2 r3
        rw [HSU.out, HSB0.out] at HC1
        dsimp only at HC1
        rw [← hst, ← hsn] at HC1
        have HSV : Hid (sbV [(t0, n0), (st1, sn1)] 0 1 = (st, sn)) := Lib.hid (by
          have hb : sbB [(t0, n0), (st1, sn1)] 0 1 = true := sbB_mk (by simp) (by simp) (smOk_mk (by simp; omega)) (smOk_mk (by simp; omega))
          rw [sbV_yes hb, hst, hsn]; rfl)
        have hp1 := HPP.out.1
        have hp2 := HPP.out.2.1
        have HR2 := Lib.hid (ring2 (s' := (st1, sn1)) HRD.out.ln hp1 rfl (HPP.out.2.2.trans HSB0.out))
        have HPush := Lib.hid (fun W (hk : Keep W5 W) => push_any (w1.heap.size + 1) w1.heap.size 2 p (p % 2) ss (st1, sn1) W (HRD.out.keep hk) (by omega) (by omega) (by omega) rfl)
        have j0 : (0 : Int) ≤ (j : Int) := by omega
        have j1 : (j : Int) < ((sul zs).length : Int) := by rw [HL1.out, ← hj.out]; omega
        have j2 : j < (sul zs).length := by rw [HL1.out, ← hj.out]; omega
        have jw : IntKind.i64.wrap ((k : Int) + 1) = (j : Int) := by rw [show (k : Int) + 1 = (j : Int) by rw [← hj.out]; omega]; exact IntWalk.i64_in _ (by rw [← hj.out]; omega)
        clear HCy HBy HCn HE HRD q0 q1 q2 q3 r0 r1 r2 r3 hst hsn HOW HRG
        go_wp2_with fail
        refine (HPush.out _ (Keep.refl _)).mono ?_
        rintro e w6 ⟨rfl, hR6, h26⟩
        have K6 : Keep w1 w6 := h26.keep KD (by omega) (by omega)
        have s26 := h26.size
        have hlen : n ≤ 12 := by rw [HLN.out]; omega
        have HO6 := Lib.hid (own_two HOD.out h26 (by omega) (by omega))
        obtain ⟨E1, E2⟩ := HR2.out
        have HKp := Lib.hid (kept_any (w1.heap.size + 1) w1.heap.size 2 (p + 1) _ w6 hR6 (by omega) (by omega) (by omega))
        rw [E1] at HKp
        have e0 := h26.cell d0 hD1 hD2
        have e1 := h26.cell d1 hD1 hD2
        have HR6 := Lib.hid hR6
        clear hR6 h26
        go_wp2_with fail
        refine HKp.out.mono ?_
        rintro e w7 ⟨x7, c7, rfl, hc7, hF7, k7⟩
        have HSB := Lib.hid (sb_impl x7 c7 _ 0 1 w7 hF7.rr (by simp) (by omega) (by omega) (by omega) (by omega))
        rw [HSV.out] at HSB
        clear HKp hF7
        go_wp2_with fail
        refine HSB.out.mono ?_
        rintro e w8 ⟨rfl, k8⟩
        have k68 := k7.trans k8
        have f0 := k68.cell e0
        have f1 := k68.cell e1
        have K8 : Keep w1 w8 := K6.trans k68
        have HO8 := Lib.hid (own_keepM HO6.out k68)
        have HR8 := Lib.hid (HR6.out.keep k68)
        have s8 := K8.size
        have s68 := k68.size
        have hw28 : w2.heap.size ≤ w8.heap.size := by omega
        clear k7 k8 k68 HO6 HR6 e0 e1 HSB
        have hl48 : w4.heap.size < w8.heap.size := by have h9 := World.block_lt_of_cell? w8 _ f0; simpa using h9
        have hn48 : w4.heap.size ≠ w8.heap.size := by omega
        have hown := HO8.out.alloc (.cells #[.int .i64 st, .int .i64 sn] 31)
        go_wp2_with (at_builtin; go_loud (refine wpList_append_own _ rfl _ _ 26 rfl w2.heap.size 33 i0 (.agg #[.int .i64 0, .int .i64 0, .int .i64 0, .int .i64 0]) 4 32 Tryd.underlying26 hi hz0 hz1 hz2 rfl (by decide) _ _ _ rfl (hown.alloc _) ⟨w8.heap.size + 1, 0, none⟩ 1 1 (rc (y, m, st, sn)) rfl rfl ?c1a ?c2a ?c3a ?c4a ?c5a ?_))
        case c1a =>
          have h9 := newsM (w8.alloc (.cells #[.int .i64 st, .int .i64 sn] 31)) (s := y) (d := m) (k := st) (v := sn)
          simpa using h9
        case c2a => exact rc_one _
        case c3a => unfold maxLen; omega
        case c4a => omega
        case c5a => first | omega | (simp; omega)
        intro v' w9 hown' hgrow hnil
        obtain ⟨g', c', rfl, hbg, hlg⟩ := hown'.form (by omega)
        have KA : Keep w1 ((w8.alloc (.cells #[.int .i64 st, .int .i64 sn] 31)).alloc (.cells #[.int .i64 y, .int .i64 m, .int .i64 st, .int .i64 sn] 33)) := (K8.alloc _).alloc _
        have HN : Hid (w9.ownsRow w2.heap.size 33 4 (.slice (some ⟨g', 0, none⟩) (n + 1) c') (n + 1) (flatR (mthC (mthD f c) zs c zs.length (k + 1)))) := Lib.hid (by rw [HC1.out, flatR_app, flatR_one]; exact hown')
        have HN2 : Hid (n + 1 = (mthC (mthD f c) zs c zs.length (k + 1)).length) := Lib.hid (by rw [HC1.out, List.length_append, ← HLN.out]; rfl)
        have HS9 : Hid (w2.heap.size ≤ w9.heap.size) := Lib.hid (by have h9 := hgrow.size; simp at h9; omega)
        have HK9 : Hid (Keep w1 w9) := Lib.hid (Below.grown KA hgrow KA.size (fun q hq => Nat.le_trans hs2' ((HO8.out.lt q hq).1)))
        have HB9 : Hid (Below w2.heap.size w8 w9) := Lib.hid (Below.grown (B := w2.heap.size) ((((Below.refl w2.heap.size w8).alloc (by omega) _).alloc (by simp; omega) _)) hgrow (by simp; omega) (fun q hq => (HO8.out.lt q hq).1))
        have HR9 := Lib.hid (HR8.out.below HB9.out (by omega) (by omega))
        have HP9 : Hid (1 ≤ p + 1 ∧ p + 1 ≤ k + 1 + 1 ∧ (ss.set (p % 2) (st1, sn1)).getD ((p + 1 - 1) % 2) u0 = su zs (mthB (mthD f c) c zs.length (k + 1))) := Lib.hid ⟨by omega, by omega, by rw [E2, HB1.out, HSU.out]⟩
        clear hown' hgrow hnil hown HB9 HR8 HO8 KA E1 E2
        go_wp2
        go_roundw
        case rel => exact ⟨k + 1, n + 1, c', some ⟨g', 0, none⟩, p + 1, _, HLK.out, by rw [← hj.out], rfl, HN2, HN, HR9, HP9, HK9.out, HS9.out, HDN⟩
        case measure => have h9 := HLK.out; have h8 := hj.out; simp [RowKit.intOf]; omega
      · have hd1 : (d == ml) = false := beq_eq_false_iff_ne.2 hmd
        obtain ⟨e1, e2⟩ := HCn.out (by rw [HE.out, decide_eq_false hlast, decide_eq_false hmd]; rfl)
        have HE1 := Lib.hid e1
        have HE2 := Lib.hid e2
        clear e1 e2 HCn HCy HBy HE
        go_wp2_with fail
        go_quiet ((go_at_call 31; exact quietS (HML.out _)))
        have hk4 := k4.size
        go_wp2
        go_roundw
        case rel => exact ⟨k + 1, n, c', ga, p, ss, by omega, by go_num, rfl, Lib.hid (by rw [HE1.out]; exact HLN.out), Lib.hid (by rw [HE1.out]; exact own_keepM HOD.out ((Keep.refl _).drewN _)), Lib.hid (HRD.out.keep ((Keep.refl _).drewN _)), Lib.hid ⟨HPP.out.1, by have := HPP.out.2.1; omega, by rw [HE2.out]; exact HPP.out.2.2⟩, KD.drewN _, by simp; omega, HDN⟩
        case measure => simp [RowKit.intOf]; omega
    · obtain rfl : k = zs.length := by omega
      have HOK : Hid (mthOk zs f c = true) := Lib.hid (mthOk_mk HSQ.out (fun j hj => by
        obtain ⟨y, m, d, h1, h2⟩ := HDT.out j hj
        rw [← h2]; exact dn_ok h1))
      have HML : Hid (mthC (mthD f c) zs c zs.length zs.length = mthL zs f c) := Lib.hid (by
        rw [mthL_yes HOK.out]; exact mth_all (mthD_run HDT.out) (by omega))
      rw [HML.out] at HLN HOW
      have HF := Lib.hid (frR_ownE (w := w) (by have h1 := HOW.out; rw [HLN.out] at h1; exact h1) (Nat.le_trans HK1.out.size hs2'))
      go_wp2
      go_ret2
      exact ⟨ga, c', by rw [HLN.out, HOK.out]; rfl, HF.out.2, HF.out.1, HK1.out.trans hK⟩
end Go.Proofs.YtohoeonfoolpdaaDoor
namespace Go.Proofs.YtohoeonfoolpdaaDoor
open Go.RowKit
set_option linter.unusedVariables false

theorem flat_put (M : List R4) (y m T N T' N' : Int) {q : Nat} (hq : M.length = q) :
    ((flatR (M ++ [(y, m, T, N)])).set (q * 4 + 2) (.int .i64 T')).set (q * 4 + 3) (.int .i64 N') = flatR (M ++ [(y, m, T', N')]) := by
  have hl : (flatR M).length = q * 4 := by rw [flatR_len, hq]
  rw [flatR_app, flatR_app, flatR_one, flatR_one, List.set_append_right _ _ (by omega), List.set_append_right _ _ (by omega), hl]
  rw [show q * 4 + 2 - q * 4 = 2 by omega, show q * 4 + 3 - q * 4 = 3 by omega]
  rfl
theorem sadd_bd {t m x B : Int} (hx : -20000 ≤ x ∧ x ≤ 20000) (ht : -B ≤ t ∧ t ≤ B) (hm : -B ≤ m ∧ m ≤ B) (hB : 0 ≤ B) : (-(B + 20000) ≤ (sadd (t, m) x).1 ∧ (sadd (t, m) x).1 ≤ B + 20000) ∧ (-(B + 20000) ≤ (sadd (t, m) x).2 ∧ (sadd (t, m) x).2 ≤ B + 20000) := by
  unfold sadd; split <;> dsimp only <;> omega
theorem mthN_bd' {zs : List Int} (h : ∀ k, k < zs.length → -20000 ≤ zs.getD k 0 ∧ zs.getD k 0 ≤ 20000) (dt : Nat → Int × Int × Int) : ∀ k, k ≤ zs.length → ∀ r ∈ mthN dt zs k, (-(20000 * (k : Int)) ≤ rK r ∧ rK r ≤ 20000 * (k : Int)) ∧ (-(20000 * (k : Int)) ≤ rV r ∧ rV r ≤ 20000 * (k : Int))
  | 0, _, r, hr => absurd hr (by simp [mthN])
  | k + 1, hk, r, hr => by
    have ih := mthN_bd' h dt k (by omega)
    have hz := h k (by omega)
    have h0 := sadd_bd (t := 0) (m := 0) (B := 20000 * (k : Int)) hz (by omega) (by omega) (by omega)
    rw [mthN, mthPut] at hr
    split at hr
    · obtain rfl := List.mem_singleton.1 hr
      simp only [rK, rV]; omega
    · rename_i q hq
      have hqm : q ∈ mthN dt zs k := List.mem_of_getLast? hq
      have h1 := sadd_bd hz (ih q hqm).1 (ih q hqm).2 (by omega)
      split at hr
      · rcases List.mem_append.1 hr with hr | hr
        · have h2 := ih r (List.dropLast_subset _ hr); omega
        · obtain rfl := List.mem_singleton.1 hr
          simp only [rK, rV] at h1 ⊢; omega
      · rcases List.mem_append.1 hr with hr | hr
        · have h2 := ih r hr; omega
        · obtain rfl := List.mem_singleton.1 hr
          simp only [rK, rV]; omega
theorem mthN_bd {zs : List Int} (h : sqB zs = true) (dt : Nat → Int × Int × Int) (k : Nat) (hk : k ≤ zs.length) (r : R4) (hr : r ∈ mthN dt zs k) : (-2000000 ≤ rK r ∧ rK r ≤ 2000000) ∧ (-2000000 ≤ rV r ∧ rV r ≤ 2000000) := by
  have h1 := mthN_bd' (fun j hj => by have := sq_at h hj; omega) dt k hk r hr
  have := (sq_facts h).2
  omega
theorem mthPut_new {L : List R4} {t : Int × Int × Int} {z : Int} (h : L = [] ∨ ∃ M r, L = M ++ [r] ∧ rD r ≠ t.2.1) : mthPut L t z = L ++ [(t.1, t.2.1, (sadd (0, 0) z).1, (sadd (0, 0) z).2)] := by
  rcases h with rfl | ⟨M, r, rfl, hr⟩
  · rfl
  · rw [mthPut]
    simp [hr]
theorem mthPut_old {M : List R4} {r : R4} {t : Int × Int × Int} {z : Int} (h : rD r = t.2.1) : mthPut (M ++ [r]) t z = M ++ [(rS r, rD r, (sadd (rK r, rV r) z).1, (sadd (rK r, rV r) z).2)] := by
  rw [mthPut]
  simp [h]
set_option maxRecDepth 100000 in
set_option maxHeartbeats 8000000 in
theorem mth_spec (a : Option Addr) (cap : Nat) (zs : List Int) (f c : Int) (w : World) (h : Ls w a zs) (hm : zs.length ≤ 1048576) (hfw : IntKind.i64.wrap f = f) :
    Calls Tryd.prog 9 #[.slice a zs.length cap, .int .i64 f, .int .i64 c] w (MthPost zs f c w) := by
  have HQ0 := Lib.hid (fun W (hk : Keep w W) => sqv_spec a cap zs W (h.keep hk) (by omega))
  rcases Bool.eq_false_or_eq_true (sqB zs) with hs | hs
  case' inr =>
    have HN := Lib.hid (mthOk_sq (f := f) (c := c) hs)
    rw [hs] at HQ0
    clear hs
    go_enter Tryd.func9, Tryd.ntmps9
    go_wp2_with fail
    refine (HQ0.out _ ((Keep.refl w).alloc _)).mono ?_
    rintro e w1 ⟨rfl, k1⟩
    go_wp2
    go_ret2
    exact mth_no HN.out (by rw [← k1]; exact (Keep.refl w).alloc _)
  obtain ⟨i0, hi, hz0, hz1, hz2⟩ := info_parts infoMon
  have hl := (sq_facts hs).2
  have HSQ := Lib.hid hs
  have HLs := Lib.hid h
  rw [hs] at HQ0
  clear hs h
  go_enter Tryd.func9, Tryd.ntmps9
  go_wp2_with fail
  refine (HQ0.out _ ((Keep.refl w).alloc _)).mono ?_
  rintro e w1 ⟨rfl, rfl⟩
  go_wp2_with fail
  go_loopw [8, 9] (fun u i wr => ∃ (k n : Nat) (ga : Option Addr) (c' : Nat), k ≤ zs.length ∧ i = .int .i64 k ∧ u = .slice ga n c' ∧ Hid (n = (mthN (mthD f c) zs k).length) ∧
      Hid (wr.ownsRow w.heap.size 33 4 (.slice ga n c') n (flatR (mthN (mthD f c) zs k))) ∧ Keep w wr ∧ Hid (∀ j, j < k → ∃ y m d, dv y m d c = true ∧ dn y m d c = f + (j : Int))) (fun _ i _ => zs.length - (RowKit.intOf i).toNat)
  case atStart => exact ⟨0, 0, _, _, by omega, rfl, rfl, Lib.hid rfl, Lib.hid (World.ownsRow_made w #[] 0 (Nat.le_refl _) (by unfold maxLen; omega) rfl), (Keep.refl w).alloc _, Lib.hid (fun j hj => absurd hj (by omega))⟩
  case round =>
    clear HQ0
    obtain ⟨k, n, ga, c', hk, rfl, rfl, HLN, HOW, hK, HDT⟩ := hrel
    have hsz := hK.size
    have hln := mthN_len (mthD f c) zs k
    by_cases hlt : k < zs.length
    · have hfk : IntKind.i64.wrap (f + (k : Int)) = f + (k : Int) := by
        by_cases k0 : k = 0
        · subst k0; simpa using hfw
        · obtain ⟨y, m, d, h1, h2⟩ := HDT.out 0 (by omega)
          have hb := dn_bd h1
          exact IntWalk.i64_in _ (by omega)
      rcases Bool.eq_false_or_eq_true (dayOk (f + (k : Int)) c) with hd | hd
      case' inr =>
        have HNO := Lib.hid (mthOk_bad (zs := zs) hlt hd)
        have HDO := Lib.hid (dateof_spec_no (f + (k : Int)) c wr hd)
        clear hd
        go_wp2_with fail
        refine HDO.out.mono ?_
        rintro e w4 ⟨rfl, k4⟩
        go_wp2
        go_ret2
        exact mth_no HNO.out (((hK.trans k4).alloc _).alloc _)
      have HDO := Lib.hid (dateof_spec_yes (f + (k : Int)) c wr hd)
      go_wp2_with fail
      refine HDO.out.mono ?_
      rintro e w4 ⟨y, m, d, rfl, hdv, hdn, k4⟩
      have HDK : Hid (mthD f c k = (y, m, d)) := Lib.hid (dOf_of hdv hdn)
      have HDN : Hid (∀ j, j < k + 1 → ∃ y m d, dv y m d c = true ∧ dn y m d c = f + (j : Int)) := Lib.hid (fun j hj => by
        by_cases e : j < k
        · exact HDT.out j e
        · obtain rfl : j = k := by omega
          exact ⟨y, m, d, hdv, hdn⟩)
      have hzb := sq_at HSQ.out hlt
      obtain ⟨z, HZ⟩ : ∃ z, Hid (zs.getD k 0 = z) := ⟨_, Lib.hid rfl⟩
      rw [HZ.out] at hzb
      have HM0 : Hid (mthN (mthD f c) zs (k + 1) = mthPut (mthN (mthD f c) zs k) (y, m, d) z) := Lib.hid (by rw [mthN, HDK.out, HZ.out])
      have KD : Keep w (w4.alloc (.cells #[.int .i64 y, .int .i64 m, .int .i64 d] 38)) := (hK.trans k4).alloc _
      have HOD := Lib.hid ((own_keepM HOW.out k4).alloc (.cells #[.int .i64 y, .int .i64 m, .int .i64 d] 38))
      have d0 : (w4.alloc (.cells #[.int .i64 y, .int .i64 m, .int .i64 d] 38)).cell? ⟨w4.heap.size, 0, none⟩ = some (.int .i64 y) := World.cell?_alloc_new w4 _ _ 0
      have d1 : (w4.alloc (.cells #[.int .i64 y, .int .i64 m, .int .i64 d] 38)).cell? ⟨w4.heap.size, 1, none⟩ = some (.int .i64 m) := World.cell?_alloc_new w4 _ _ 1
      clear hdv hdn hd HDO HDK HOW
      have hlen : n ≤ 12 := by rw [HLN.out]; omega
      rcases List.eq_nil_or_concat (mthN (mthD f c) zs k) with hnil | ⟨M, r, hcon⟩
      · have hn0 : n = 0 := by rw [HLN.out, hnil]; rfl
        have hn0d : ((n : Int) == 0) = true := by rw [hn0]; rfl
        have HM1 : Hid (∀ T' N', sadd ((0 : Int), (0 : Int)) z = (T', N') → mthN (mthD f c) zs (k + 1) = mthN (mthD f c) zs k ++ [(y, m, T', N')]) := Lib.hid (fun T' N' e => by rw [HM0.out, mthPut_new (.inl hnil), e])
        have HN0 := Lib.hid hn0
        clear hnil hn0 HM0
        go_wp2_with fail
        go_quiet (fail)
        have KQ : Keep (w4.alloc (.cells #[.int .i64 y, .int .i64 m, .int .i64 d] 38)) ((w4.alloc (.cells #[.int .i64 y, .int .i64 m, .int .i64 d] 38)).drewN nq) := (Keep.refl _).drewN nq
        replace d0 := KQ.cell d0
        replace d1 := KQ.cell d1
        have HOW := Lib.hid (own_keepM HOD.out KQ)
        have HK5 := Lib.hid (KD.trans KQ)
        clear KQ HOD
        generalize (w4.alloc (.cells #[.int .i64 y, .int .i64 m, .int .i64 d] 38)).drewN nq = W5 at *
        have hown := HOW.out
        have hs5 := HK5.out.size
        go_wp2_with (at_builtin; go_loud (refine wpList_append_own _ rfl _ _ 26 rfl w.heap.size 33 i0 (.agg #[.int .i64 0, .int .i64 0, .int .i64 0, .int .i64 0]) 4 32 Tryd.underlying26 hi hz0 hz1 hz2 rfl (by decide) _ _ _ rfl (hown.alloc _) ⟨W5.heap.size, 0, none⟩ 1 1 (rc (y, m, 0, 0)) rfl rfl (newsM W5) ?c1a ?c2a ?c3a ?c4a ?_))
        case c1a => exact rc_one _
        case c2a => unfold maxLen; omega
        case c3a => omega
        case c4a => first | omega | (simp; omega)
        intro v' W hown' hgrow hnil
        obtain ⟨g, c7, rfl, hbg, _⟩ := hown'.form (by omega)
        have HX : Hid (W.ownsRow w.heap.size 33 4 (.slice (some ⟨g, 0, none⟩) (n + 1) c7) (n + 1) (flatR (mthN (mthD f c) zs k ++ [(y, m, 0, 0)]))) := Lib.hid (by rw [flatR_app, flatR_one]; exact hown')
        have HKW : Hid (Keep w W) := Lib.hid (Below.grown (HK5.out.alloc (.cells #[.int .i64 y, .int .i64 m, .int .i64 0, .int .i64 0] 33)) hgrow (HK5.out.alloc (.cells #[.int .i64 y, .int .i64 m, .int .i64 0, .int .i64 0] 33)).size (fun q hq => (hown.lt q hq).1))
        have HQ : Hid ((mthN (mthD f c) zs k).length = n) := Lib.hid HLN.out.symm
        obtain ⟨b, off, hae, _, hcc⟩ := (HLs.out.keep HKW.out).all (by omega)
        have cz := hcc k hlt
        rw [HZ.out] at cz
        subst hae
        obtain ⟨T', N', HSA⟩ : ∃ T' N', Hid (sadd ((0 : Int), (0 : Int)) z = (T', N')) := ⟨_, _, Lib.hid rfl⟩
        have HAD := Lib.hid (fun W => ladd_any 0 0 z W (by omega) (by omega) (by omega) (by omega) (by omega) (by omega))
        rw [HSA.out] at HAD
        dsimp only at HAD
        have HMN := Lib.hid (HM1.out T' N' HSA.out)
        clear hown' hgrow hnil hown hcc
        generalize hMM : mthN (mthD f c) zs k = M at *
        clear hMM
        obtain ⟨nn, hnq⟩ : ∃ nn, nn = n + 1 := ⟨_, rfl⟩
        rw [← hnq] at HX ⊢
        have hq4 : (flatR (M ++ [(y, m, 0, 0)]))[n * 4 + 2]? = some (.int .i64 0) ∧ (flatR (M ++ [(y, m, 0, 0)]))[n * 4 + 3]? = some (.int .i64 0) := by
          have h2 := flatR_at (M ++ [(y, m, 0, 0)]) n 2 (by rw [List.length_append, HQ.out]; simp) (by omega)
          have h3 := flatR_at (M ++ [(y, m, 0, 0)]) n 3 (by rw [List.length_append, HQ.out]; simp) (by omega)
          have e9 : (M ++ [(y, m, 0, 0)]).getD n r0 = (y, m, 0, 0) := by
            rw [← HQ.out, List.getD_eq_getElem?_getD, List.getElem?_append_right (Nat.le_refl _)]; simp
          rw [e9] at h2 h3
          exact ⟨h2, h3⟩
        have c2 : W.cell? ⟨g, n * 4 + 2, none⟩ = some (.int .i64 0) := (World.ownsRow.cellAt HX.out _ (by omega)).trans hq4.1
        have c3 : W.cell? ⟨g, n * 4 + 3, none⟩ = some (.int .i64 0) := (World.ownsRow.cellAt HX.out _ (by omega)).trans hq4.2
        have f2 : W.frozen? ⟨g, n * 4 + 2, none⟩ = false := World.ownsRow.frozenAt HX.out _
        have f3 : W.frozen? ⟨g, n * 4 + 3, none⟩ = false := World.ownsRow.frozenAt HX.out _
        clear hq4
        have qw : IntKind.i64.wrap ((nn : Int) - 1) = (n : Int) := by
          rw [show (nn : Int) - 1 = (n : Int) by omega]; exact IntWalk.i64_in _ (by omega)
        have q0 : (0 : Int) ≤ (n : Int) := by omega
        have q1 : (n : Int) < (nn : Int) := by omega
        have q2 : n < nn := by omega
        have HSt : Hid (∀ W', Keep W W' → ((W'.setCell ⟨g, n * 4 + 2, none⟩ (.int .i64 T')).setCell ⟨g, n * 4 + 3, none⟩ (.int .i64 N')).ownsRow w.heap.size 33 4 (.slice (some ⟨g, 0, none⟩) nn c7) nn (flatR (M ++ [(y, m, T', N')]))) := Lib.hid (fun W' hk => by
          have h1 := (World.ownsRow.stored (World.ownsRow.stored (own_keepM HX.out hk) (n * 4 + 2) (.int .i64 T')).1 (n * 4 + 3) (.int .i64 N')).1
          rw [flat_put M y m 0 0 T' N' HQ.out] at h1
          exact h1)
        have HNQ : Hid (nn = n + 1) := Lib.hid hnq
        clear hnq
        go_wp2_with fail
        go_region_with ((go_at_call 36; refine (HAD.out _).mono ?_; rintro e wA ⟨rfl, kA⟩; have kA1 : Keep W wA := ((Keep.refl W).drewN 1).trans kA; have d2 := kA1.cell c2; have d3 := kA1.cell c3; have e2 := kA1.still c2 f2; have e3 := kA1.still c3 f3))
        all_goals
          have HFin := Lib.hid (HSt.out _ kA1)
          have HKF : Hid (Keep w ((wA.setCell ⟨g, n * 4 + 2, none⟩ (.int .i64 T')).setCell ⟨g, n * 4 + 3, none⟩ (.int .i64 N'))) := Lib.hid (((HKW.out.trans kA1).setCell hbg _).setCell hbg _)
          have HFL : Hid (Only w.heap.size w w) := Lib.hid (Only.refl _ _)
          go_wp2
          go_roundw
          case rel => exact ⟨k + 1, nn, some ⟨g, 0, none⟩, c7, by omega, by go_num, rfl, Lib.hid (by rw [HMN.out, List.length_append, HQ.out, HNQ.out]; rfl), Lib.hid (by rw [HMN.out]; exact HFin.out), HKF.out, HDN⟩
          case measure => simp [RowKit.intOf]; omega
      rw [List.concat_eq_append] at hcon
      obtain ⟨yy, mm, T, N⟩ := r
      have hql : n = M.length + 1 := by rw [HLN.out, hcon, List.length_append]; rfl
      obtain ⟨q, hq⟩ : ∃ q, M.length = q := ⟨_, rfl⟩
      rw [hq] at hql
      have HQ0 : Hid (M.length = q) := Lib.hid hq
      have hn0d : ((n : Int) == 0) = false := by simp; omega
      have hnn0 : ¬ (n : Int) = 0 := by omega
      have hqw : IntKind.i64.wrap ((n : Int) - 1) = (q : Int) := by
        rw [show (n : Int) - 1 = (q : Int) by omega]; exact IntWalk.i64_in _ (by omega)
      have hq0 : (0 : Int) ≤ (q : Int) := by omega
      have hq1 : (q : Int) < (n : Int) := by omega
      have hq2 : q < n := by omega
      have HNQ0 : Hid (n = q + 1) := Lib.hid hql
      obtain ⟨g0, c0', hv0, hbg0, hlg0⟩ := HOD.out.form (by omega)
      obtain ⟨rfl, rfl⟩ : ga = some ⟨g0, 0, none⟩ ∧ c' = c0' := by simp only [Value.slice.injEq] at hv0; exact ⟨hv0.1, hv0.2.2⟩
      clear hv0
      have hm1 : (w4.alloc (.cells #[.int .i64 y, .int .i64 m, .int .i64 d] 38)).cell? ⟨g0, q * 4 + 1, none⟩ = some (.int .i64 mm) := by
        rw [World.ownsRow.cellAt HOD.out _ (by omega), hcon]
        have h1 := flatR_at (M ++ [(yy, mm, T, N)]) q 1 (by rw [List.length_append, hq]; simp) (by omega)
        have e9 : (M ++ [(yy, mm, T, N)]).getD q r0 = (yy, mm, T, N) := by
          rw [← hq, List.getD_eq_getElem?_getD, List.getElem?_append_right (Nat.le_refl _)]; simp
        rw [e9] at h1
        exact h1
      clear hql hq
      by_cases hmm : mm = m
      · have hmd : (mm != m) = false := by simp [hmm]
        have HMN0 : Hid (mthN (mthD f c) zs (k + 1) = M ++ [(yy, mm, (sadd (T, N) z).1, (sadd (T, N) z).2)]) := Lib.hid (by rw [HM0.out, hcon, mthPut_old (by exact hmm)]; rfl)
        have HBD : Hid ((-2000000 ≤ T ∧ T ≤ 2000000) ∧ (-2000000 ≤ N ∧ N ≤ 2000000)) := Lib.hid (by
          have h9 := mthN_bd HSQ.out (mthD f c) k (by omega) (yy, mm, T, N) (by rw [hcon]; simp)
          simp only [rK, rV] at h9
          omega)
        have HMM := Lib.hid hmm
        clear hmm HM0
        go_wp2_with fail
        go_quiet (fail)
        have KQ : Keep (w4.alloc (.cells #[.int .i64 y, .int .i64 m, .int .i64 d] 38)) ((w4.alloc (.cells #[.int .i64 y, .int .i64 m, .int .i64 d] 38)).drewN nq) := (Keep.refl _).drewN nq
        replace d0 := KQ.cell d0
        replace d1 := KQ.cell d1
        have HOW := Lib.hid (own_keepM HOD.out KQ)
        have HK5 := Lib.hid (KD.trans KQ)
        clear KQ HOD
        generalize (w4.alloc (.cells #[.int .i64 y, .int .i64 m, .int .i64 d] 38)).drewN nq = W5 at *
        have HX : Hid (W5.ownsRow w.heap.size 33 4 (.slice (some ⟨g0, 0, none⟩) n c') n (flatR (M ++ [(yy, mm, T, N)]))) := Lib.hid (by rw [← hcon]; exact HOW.out)
        have HKW := HK5
        have HQ := HQ0
        obtain ⟨b, off, hae, _, hcc⟩ := (HLs.out.keep HKW.out).all (by omega)
        have cz := hcc k hlt
        rw [HZ.out] at cz
        subst hae
        obtain ⟨⟨bt0, bt1⟩, bn0, bn1⟩ := HBD.out
        obtain ⟨T', N', HSA⟩ : ∃ T' N', Hid (sadd (T, N) z = (T', N')) := ⟨_, _, Lib.hid rfl⟩
        have HAD := Lib.hid (fun W => ladd_any T N z W (by omega) (by omega) (by omega) (by omega) (by omega) (by omega))
        rw [HSA.out] at HAD
        dsimp only at HAD
        have HMN : Hid (mthN (mthD f c) zs (k + 1) = M ++ [(yy, mm, T', N')]) := Lib.hid (by rw [HMN0.out, HSA.out])
        clear hcc hcon HOW HMN0 bt0 bt1 bn0 bn1 hm1
        have hbg := hbg0
        have hnq := HNQ0.out
        clear HNQ0 hqw hq0 hq1 hq2
        have hq4 : (flatR (M ++ [(yy, mm, T, N)]))[q * 4 + 2]? = some (.int .i64 T) ∧ (flatR (M ++ [(yy, mm, T, N)]))[q * 4 + 3]? = some (.int .i64 N) := by
          have h2 := flatR_at (M ++ [(yy, mm, T, N)]) q 2 (by rw [List.length_append, HQ.out]; simp) (by omega)
          have h3 := flatR_at (M ++ [(yy, mm, T, N)]) q 3 (by rw [List.length_append, HQ.out]; simp) (by omega)
          have e9 : (M ++ [(yy, mm, T, N)]).getD q r0 = (yy, mm, T, N) := by
            rw [← HQ.out, List.getD_eq_getElem?_getD, List.getElem?_append_right (Nat.le_refl _)]; simp
          rw [e9] at h2 h3
          exact ⟨h2, h3⟩
        have c2 : W5.cell? ⟨g0, q * 4 + 2, none⟩ = some (.int .i64 T) := (World.ownsRow.cellAt HX.out _ (by omega)).trans hq4.1
        have c3 : W5.cell? ⟨g0, q * 4 + 3, none⟩ = some (.int .i64 N) := (World.ownsRow.cellAt HX.out _ (by omega)).trans hq4.2
        have f2 : W5.frozen? ⟨g0, q * 4 + 2, none⟩ = false := World.ownsRow.frozenAt HX.out _
        have f3 : W5.frozen? ⟨g0, q * 4 + 3, none⟩ = false := World.ownsRow.frozenAt HX.out _
        clear hq4
        have qw : IntKind.i64.wrap ((n : Int) - 1) = (q : Int) := by
          rw [show (n : Int) - 1 = (q : Int) by omega]; exact IntWalk.i64_in _ (by omega)
        have q0 : (0 : Int) ≤ (q : Int) := by omega
        have q1 : (q : Int) < (n : Int) := by omega
        have q2 : q < n := by omega
        have HSt : Hid (∀ W', Keep W5 W' → ((W'.setCell ⟨g0, q * 4 + 2, none⟩ (.int .i64 T')).setCell ⟨g0, q * 4 + 3, none⟩ (.int .i64 N')).ownsRow w.heap.size 33 4 (.slice (some ⟨g0, 0, none⟩) n c') n (flatR (M ++ [(yy, mm, T', N')]))) := Lib.hid (fun W' hk => by
          have h1 := (World.ownsRow.stored (World.ownsRow.stored (own_keepM HX.out hk) (q * 4 + 2) (.int .i64 T')).1 (q * 4 + 3) (.int .i64 N')).1
          rw [flat_put M yy mm T N T' N' HQ.out] at h1
          exact h1)
        have HNQ : Hid (n = q + 1) := Lib.hid hnq
        clear hnq
        go_wp2_with fail
        go_region_with ((go_at_call 36; refine (HAD.out _).mono ?_; rintro e wA ⟨rfl, kA⟩; have kA1 : Keep W5 wA := ((Keep.refl W5).drewN 1).trans kA; have d2 := kA1.cell c2; have d3 := kA1.cell c3; have e2 := kA1.still c2 f2; have e3 := kA1.still c3 f3))
        all_goals
          have HFin := Lib.hid (HSt.out _ kA1)
          have HKF : Hid (Keep w ((wA.setCell ⟨g0, q * 4 + 2, none⟩ (.int .i64 T')).setCell ⟨g0, q * 4 + 3, none⟩ (.int .i64 N'))) := Lib.hid (((HKW.out.trans kA1).setCell hbg _).setCell hbg _)
          have HFL : Hid (Only w.heap.size w w) := Lib.hid (Only.refl _ _)
          go_wp2
          go_roundw
          case rel => exact ⟨k + 1, n, some ⟨g0, 0, none⟩, c', by omega, by go_num, rfl, Lib.hid (by rw [HMN.out, List.length_append, HQ.out, HNQ.out]; rfl), Lib.hid (by rw [HMN.out]; exact HFin.out), HKF.out, HDN⟩
          case measure => simp [RowKit.intOf]; omega
      · have hmd : (mm != m) = true := by simp [hmm]
        have HM1 : Hid (∀ T' N', sadd ((0 : Int), (0 : Int)) z = (T', N') → mthN (mthD f c) zs (k + 1) = mthN (mthD f c) zs k ++ [(y, m, T', N')]) := Lib.hid (fun T' N' e => by rw [HM0.out, mthPut_new (t := (y, m, d)) (.inr ⟨M, _, hcon, by exact hmm⟩), e])
        have HCO := Lib.hid hcon
        clear hcon hmm HM0 HQ0
        go_wp2_with fail
        go_quiet (fail)
        have KQ : Keep (w4.alloc (.cells #[.int .i64 y, .int .i64 m, .int .i64 d] 38)) ((w4.alloc (.cells #[.int .i64 y, .int .i64 m, .int .i64 d] 38)).drewN nq) := (Keep.refl _).drewN nq
        replace d0 := KQ.cell d0
        replace d1 := KQ.cell d1
        have HOW := Lib.hid (own_keepM HOD.out KQ)
        have HK5 := Lib.hid (KD.trans KQ)
        clear KQ HOD
        generalize (w4.alloc (.cells #[.int .i64 y, .int .i64 m, .int .i64 d] 38)).drewN nq = W5 at *
        clear hm1
        have hown := HOW.out
        have hs5 := HK5.out.size
        go_wp2_with (at_builtin; go_loud (refine wpList_append_own _ rfl _ _ 26 rfl w.heap.size 33 i0 (.agg #[.int .i64 0, .int .i64 0, .int .i64 0, .int .i64 0]) 4 32 Tryd.underlying26 hi hz0 hz1 hz2 rfl (by decide) _ _ _ rfl (hown.alloc _) ⟨W5.heap.size, 0, none⟩ 1 1 (rc (y, m, 0, 0)) rfl rfl (newsM W5) ?c1a ?c2a ?c3a ?c4a ?_))
        case c1a => exact rc_one _
        case c2a => unfold maxLen; omega
        case c3a => omega
        case c4a => first | omega | (simp; omega)
        intro v' W hown' hgrow hnil
        obtain ⟨g, c7, rfl, hbg, _⟩ := hown'.form (by omega)
        have HX : Hid (W.ownsRow w.heap.size 33 4 (.slice (some ⟨g, 0, none⟩) (n + 1) c7) (n + 1) (flatR (mthN (mthD f c) zs k ++ [(y, m, 0, 0)]))) := Lib.hid (by rw [flatR_app, flatR_one]; exact hown')
        have HKW : Hid (Keep w W) := Lib.hid (Below.grown (HK5.out.alloc (.cells #[.int .i64 y, .int .i64 m, .int .i64 0, .int .i64 0] 33)) hgrow (HK5.out.alloc (.cells #[.int .i64 y, .int .i64 m, .int .i64 0, .int .i64 0] 33)).size (fun q hq => (hown.lt q hq).1))
        have HQ : Hid ((mthN (mthD f c) zs k).length = n) := Lib.hid HLN.out.symm
        obtain ⟨b, off, hae, _, hcc⟩ := (HLs.out.keep HKW.out).all (by omega)
        have cz := hcc k hlt
        rw [HZ.out] at cz
        subst hae
        obtain ⟨T', N', HSA⟩ : ∃ T' N', Hid (sadd ((0 : Int), (0 : Int)) z = (T', N')) := ⟨_, _, Lib.hid rfl⟩
        have HAD := Lib.hid (fun W => ladd_any 0 0 z W (by omega) (by omega) (by omega) (by omega) (by omega) (by omega))
        rw [HSA.out] at HAD
        dsimp only at HAD
        have HMN := Lib.hid (HM1.out T' N' HSA.out)
        clear hown' hgrow hnil hown hcc
        generalize hMM : mthN (mthD f c) zs k = M at *
        clear hMM
        obtain ⟨nn, hnq⟩ : ∃ nn, nn = n + 1 := ⟨_, rfl⟩
        rw [← hnq] at HX ⊢
        have hq4 : (flatR (M ++ [(y, m, 0, 0)]))[n * 4 + 2]? = some (.int .i64 0) ∧ (flatR (M ++ [(y, m, 0, 0)]))[n * 4 + 3]? = some (.int .i64 0) := by
          have h2 := flatR_at (M ++ [(y, m, 0, 0)]) n 2 (by rw [List.length_append, HQ.out]; simp) (by omega)
          have h3 := flatR_at (M ++ [(y, m, 0, 0)]) n 3 (by rw [List.length_append, HQ.out]; simp) (by omega)
          have e9 : (M ++ [(y, m, 0, 0)]).getD n r0 = (y, m, 0, 0) := by
            rw [← HQ.out, List.getD_eq_getElem?_getD, List.getElem?_append_right (Nat.le_refl _)]; simp
          rw [e9] at h2 h3
          exact ⟨h2, h3⟩
        have c2 : W.cell? ⟨g, n * 4 + 2, none⟩ = some (.int .i64 0) := (World.ownsRow.cellAt HX.out _ (by omega)).trans hq4.1
        have c3 : W.cell? ⟨g, n * 4 + 3, none⟩ = some (.int .i64 0) := (World.ownsRow.cellAt HX.out _ (by omega)).trans hq4.2
        have f2 : W.frozen? ⟨g, n * 4 + 2, none⟩ = false := World.ownsRow.frozenAt HX.out _
        have f3 : W.frozen? ⟨g, n * 4 + 3, none⟩ = false := World.ownsRow.frozenAt HX.out _
        clear hq4
        have qw : IntKind.i64.wrap ((nn : Int) - 1) = (n : Int) := by
          rw [show (nn : Int) - 1 = (n : Int) by omega]; exact IntWalk.i64_in _ (by omega)
        have q0 : (0 : Int) ≤ (n : Int) := by omega
        have q1 : (n : Int) < (nn : Int) := by omega
        have q2 : n < nn := by omega
        have HSt : Hid (∀ W', Keep W W' → ((W'.setCell ⟨g, n * 4 + 2, none⟩ (.int .i64 T')).setCell ⟨g, n * 4 + 3, none⟩ (.int .i64 N')).ownsRow w.heap.size 33 4 (.slice (some ⟨g, 0, none⟩) nn c7) nn (flatR (M ++ [(y, m, T', N')]))) := Lib.hid (fun W' hk => by
          have h1 := (World.ownsRow.stored (World.ownsRow.stored (own_keepM HX.out hk) (n * 4 + 2) (.int .i64 T')).1 (n * 4 + 3) (.int .i64 N')).1
          rw [flat_put M y m 0 0 T' N' HQ.out] at h1
          exact h1)
        have HNQ : Hid (nn = n + 1) := Lib.hid hnq
        clear hnq
        go_wp2_with fail
        go_region_with ((go_at_call 36; refine (HAD.out _).mono ?_; rintro e wA ⟨rfl, kA⟩; have kA1 : Keep W wA := ((Keep.refl W).drewN 1).trans kA; have d2 := kA1.cell c2; have d3 := kA1.cell c3; have e2 := kA1.still c2 f2; have e3 := kA1.still c3 f3))
        all_goals
          have HFin := Lib.hid (HSt.out _ kA1)
          have HKF : Hid (Keep w ((wA.setCell ⟨g, n * 4 + 2, none⟩ (.int .i64 T')).setCell ⟨g, n * 4 + 3, none⟩ (.int .i64 N'))) := Lib.hid (((HKW.out.trans kA1).setCell hbg _).setCell hbg _)
          have HFL : Hid (Only w.heap.size w w) := Lib.hid (Only.refl _ _)
          go_wp2
          go_roundw
          case rel => exact ⟨k + 1, nn, some ⟨g, 0, none⟩, c7, by omega, by go_num, rfl, Lib.hid (by rw [HMN.out, List.length_append, HQ.out, HNQ.out]; rfl), Lib.hid (by rw [HMN.out]; exact HFin.out), HKF.out, HDN⟩
          case measure => simp [RowKit.intOf]; omega
    · obtain rfl : k = zs.length := by omega
      have HOK : Hid (mthOk zs f c = true) := Lib.hid (mthOk_mk HSQ.out (fun j hj => by
        obtain ⟨y, m, d, h1, h2⟩ := HDT.out j hj
        rw [← h2]; exact dn_ok h1))
      have HML : Hid (mthN (mthD f c) zs zs.length = mthL zs f c) := Lib.hid (mthL_yes HOK.out).symm
      rw [HML.out] at HLN HOW
      have HF := Lib.hid (frR_ownE (w := w) (by have h1 := HOW.out; rw [HLN.out] at h1; exact h1) (Nat.le_refl _))
      go_wp2
      go_ret2
      exact ⟨ga, c', by rw [HLN.out, HOK.out]; rfl, HF.out.2, HF.out.1, hK⟩
end Go.Proofs.YtohoeonfoolpdaaDoor
namespace Go.Proofs.YtohoeonfoolpdaaDoor
open Go.RowKit
set_option linter.unusedVariables false

theorem between (g : Int → Int) (n : Int) : ∀ t : Nat, g 1 ≤ n → n < g (1 + (t : Int)) → ∃ y, 1 ≤ y ∧ y ≤ (t : Int) ∧ g y ≤ n ∧ n < g (y + 1)
  | 0, h1, h2 => by simp at h2; omega
  | t + 1, h1, h2 => by
    by_cases h : n < g (1 + (t : Int))
    · obtain ⟨y, a, b, c, d⟩ := between g n t h1 h
      exact ⟨y, a, by omega, c, d⟩
    · refine ⟨1 + (t : Int), by omega, by omega, by omega, ?_⟩
      have e : (1 : Int) + ((t + 1 : Nat) : Int) = 1 + (t : Int) + 1 := by omega
      rw [e] at h2
      exact h2
theorem dayOk_date {n c : Int} (h : dayOk n c = true) : ∃ y m d, dv y m d c = true ∧ dn y m d c = n := by
  obtain ⟨hc, h1, h2⟩ := dayOk_facts h
  obtain ⟨y, y1, y2, a, b⟩ := between (fun y => ys y c) n 2200 h1 (by exact h2)
  have hs := ys_succ y c hc y1
  have h0 := cum_one y c
  have h13 := cum_end y c
  obtain ⟨m, m1, m2, p, q⟩ := between (fun m => ys y c + cum y m c) n 12 (by omega) (by rw [show (1 : Int) + ((12 : Nat) : Int) = 13 by rfl]; omega)
  have hd := date_mk hc y1 (by omega) m1 (by omega) p q
  exact ⟨y, m, _, hd.1, hd.2⟩
def rsum (g : R4 → Int) : List R4 → Int
  | [] => 0
  | r :: t => g r + rsum g t
theorem rsum_app (g : R4 → Int) : ∀ a b : List R4, rsum g (a ++ b) = rsum g a + rsum g b
  | [], b => by simp [rsum]
  | r :: t, b => by rw [List.cons_append, rsum, rsum_app g t b, rsum]; omega
theorem sadd_lin (t m z : Int) : (sadd (t, m) z).1 = t + (sadd (0, 0) z).1 ∧ (sadd (t, m) z).2 = m + (sadd (0, 0) z).2 := by
  unfold sadd; split <;> simp
/-- The month behind a month. -/
def Nm (a b : R4) : Prop := rD b = (rD a) % 12 + 1 ∧ rS b = rS a + (rD a) / 12
def Chn : List R4 → Prop
  | a :: b :: t => Nm a b ∧ Chn (b :: t)
  | _ => True
theorem Chn.snoc {a b : R4} (hn : Nm a b) : ∀ M : List R4, Chn (M ++ [a]) → Chn (M ++ [a] ++ [b])
  | [], _ => ⟨hn, trivial⟩
  | [x], h => ⟨h.1, hn, trivial⟩
  | x :: y :: t, h => ⟨h.1, Chn.snoc hn (y :: t) h.2⟩
theorem Chn.last {a b : R4} (h1 : rS b = rS a) (h2 : rD b = rD a) : ∀ M : List R4, Chn (M ++ [a]) → Chn (M ++ [b])
  | [], _ => trivial
  | [x], h => ⟨by obtain ⟨⟨p, q⟩, _⟩ := h; exact ⟨by rw [h2, p], by rw [h1, q]⟩, trivial⟩
  | x :: y :: t, h => ⟨h.1, Chn.last h1 h2 (y :: t) h.2⟩
theorem Chn.get : ∀ {L : List R4}, Chn L → ∀ i, i + 1 < L.length → Nm (L.getD i r0) (L.getD (i + 1) r0)
  | [], _, i, h => absurd h (by simp)
  | [x], _, i, h => absurd h (by simp)
  | x :: y :: t, hc, 0, h => by simpa [List.getD_eq_getElem?_getD] using hc.1
  | x :: y :: t, hc, i + 1, h => by
    have := Chn.get hc.2 i (by simpa using h)
    simpa [List.getD_eq_getElem?_getD] using this
/-- What is known of the months of k days. -/
structure MInv (dt : Nat → Int × Int × Int) (zs : List Int) (k : Nat) : Prop where
  tot : rsum rK (mthN dt zs k) = (su zs k).1 ∧ rsum rV (mthN dt zs k) = (su zs k).2
  chn : Chn (mthN dt zs k)
  last : ∃ M T N, mthN dt zs k = M ++ [((dt (k - 1)).1, (dt (k - 1)).2.1, T, N)]
  head : ∃ T N t, mthN dt zs k = ((dt 0).1, (dt 0).2.1, T, N) :: t ∧ ∃ n, n ≤ k ∧ su zs n = (T, N) ∧ (∀ j, j < n → (dt j).2.1 = (dt 0).2.1) ∧ (n = k ∧ t = [] ∨ (n < k ∧ t ≠ [] ∧ (dt n).2.1 ≠ (dt 0).2.1))
  two : (mthN dt zs k).length = 1 ∨ ((mthN dt zs k).length = 2 ∧ (dt (k - 1)).2.2 ≤ ((k - 1 : Nat) : Int))
theorem mInv {dt : Nat → Int × Int × Int} {zs : List Int} {c : Int} {n : Nat} (hr : Run dt c n) (hn : n ≤ zs.length) (h12 : n ≤ 12) (hml : ∀ k, k < n → 28 ≤ mlen (dt k).1 (dt k).2.1 c ∧ (dt k).2.1 ≤ 12 ∧ 1 ≤ (dt k).2.1) : ∀ k, 1 ≤ k → k ≤ n → MInv dt zs k
  | 0, h, _ => absurd h (by omega)
  | 1, _, hk => by
    have e : su zs 1 = sadd (su zs 0) (zs.getD 0 0) := su_sadd (by omega)
    rw [su_zero] at e
    have eN : mthN dt zs 1 = [((dt 0).1, (dt 0).2.1, (sadd (0, 0) (zs.getD 0 0)).1, (sadd (0, 0) (zs.getD 0 0)).2)] := rfl
    refine ⟨?_, ?_, ⟨[], _, _, eN⟩, ⟨_, _, [], eN, 1, Nat.le_refl _, by rw [e], fun j (hj : j < 1) => (by have h0 : j = 0 := (by omega); subst h0; rfl), .inl ⟨rfl, rfl⟩⟩, .inl (by rw [eN]; rfl)⟩
    · rw [eN, e]; simp [rsum, rK, rV]
    · rw [eN]; trivial
  | k + 2, _, hk => by
    have ih := mInv hr hn h12 hml (k + 1) (by omega) (by omega)
    have e : su zs (k + 1 + 1) = sadd (su zs (k + 1)) (zs.getD (k + 1) 0) := su_sadd (by omega)
    have eN : mthN dt zs (k + 2) = mthPut (mthN dt zs (k + 1)) (dt (k + 1)) (zs.getD (k + 1) 0) := rfl
    obtain ⟨hx, h1⟩ := hr k (by omega)
    obtain ⟨M, T, N, hL⟩ := ih.last
    obtain ⟨T0, N0, t, hH, n0, hn0, hsu, hall, hend⟩ := ih.head
    rw [Nat.add_sub_cancel] at hL
    have h28 := hml k (by omega)
    have hlin := sadd_lin (su zs (k + 1)).1 (su zs (k + 1)).2 (zs.getD (k + 1) 0)
    have hsk : k + 2 - 1 = k + 1 := rfl
    by_cases hm : (dt (k + 1)).2.1 = (dt k).2.1
    · -- the same month
      have hsame : (dt (k + 1)).1 = (dt k).1 ∧ (dt (k + 1)).2.2 = (dt k).2.2 + 1 := by
        rcases hx with ⟨_, h2, _, h3⟩ | ⟨h2, h3, ⟨_, _, h4⟩ | ⟨_, _, h4⟩⟩
        · exact ⟨h2, h3⟩
        · omega
        · omega
      have eP : mthN dt zs (k + 2) = M ++ [((dt (k + 1)).1, (dt (k + 1)).2.1, (sadd (T, N) (zs.getD (k + 1) 0)).1, (sadd (T, N) (zs.getD (k + 1) 0)).2)] := by
        rw [eN, hL, mthPut_old (by exact hm.symm), hsame.1, hm]; rfl
      have hl2 := sadd_lin T N (zs.getD (k + 1) 0)
      refine ⟨?_, ?_, ⟨M, _, _, eP⟩, ?_, ?_⟩
      · have ht := ih.tot
        rw [hL, rsum_app, rsum_app] at ht
        rw [eP, rsum_app, rsum_app, e]
        simp only [rsum, rK, rV] at ht ⊢
        have h9 : sadd (su zs (k + 1)) (zs.getD (k + 1) 0) = sadd ((su zs (k + 1)).1, (su zs (k + 1)).2) (zs.getD (k + 1) 0) := rfl
        rw [h9]
        omega
      · rw [eP]
        have hc := ih.chn
        rw [hL] at hc
        exact Chn.last (by show (dt (k + 1)).1 = (dt k).1; exact hsame.1) (by show (dt (k + 1)).2.1 = (dt k).2.1; exact hm) M hc
      · cases M with
        | nil =>
          rw [hL] at hH
          simp only [List.nil_append, List.cons.injEq, Prod.mk.injEq] at hH
          obtain ⟨⟨a1, a2, a3, a4⟩, rfl⟩ := hH
          rcases hend with ⟨rfl, _⟩ | ⟨_, h9, _⟩
          · refine ⟨_, _, [], by rw [eP, List.nil_append, hsame.1, hm, a1, a2], k + 2, Nat.le_refl _, ?_, fun j hj => ?_, .inl ⟨rfl, rfl⟩⟩
            · rw [e, hsu, a3, a4]
            · by_cases hj2 : j < k + 1
              · exact hall j hj2
              · obtain rfl : j = k + 1 := by omega
                rw [hm]; exact hall k (by omega)
          · exact absurd rfl h9
        | cons r M' =>
          rw [hL] at hH
          simp only [List.cons_append, List.cons.injEq] at hH
          obtain ⟨rfl, rfl⟩ := hH
          refine ⟨T0, N0, _, by rw [eP]; rfl, n0, by omega, hsu, hall, .inr ?_⟩
          rcases hend with ⟨_, h9⟩ | ⟨h8, _, h9⟩
          · exact absurd h9 (by simp)
          · exact ⟨by omega, by simp, h9⟩
      · have h2 := ih.two
        rw [hL] at h2
        rw [eP, hsk]
        rw [List.length_append, List.length_singleton] at h2 ⊢
        rw [Nat.add_sub_cancel] at h2
        rcases h2 with h2 | ⟨h2, h3⟩
        · exact .inl h2
        · exact .inr ⟨h2, by rw [hsame.2]; omega⟩
    · -- the next month
      have hd1 : (dt (k + 1)).2.2 = 1 ∧ (dt k).2.2 = mlen (dt k).1 (dt k).2.1 c ∧ Nm ((dt k).1, (dt k).2.1, T, N) ((dt (k + 1)).1, (dt (k + 1)).2.1, (sadd (0, 0) (zs.getD (k + 1) 0)).1, (sadd (0, 0) (zs.getD (k + 1) 0)).2) := by
        unfold Nm
        simp only [rD, rS]
        rcases hx with ⟨_, _, h2, _⟩ | ⟨h2, h3, ⟨h4, h5, h6⟩ | ⟨h4, h5, h6⟩⟩
        · exact absurd h2 hm
        · exact ⟨h3, h2, by omega, by omega⟩
        · exact ⟨h3, h2, by omega, by omega⟩
      have eP : mthN dt zs (k + 2) = mthN dt zs (k + 1) ++ [((dt (k + 1)).1, (dt (k + 1)).2.1, (sadd (0, 0) (zs.getD (k + 1) 0)).1, (sadd (0, 0) (zs.getD (k + 1) 0)).2)] := by
        rw [eN]; exact mthPut_new (.inr ⟨M, _, hL, by show (dt k).2.1 ≠ _; exact fun h => hm h.symm⟩)
      refine ⟨?_, ?_, ⟨_, _, _, eP⟩, ?_, ?_⟩
      · have ht := ih.tot
        rw [eP, rsum_app, rsum_app, e, ht.1, ht.2]
        simp only [rsum, rK, rV]
        have h9 : sadd (su zs (k + 1)) (zs.getD (k + 1) 0) = sadd ((su zs (k + 1)).1, (su zs (k + 1)).2) (zs.getD (k + 1) 0) := rfl
        rw [h9]
        omega
      · rw [eP, hL]
        have hc := ih.chn
        rw [hL] at hc
        exact Chn.snoc hd1.2.2 M hc
      · refine ⟨T0, N0, _, by rw [eP, hH]; rfl, n0, by omega, hsu, hall, .inr ?_⟩
        rcases hend with ⟨rfl, rfl⟩ | ⟨h8, _, h9⟩
        · refine ⟨by omega, by simp, ?_⟩
          rw [← hall k (by omega)]; exact hm
        · exact ⟨by omega, by simp, h9⟩
      · have h2 := ih.two
        rw [Nat.add_sub_cancel] at h2
        rw [eP, hsk, List.length_append, List.length_singleton, hd1.1]
        rcases h2 with h2 | ⟨h2, h3⟩
        · exact .inr ⟨by omega, by omega⟩
        · rw [hd1.2.1] at h3; omega
theorem rsum_snoc (g : R4 → Int) {L : List R4} {k : Nat} (h : k < L.length) : rsum g (L.take (k + 1)) = rsum g (L.take k) + g (L.getD k r0) := by
  rw [List.take_succ_eq_append_getElem h, rsum_app]
  simp [rsum, List.getD_eq_getElem?_getD, h]
theorem getD_memM {L : List R4} {i : Nat} (h : i < L.length) : L.getD i r0 ∈ L := by
  rw [List.getD_eq_getElem?_getD, List.getElem?_eq_getElem h, Option.getD_some]; exact List.getElem_mem _
theorem rsum_bd' (g : R4 → Int) {L : List R4} (h : ∀ r ∈ L, -2000000 ≤ g r ∧ g r ≤ 2000000) : ∀ i, -(2000000 * ((L.take i).length : Int)) ≤ rsum g (L.take i) ∧ rsum g (L.take i) ≤ 2000000 * ((L.take i).length : Int) := by
  intro i
  have key : ∀ M : List R4, (∀ r ∈ M, r ∈ L) → -(2000000 * (M.length : Int)) ≤ rsum g M ∧ rsum g M ≤ 2000000 * (M.length : Int) := by
    intro M
    induction M with
    | nil => intro _; simp [rsum]
    | cons r t ih =>
      intro hM
      have h1 := h r (hM r List.mem_cons_self)
      have h2 := ih fun x hx => hM x (List.mem_cons_of_mem _ hx)
      rw [rsum, List.length_cons]
      omega
  exact key _ fun r hr => List.mem_of_mem_take hr
theorem rsum_bd {L : List R4} (hl : L.length ≤ 12) (h : ∀ r ∈ L, (-2000000 ≤ rK r ∧ rK r ≤ 2000000) ∧ (-2000000 ≤ rV r ∧ rV r ≤ 2000000)) (i : Nat) : (-24000000 ≤ rsum rK (L.take i) ∧ rsum rK (L.take i) ≤ 24000000) ∧ (-24000000 ≤ rsum rV (L.take i) ∧ rsum rV (L.take i) ≤ 24000000) := by
  have h1 := rsum_bd' rK (fun r hr => (h r hr).1) i
  have h2 := rsum_bd' rV (fun r hr => (h r hr).2) i
  have h3 : (L.take i).length ≤ 12 := by rw [List.length_take]; omega
  omega
theorem mth_dates' {dt : Nat → Int × Int × Int} {zs : List Int} : ∀ (k : Nat) (r : R4), r ∈ mthN dt zs k → ∃ j, j < k ∧ rS r = (dt j).1 ∧ rD r = (dt j).2.1
  | 0, r, h => absurd h (by simp [mthN])
  | k + 1, r, h => by
    rw [mthN, mthPut] at h
    split at h
    · obtain rfl := List.mem_singleton.1 h
      exact ⟨k, by omega, rfl, rfl⟩
    · rename_i q hq
      split at h
      · rcases List.mem_append.1 h with h | h
        · obtain ⟨j, a, b, c⟩ := mth_dates' k r (List.dropLast_subset _ h)
          exact ⟨j, by omega, b, c⟩
        · obtain rfl := List.mem_singleton.1 h
          obtain ⟨j, a, b, c⟩ := mth_dates' k q (List.mem_of_getLast? hq)
          exact ⟨j, by omega, b, c⟩
      · rcases List.mem_append.1 h with h | h
        · obtain ⟨j, a, b, c⟩ := mth_dates' k r h
          exact ⟨j, by omega, b, c⟩
        · obtain rfl := List.mem_singleton.1 h
          exact ⟨k, by omega, rfl, rfl⟩
theorem mth_dates {f c : Int} {zs : List Int} {n : Nat} {r : R4} (hd : ∀ j, j < n → ∃ y m d, dv y m d c = true ∧ dn y m d c = f + (j : Int)) (h : r ∈ mthN (mthD f c) zs n) : (1 ≤ rS r ∧ rS r ≤ 2200) ∧ (1 ≤ rD r ∧ rD r ≤ 12) := by
  obtain ⟨j, hj, e1, e2⟩ := mth_dates' n r h
  obtain ⟨y, m, d, h1, h2⟩ := hd j hj
  obtain ⟨_, y1, y2, m1, m2, _, _⟩ := dv_facts h1
  have e9 : mthD f c j = (y, m, d) := dOf_of h1 h2
  rw [e1, e2, e9]
  exact ⟨⟨y1, y2⟩, m1, m2⟩
end Go.Proofs.YtohoeonfoolpdaaDoor
