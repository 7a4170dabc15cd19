/- Shifts, without the program: series with a value on each day 'shB', what a part costs 'pcV', which cuts are valid 'ctB'. -/
import Derived.Test.YtpgdbhafdnfhcaaMp
import Derived.Test.YtpgdbhafdnfhcaaDi
namespace Go.Proofs.Ytpgdbhafdnfhcaa
open Go.RowKit
set_option linter.unusedVariables false

def shB (zs : List Int) : Bool := sqB zs && (decide (zs.length ≤ 8) && decide ((-9999 : Int) ∉ zs))
theorem shB_facts {zs : List Int} (h : shB zs = true) : sqB zs = true ∧ zs.length ≤ 8 ∧ (-9999 : Int) ∉ zs := by
  simpa [shB] using h
theorem knl_full {zs : List Int} (h : (-9999 : Int) ∉ zs) : knl zs = zs := by
  rw [knl, List.filter_eq_self]
  intro x hx
  exact bne_iff_ne.2 fun e => h (e ▸ hx)
theorem knl_len_iff (zs : List Int) : (knl zs).length = zs.length ↔ (-9999 : Int) ∉ zs := by
  constructor
  · intro h hm
    have e : knl zs = zs := (List.filter_sublist (l := zs)).eq_of_length h
    have : (-9999 : Int) ∈ knl zs := by rw [e]; exact hm
    rw [knl, List.mem_filter] at this
    simp at this
  · intro h; rw [knl_full h]
/-- The differences of the first k values from m. -/
def pcN (zs : List Int) (m : Int) : Nat → Int
  | 0 => 0
  | k + 1 => pcN zs m k + dst (zs.getD k 0) m
def pcV (zs : List Int) : Int := if shB zs then pcN zs (mdL zs) zs.length else -1
theorem pcV_yes {zs : List Int} (h : shB zs = true) : pcV zs = pcN zs (mdL zs) zs.length := by simp [pcV, h]
theorem pcV_no {zs : List Int} (h : shB zs = false) : pcV zs = -1 := by simp [pcV, h]
theorem pcN_nn (zs : List Int) (m : Int) : ∀ k, 0 ≤ pcN zs m k
  | 0 => Int.le_refl _
  | k + 1 => by have := pcN_nn zs m k; have := dst_nn (zs.getD k 0) m; simp only [pcN]; omega
theorem pcN_bd {zs : List Int} {m : Int} (h : ∀ j, j < zs.length → -10000 ≤ zs.getD j 0 ∧ zs.getD j 0 ≤ 12000) (hm : -10000 ≤ m ∧ m ≤ 12000) : ∀ k, k ≤ zs.length → pcN zs m k ≤ 22000 * (k : Int)
  | 0, _ => by simp [pcN]
  | k + 1, hk => by
    have h1 := pcN_bd h hm k (by omega)
    have h2 := h k (by omega)
    have h3 : dst (zs.getD k 0) m ≤ 22000 := by unfold dst; split <;> omega
    simp only [pcN]; omega
theorem sh_at {zs : List Int} (h : shB zs = true) {k : Nat} (hk : k < zs.length) : -999 ≤ zs.getD k 0 ∧ zs.getD k 0 ≤ 10999 := by
  obtain ⟨h1, h2, h3⟩ := shB_facts h
  rcases sq_at h1 hk with h4 | h4
  · exact absurd (h4 ▸ getD_mem hk) h3
  · exact h4
theorem sh_all {zs : List Int} (h : shB zs = true) : ∀ x ∈ zs, -999 ≤ x ∧ x ≤ 10999 := fun x hx => by
  obtain ⟨i, hi, rfl⟩ := List.getElem_of_mem hx
  have := sh_at h hi
  rwa [show zs.getD i 0 = zs[i] by simp [List.getD_eq_getElem?_getD, hi]] at this
theorem sh_mo {zs : List Int} (h : shB zs = true) : moB zs = true ∧ moV zs = mdL zs ∧ -999 ≤ mdL zs ∧ mdL zs ≤ 10999 := by
  obtain ⟨h1, h2, h3⟩ := shB_facts h
  have hp : 0 < zs.length := (sq_facts h1).2.1
  have hb : moB zs = true := by rw [moB, h1, knl_full h3, decide_eq_true hp]; rfl
  refine ⟨hb, by rw [moV_yes hb, knl_full h3], ?_⟩
  exact sh_all h _ (mdL_mem hp)

/-- Cuts. -/
def ctP (cs : List Int) (k : Nat) : Int := if k = 0 then 0 else cs.getD (k - 1) 0
def ctS (cs : List Int) (n : Int) (k : Nat) : Bool := decide (ctP cs k < cs.getD k 0) && decide (cs.getD k 0 < n)
def ctA (cs : List Int) (n : Int) : Nat → Bool
  | 0 => true
  | k + 1 => ctA cs n k && ctS cs n k
def ctB (cs : List Int) (n : Int) : Bool := inB n 1 8 && ctA cs n cs.length
theorem ctP_zero (cs : List Int) : ctP cs 0 = 0 := rfl
theorem ctP_succ (cs : List Int) (k : Nat) : ctP cs (k + 1) = cs.getD k 0 := by simp [ctP]
theorem ctA_yes {cs : List Int} {n : Int} {k : Nat} (h : ctA cs n k = true) (h2 : ctS cs n k = true) : ctA cs n (k + 1) = true := by rw [ctA, h, h2]; rfl
theorem ctA_no {cs : List Int} {n : Int} {k m : Nat} (h : k < m) (h2 : ctS cs n k = false) : ctA cs n m = false := by
  induction m with
  | zero => omega
  | succ m ih =>
    rw [ctA]
    by_cases e : k = m
    · subst e; rw [h2, Bool.and_false]
    · rw [ih (by omega)]; rfl
theorem ctA_at {cs : List Int} {n : Int} {m : Nat} (h : ctA cs n m = true) {k : Nat} (hk : k < m) : ctS cs n k = true := by
  cases e : ctS cs n k
  · rw [ctA_no hk e] at h; cases h
  · rfl
theorem ctA_all {cs : List Int} {n : Int} : ∀ m, (∀ k, k < m → ctS cs n k = true) → ctA cs n m = true
  | 0, _ => rfl
  | m + 1, h => ctA_yes (ctA_all m fun k hk => h k (by omega)) (h m (by omega))
theorem ctS_facts {cs : List Int} {n : Int} {k : Nat} (h : ctS cs n k = true) : ctP cs k < cs.getD k 0 ∧ cs.getD k 0 < n := by simpa [ctS] using h
theorem ctS_of {cs : List Int} {n : Int} {k : Nat} (h : ctP cs k < cs.getD k 0 ∧ cs.getD k 0 < n) : ctS cs n k = true := by simpa [ctS] using h
theorem ctS_not {cs : List Int} {n : Int} {k : Nat} (h : cs.getD k 0 ≤ ctP cs k ∨ n ≤ cs.getD k 0) : ctS cs n k = false := by
  cases e : ctS cs n k
  · rfl
  · have := ctS_facts e; omega
theorem ctB_facts {cs : List Int} {n : Int} (h : ctB cs n = true) : (1 ≤ n ∧ n ≤ 8) ∧ ∀ k, k < cs.length → ctP cs k < cs.getD k 0 ∧ cs.getD k 0 < n := by
  simp only [ctB, inB, Bool.and_eq_true, decide_eq_true_eq] at h
  exact ⟨h.1, fun k hk => ctS_facts (ctA_at h.2 hk)⟩
/-- Each cut is at least its place counted from one: so there are fewer cuts than days. -/
theorem ct_ge {cs : List Int} {n : Int} (h : ctB cs n = true) : ∀ k, k < cs.length → (k : Int) + 1 ≤ cs.getD k 0
  | 0, hk => by
    have := (ctB_facts h).2 0 hk
    rw [ctP_zero] at this; omega
  | k + 1, hk => by
    have := ct_ge h k (by omega)
    have h2 := (ctB_facts h).2 (k + 1) hk
    rw [ctP_succ] at h2; omega
theorem ct_len {cs : List Int} {n : Int} (h : ctB cs n = true) : (cs.length : Int) < n := by
  by_cases h0 : cs.length = 0
  · have := (ctB_facts h).1; omega
  · obtain ⟨k, hk⟩ : ∃ k, cs.length = k + 1 := ⟨cs.length - 1, by omega⟩
    have h1 := ct_ge h k (by omega)
    have h2 := ((ctB_facts h).2 k (by omega)).2
    omega
theorem ct_mono {cs : List Int} {n : Int} (h : ctB cs n = true) {i j : Nat} (hij : i < j) (hj : j < cs.length) : cs.getD i 0 < cs.getD j 0 := by
  induction j with
  | zero => omega
  | succ j ih =>
    have h2 := (ctB_facts h).2 (j + 1) hj
    rw [ctP_succ] at h2
    by_cases e : i = j
    · subst e; exact h2.1
    · have := ih (by omega) (by omega); omega
/-- A part of a series. -/
def seg (zs : List Int) (i j : Nat) : List Int := (zs.drop i).take (j - i)
theorem seg_len (zs : List Int) {i j : Nat} (h : i ≤ j) (h2 : j ≤ zs.length) : (seg zs i j).length = j - i := by
  rw [seg, List.length_take, List.length_drop]; omega
theorem seg_at (zs : List Int) {i j k : Nat} (h : k < j - i) : (seg zs i j).getD k 0 = zs.getD (i + k) 0 := by
  simp [seg, List.getD_eq_getElem?_getD, h]
theorem seg_mem {zs : List Int} {i j : Nat} {x : Int} (h : x ∈ seg zs i j) : x ∈ zs := List.mem_of_mem_drop (List.mem_of_mem_take h)
theorem seg_sh {zs : List Int} (h : shB zs = true) {i j : Nat} (hij : i < j) (hj : j ≤ zs.length) : shB (seg zs i j) = true := by
  obtain ⟨h1, h2, h3⟩ := shB_facts h
  have hl := seg_len zs (Nat.le_of_lt hij) hj
  have hq : sqB (seg zs i j) = true := sq_all (by
    rw [List.all_eq_true]; intro x hx; exact List.all_eq_true.1 (sq_facts h1).1 x (seg_mem hx)) (by omega)
  rw [shB, hq, decide_eq_true (show (seg zs i j).length ≤ 8 by omega), decide_eq_true (show (-9999 : Int) ∉ seg zs i j from fun hm => h3 (seg_mem hm))]
  rfl
/-- The cost of cuts: that of the first k parts, and of the rest. -/
def ccN (zs cs : List Int) : Nat → Int
  | 0 => 0
  | k + 1 => ccN zs cs k + pcV (seg zs (ctP cs k).toNat (cs.getD k 0).toNat)
def ccR (zs cs : List Int) : Int := ccN zs cs cs.length + pcV (seg zs (ctP cs cs.length).toNat zs.length)
def ccB (zs cs : List Int) (price : Int) : Bool := shB zs && (ctB cs zs.length && inB price 0 9999)
def ccV (zs cs : List Int) (price : Int) : Int := if ccB zs cs price then price * cs.length + ccR zs cs else -1
theorem ccB_facts {zs cs : List Int} {price : Int} (h : ccB zs cs price = true) : shB zs = true ∧ ctB cs zs.length = true ∧ 0 ≤ price ∧ price ≤ 9999 := by
  simpa [ccB, inB] using h
theorem ccV_yes {zs cs : List Int} {price : Int} (h : ccB zs cs price = true) : ccV zs cs price = price * cs.length + ccR zs cs := by simp [ccV, h]
theorem ccV_no {zs cs : List Int} {price : Int} (h : ccB zs cs price = false) : ccV zs cs price = -1 := by simp [ccV, h]
end Go.Proofs.Ytpgdbhafdnfhcaa
