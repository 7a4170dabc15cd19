/- Slopes, without the program: sums over known days 'slS', 'slU' (above), 'slD' (below), the common factor 'slG', answers 'slB', 'slP', 'slQ'. -/
import Derived.Test.YtkiibklenpncpaaDf
namespace Go.Proofs.Ytkiibklenpncpaa
open Go.RowKit
set_option linter.unusedVariables false

def rsum (f : Nat → Int) : Nat → Int
  | 0 => 0
  | k + 1 => rsum f k + f k
theorem rsum_congr {f g : Nat → Int} : ∀ {n : Nat}, (∀ i, i < n → f i = g i) → rsum f n = rsum g n
  | 0, _ => rfl
  | n + 1, h => by rw [rsum, rsum, rsum_congr fun i hi => h i (by omega), h n (by omega)]
theorem rsum_head (f : Nat → Int) : ∀ n, rsum f (n + 1) = f 0 + rsum (fun i => f (i + 1)) n
  | 0 => by simp only [rsum]; omega
  | n + 1 => by rw [rsum, rsum_head f n, rsum]; omega
theorem rsum_rev (f : Nat → Int) : ∀ n, rsum (fun i => f (n - 1 - i)) n = rsum f n
  | 0 => rfl
  | n + 1 => by
    rw [rsum_head]
    have e : rsum (fun i => f (n + 1 - 1 - (i + 1))) n = rsum (fun i => f (n - 1 - i)) n := rsum_congr fun i _ => by
      rw [show n + 1 - 1 - (i + 1) = n - 1 - i by omega]
    rw [e, rsum_rev f n, rsum]
    rw [show n + 1 - 1 - 0 = n by omega]; omega
theorem rsum_lin (a b : Int) (f g : Nat → Int) : ∀ n, rsum (fun i => a * f i + b * g i) n = a * rsum f n + b * rsum g n
  | 0 => by simp [rsum]
  | n + 1 => by rw [rsum, rsum_lin a b f g n, rsum, rsum, Int.mul_add, Int.mul_add]; omega
theorem rsum_bd {f : Nat → Int} {c : Int} : ∀ {n : Nat}, (∀ i, i < n → -c ≤ f i ∧ f i ≤ c) → -(c * (n : Int)) ≤ rsum f n ∧ rsum f n ≤ c * (n : Int)
  | 0, _ => by simp [rsum]
  | n + 1, h => by
    have h1 := rsum_bd (n := n) fun i hi => h i (by omega)
    have h2 := h n (by omega)
    rw [rsum, show (((n + 1 : Nat)) : Int) = (n : Int) + 1 by omega, Int.mul_add, Int.mul_one]
    omega
theorem rsum_low {f g : Nat → Int} : ∀ {n : Nat}, (∀ i, i < n → g i ≤ f i) → rsum g n ≤ rsum f n
  | 0, _ => Int.le_refl _
  | n + 1, h => by
    have h1 := rsum_low (n := n) fun i hi => h i (by omega)
    have h2 := h n (by omega)
    rw [rsum, rsum]; omega

def slF (zs : List Int) (g : Nat → Int) (i : Nat) : Int := if zs.getD i 0 = -9999 then 0 else g i
def slS (zs : List Int) (g : Nat → Int) (k : Nat) : Int := rsum (slF zs g) k
theorem slS_step (zs : List Int) (g : Nat → Int) (k : Nat) : (zs.getD k 0 = -9999 → slS zs g (k + 1) = slS zs g k) ∧ (zs.getD k 0 ≠ -9999 → slS zs g (k + 1) = slS zs g k + g k) := by
  constructor <;> intro h
  · rw [slS, rsum, slF, if_pos h]; rw [slS]; omega
  · rw [slS, rsum, slF, if_neg h]; rfl
theorem slS_congr {zs : List Int} {f g : Nat → Int} {n : Nat} (h : ∀ i, i < n → zs.getD i 0 ≠ -9999 → f i = g i) : slS zs f n = slS zs g n :=
  rsum_congr fun i hi => by
    unfold slF
    split
    · rfl
    · rename_i h2; exact h i hi h2
theorem slS_lin (zs : List Int) (a b : Int) (f g : Nat → Int) (n : Nat) : slS zs (fun i => a * f i + b * g i) n = a * slS zs f n + b * slS zs g n := by
  rw [slS, slS, slS, ← rsum_lin]
  refine rsum_congr fun i _ => ?_
  unfold slF
  split <;> simp
theorem slS_rev (zs : List Int) (g : Nat → Int) : slS zs.reverse g zs.length = slS zs (fun i => g (zs.length - 1 - i)) zs.length := by
  rw [slS, slS, ← rsum_rev]
  refine rsum_congr fun i hi => ?_
  unfold slF
  rw [rev_at (by omega), show zs.length - 1 - (zs.length - 1 - i) = i by omega]
theorem slS_bd {zs : List Int} {g : Nat → Int} {c : Int} {n : Nat} (hc : 0 ≤ c) (h : ∀ i, i < n → zs.getD i 0 ≠ -9999 → -c ≤ g i ∧ g i ≤ c) : -(c * (n : Int)) ≤ slS zs g n ∧ slS zs g n ≤ c * (n : Int) :=
  rsum_bd fun i hi => by
    unfold slF
    split
    · omega
    · rename_i h2; exact h i hi h2
/-- The five sums: how many, days, values, squares of days, products. -/
def slN (zs : List Int) (k : Nat) : Int := slS zs (fun _ => 1) k
def slA (zs : List Int) (k : Nat) : Int := slS zs (fun i => (i : Int)) k
def slX (zs : List Int) (k : Nat) : Int := slS zs (fun i => zs.getD i 0) k
def slQQ (zs : List Int) (k : Nat) : Int := slS zs (fun i => (i : Int) * (i : Int)) k
def slR (zs : List Int) (k : Nat) : Int := slS zs (fun i => (i : Int) * zs.getD i 0) k
theorem sl_none {zs : List Int} {k : Nat} (h : zs.getD k 0 = -9999) : slN zs (k + 1) = slN zs k ∧ slA zs (k + 1) = slA zs k ∧ slX zs (k + 1) = slX zs k ∧ slQQ zs (k + 1) = slQQ zs k ∧ slR zs (k + 1) = slR zs k :=
  ⟨(slS_step zs _ k).1 h, (slS_step zs _ k).1 h, (slS_step zs _ k).1 h, (slS_step zs _ k).1 h, (slS_step zs _ k).1 h⟩
theorem sl_some {zs : List Int} {k : Nat} (h : zs.getD k 0 ≠ -9999) : slN zs (k + 1) = slN zs k + 1 ∧ slA zs (k + 1) = slA zs k + (k : Int) ∧ slX zs (k + 1) = slX zs k + zs.getD k 0 ∧ slQQ zs (k + 1) = slQQ zs k + (k : Int) * (k : Int) ∧ slR zs (k + 1) = slR zs k + (k : Int) * zs.getD k 0 :=
  ⟨(slS_step zs _ k).2 h, (slS_step zs _ k).2 h, (slS_step zs _ k).2 h, (slS_step zs _ k).2 h, (slS_step zs _ k).2 h⟩
theorem slN_kn (zs : List Int) : ∀ k, slN zs k = (knN zs k : Int)
  | 0 => rfl
  | k + 1 => by
    have ih := slN_kn zs k
    simp only [knN]
    by_cases h : zs.getD k 0 = -9999
    · rw [(sl_none h).1, if_pos h, ih]; omega
    · rw [(sl_some h).1, if_neg h, ih]; omega
def slU (zs : List Int) (k : Nat) : Int := slN zs k * slR zs k - slA zs k * slX zs k
def slD (zs : List Int) (k : Nat) : Int := slN zs k * slQQ zs k - slA zs k * slA zs k
theorem sl_bd {zs : List Int} (h : sqB zs = true) {k : Nat} (hk : k ≤ zs.length) : (0 ≤ slN zs k ∧ slN zs k ≤ 12) ∧ (-132 ≤ slA zs k ∧ slA zs k ≤ 132) ∧ (-131988 ≤ slX zs k ∧ slX zs k ≤ 131988) ∧ (-1452 ≤ slQQ zs k ∧ slQQ zs k ≤ 1452) ∧ (-1451868 ≤ slR zs k ∧ slR zs k ≤ 1451868) := by
  have hl := (sq_facts h).2.2
  have hx : ∀ i, i < k → zs.getD i 0 ≠ -9999 → -10999 ≤ zs.getD i 0 ∧ zs.getD i 0 ≤ 10999 := fun i hi hn => by
    have := sq_at h (show i < zs.length by omega); omega
  have n0 := slN_kn zs k
  have n1 := knN_le zs k
  have a := slS_bd (zs := zs) (g := fun i => (i : Int)) (c := 11) (n := k) (by omega) fun i hi _ => by omega
  have x := slS_bd (zs := zs) (g := fun i => zs.getD i 0) (c := 10999) (n := k) (by omega) hx
  have q := slS_bd (zs := zs) (g := fun i => (i : Int) * (i : Int)) (c := 121) (n := k) (by omega) fun i hi _ => by
    have h1 : (i : Int) * (i : Int) ≤ 11 * 11 := Int.mul_le_mul (by omega) (by omega) (by omega) (by omega)
    have h2 : 0 ≤ (i : Int) * (i : Int) := Int.mul_nonneg (by omega) (by omega)
    omega
  have r := slS_bd (zs := zs) (g := fun i => (i : Int) * zs.getD i 0) (c := 120989) (n := k) (by omega) fun i hi hn => by
    have hb := hx i hi hn
    have h1 : (i : Int) * zs.getD i 0 ≤ (i : Int) * 10999 := Int.mul_le_mul_of_nonneg_left hb.2 (by omega)
    have h2 : (i : Int) * (-10999) ≤ (i : Int) * zs.getD i 0 := Int.mul_le_mul_of_nonneg_left hb.1 (by omega)
    omega
  unfold slA slX slQQ slR
  omega
theorem mul_bd {a b A B : Int} (ha : -A ≤ a ∧ a ≤ A) (hb : -B ≤ b ∧ b ≤ B) : -(A * B) ≤ a * b ∧ a * b ≤ A * B := by
  have hA : 0 ≤ A := by omega
  have hB : 0 ≤ B := by omega
  have h1 : (a * b).natAbs ≤ (A * B).natAbs := by
    rw [Int.natAbs_mul, Int.natAbs_mul]
    exact Nat.mul_le_mul (by omega) (by omega)
  have h2 : 0 ≤ A * B := Int.mul_nonneg hA hB
  omega
theorem sl_prod {zs : List Int} (h : sqB zs = true) {k : Nat} (hk : k ≤ zs.length) : (-17422416 ≤ slN zs k * slR zs k ∧ slN zs k * slR zs k ≤ 17422416) ∧ (-17422416 ≤ slA zs k * slX zs k ∧ slA zs k * slX zs k ≤ 17422416) ∧
    (-17424 ≤ slN zs k * slQQ zs k ∧ slN zs k * slQQ zs k ≤ 17424) ∧ (-17424 ≤ slA zs k * slA zs k ∧ slA zs k * slA zs k ≤ 17424) := by
  obtain ⟨n, a, x, q, r⟩ := sl_bd h hk
  have h1 := mul_bd (A := 12) (B := 1451868) (by omega) (show -1451868 ≤ slR zs k ∧ slR zs k ≤ 1451868 by omega) (a := slN zs k)
  have h2 := mul_bd (A := 132) (B := 131988) (by omega) (show -131988 ≤ slX zs k ∧ slX zs k ≤ 131988 by omega) (a := slA zs k)
  have h3 := mul_bd (A := 12) (B := 1452) (by omega) (show -1452 ≤ slQQ zs k ∧ slQQ zs k ≤ 1452 by omega) (a := slN zs k)
  have h4 := mul_bd (A := 132) (B := 132) (by omega) (show -132 ≤ slA zs k ∧ slA zs k ≤ 132 by omega) (a := slA zs k)
  omega
theorem sl_ring1 (n q a k : Int) : (n + 1) * (q + k * k) - (a + k) * (a + k) = (n * q - a * a) + (k * k * n + (-2 * k * a + q)) := by
  simp only [Int.add_mul, Int.mul_add, Int.one_mul]
  have e1 : a * k = k * a := Int.mul_comm a k
  have e2 : n * (k * k) = k * k * n := Int.mul_comm _ _
  have e3 : -2 * k * a = -(2 * (k * a)) := by rw [Int.mul_assoc]; omega
  rw [e1, e2, e3]; omega
theorem sl_sq (zs : List Int) (k m : Nat) : slS zs (fun i => ((m : Int) - (i : Int)) * ((m : Int) - (i : Int))) k = (m : Int) * (m : Int) * slN zs k + (-2 * (m : Int) * slA zs k + slQQ zs k) := by
  have e : ∀ i : Nat, ((m : Int) - (i : Int)) * ((m : Int) - (i : Int)) = (m : Int) * (m : Int) * 1 + 1 * (-2 * (m : Int) * (i : Int) + 1 * ((i : Int) * (i : Int))) := fun i => by
    simp only [Int.sub_mul, Int.mul_sub]
    have e1 : (i : Int) * (m : Int) = (m : Int) * (i : Int) := Int.mul_comm _ _
    have e2 : -2 * (m : Int) * (i : Int) = -(2 * ((m : Int) * (i : Int))) := by rw [Int.mul_assoc]; omega
    rw [e1, e2]; omega
  have h1 : slS zs (fun i => ((m : Int) - (i : Int)) * ((m : Int) - (i : Int))) k = slS zs (fun i => (m : Int) * (m : Int) * (fun _ => (1 : Int)) i + 1 * (fun i : Nat => -2 * (m : Int) * (i : Int) + 1 * ((i : Int) * (i : Int))) i) k := slS_congr fun i _ _ => e i
  have h2 : slS zs (fun i : Nat => -2 * (m : Int) * (i : Int) + 1 * ((i : Int) * (i : Int))) k = -2 * (m : Int) * slA zs k + 1 * slQQ zs k := slS_lin zs _ _ (fun i : Nat => (i : Int)) (fun i : Nat => (i : Int) * (i : Int)) k
  rw [h1, slS_lin, h2, Int.one_mul, Int.one_mul]
  rfl
theorem sl_den (zs : List Int) : ∀ k, 0 ≤ slD zs k ∧ (2 ≤ slN zs k → 0 < slD zs k)
  | 0 => by
    have e1 : slN zs 0 = 0 := rfl
    have e2 : slD zs 0 = 0 := by rw [slD, e1]; rfl
    rw [e1, e2]; omega
  | k + 1 => by
    have ih := sl_den zs k
    by_cases h : zs.getD k 0 = -9999
    · obtain ⟨e1, e2, _, e4, _⟩ := sl_none h
      have e : slD zs (k + 1) = slD zs k := by rw [slD, e1, e2, e4]; rfl
      rw [e, e1]; exact ih
    · obtain ⟨e1, e2, _, e4, _⟩ := sl_some h
      have e : slD zs (k + 1) = slD zs k + slS zs (fun i => ((k : Int) - (i : Int)) * ((k : Int) - (i : Int))) k := by
        rw [slD, e1, e2, e4, sl_sq, sl_ring1]; rfl
      have hl : slN zs k ≤ slS zs (fun i => ((k : Int) - (i : Int)) * ((k : Int) - (i : Int))) k := rsum_low fun i hi => by
        unfold slF
        split
        · exact Int.le_refl _
        · dsimp only
          have : 1 * 1 ≤ ((k : Int) - (i : Int)) * ((k : Int) - (i : Int)) := Int.mul_le_mul (by omega) (by omega) (by omega) (by omega)
          omega
      have hn := slN_kn zs k
      rw [e, e1]
      omega
/-- The common factor, and the answers. -/
def slG (zs : List Int) : Nat := Nat.gcd (slU zs zs.length).natAbs (slD zs zs.length).natAbs
def slB (zs : List Int) : Bool := sqB zs && decide (2 ≤ (knl zs).length)
def slP (zs : List Int) : Int := if slB zs then (slU zs zs.length) / (slG zs : Int) else 0
def slQ (zs : List Int) : Int := if slB zs then (slD zs zs.length) / (slG zs : Int) else 0
theorem slB_facts {zs : List Int} (h : slB zs = true) : sqB zs = true ∧ 2 ≤ (knl zs).length ∧ slN zs zs.length = ((knl zs).length : Int) ∧ 0 < slD zs zs.length := by
  simp only [slB, Bool.and_eq_true, decide_eq_true_eq] at h
  have e : slN zs zs.length = ((knl zs).length : Int) := by rw [slN_kn, knN_all]
  exact ⟨h.1, h.2, e, (sl_den zs zs.length).2 (by omega)⟩
theorem slB_mk {zs : List Int} (h : sqB zs = true) (h2 : 2 ≤ (knl zs).length) : slB zs = true := by simp only [slB, Bool.and_eq_true, decide_eq_true_eq]; exact ⟨h, h2⟩
theorem sl_no {zs : List Int} (h : slB zs = false) : slP zs = 0 ∧ slQ zs = 0 := by simp [slP, slQ, h]
/-- What the factor divides. -/
theorem sl_parts {zs : List Int} (h : slB zs = true) : ∃ g p q : Int, g = (slG zs : Int) ∧ slP zs = p ∧ slQ zs = q ∧ 1 ≤ g ∧ g ≤ slD zs zs.length ∧ slU zs zs.length = p * g ∧ slD zs zs.length = q * g ∧ 1 ≤ q ∧ Int.gcd p q = 1 := by
  obtain ⟨h1, h2, h3, h4⟩ := slB_facts h
  have d1 : (slG zs : Int) ∣ slU zs zs.length := by
    rw [Int.ofNat_dvd_left]; exact Nat.gcd_dvd_left _ _
  have d2 : (slG zs : Int) ∣ slD zs zs.length := by
    rw [Int.ofNat_dvd_left]; exact Nat.gcd_dvd_right _ _
  have hg : 0 < slG zs := Nat.gcd_pos_of_pos_right _ (by omega)
  have eP : slP zs = slU zs zs.length / (slG zs : Int) := by simp [slP, h]
  have eQ : slQ zs = slD zs zs.length / (slG zs : Int) := by simp [slQ, h]
  have m1 := Int.ediv_mul_cancel d1
  have m2 := Int.ediv_mul_cancel d2
  rw [← eP] at m1
  rw [← eQ] at m2
  have hq : 1 ≤ slQ zs := by
    by_cases hh : 1 ≤ slQ zs
    · exact hh
    · exfalso
      have : slQ zs * (slG zs : Int) ≤ 0 * (slG zs : Int) := Int.mul_le_mul_of_nonneg_right (by omega) (by omega)
      omega
  refine ⟨_, _, _, rfl, rfl, rfl, by omega, Int.le_of_dvd h4 d2, m1.symm, m2.symm, hq, ?_⟩
  have hgc : Int.gcd (slP zs * (slG zs : Int)) (slQ zs * (slG zs : Int)) = slG zs := by
    rw [m1, m2]; rfl
  rw [Int.gcd_mul_right, Int.natAbs_natCast] at hgc
  have : Int.gcd (slP zs) (slQ zs) * slG zs = 1 * slG zs := by omega
  exact Nat.eq_of_mul_eq_mul_right hg this
theorem sl_noFactor {p q k : Int} (h : Int.gcd p q = 1) (hk : 2 ≤ k) (h1 : k ∣ p) (h2 : k ∣ q) : False := by
  have := Int.dvd_coe_gcd h1 h2
  rw [h] at this
  have := Int.le_of_dvd (by omega) this
  omega
/-- A fraction in its least numbers is one alone. -/
theorem sl_same {a b : List Int} (ha : slB a = true) (hb : slB b = true) (hu : slU a a.length = slU b b.length) (hd : slD a a.length = slD b b.length) : slP a = slP b ∧ slQ a = slQ b := by
  have e : slG a = slG b := by rw [slG, slG, hu, hd]
  simp only [slP, slQ, ha, hb, hu, hd, e, and_self]
theorem sl_turn {a b : List Int} (ha : slB a = true) (hb : slB b = true) (hu : slU a a.length = -slU b b.length) (hd : slD a a.length = slD b b.length) : slP a = 0 - slP b ∧ slQ a = slQ b := by
  have e : slG a = slG b := by rw [slG, slG, hu, hd, Int.natAbs_neg]
  have d1 : (slG b : Int) ∣ slU b b.length := by
    rw [Int.ofNat_dvd_left]; exact Nat.gcd_dvd_left _ _
  simp only [slP, slQ, ha, hb, hu, hd, e, if_true, and_true]
  rw [Int.neg_ediv_of_dvd d1]; omega
theorem sl_back {zs : List Int} (h : slB zs = true) : slB zs.reverse = true ∧ slP zs.reverse = 0 - slP zs ∧ slQ zs.reverse = slQ zs := by
  obtain ⟨h1, h2, h3, h4⟩ := slB_facts h
  have hb : slB zs.reverse = true := slB_mk (by rw [sq_rev]; exact h1) (by rw [knl_rev]; exact h2)
  refine ⟨hb, ?_⟩
  have hl := (sq_facts h1).2.1
  obtain ⟨c, hc⟩ : ∃ c : Int, c = (zs.length : Int) - 1 := ⟨_, rfl⟩
  have eN : slN zs.reverse zs.length = slN zs zs.length := slS_rev zs _
  have eA : slA zs.reverse zs.length = c * slN zs zs.length + -1 * slA zs zs.length := by
    rw [slA, slS_rev, slA, slN, ← slS_lin]
    exact slS_congr fun i hi _ => by omega
  have eX : slX zs.reverse zs.length = slX zs zs.length := by
    rw [slX, slS_rev]
    exact slS_congr fun i hi _ => by rw [rev_at (by omega), show zs.length - 1 - (zs.length - 1 - i) = i by omega]
  have eQ : slQQ zs.reverse zs.length = c * c * slN zs zs.length + (-2 * c * slA zs zs.length + slQQ zs zs.length) := by
    rw [slQQ, slS_rev]
    have := sl_sq zs zs.length (zs.length - 1)
    rw [show (((zs.length - 1 : Nat)) : Int) = c by omega] at this
    rw [← this]
    exact slS_congr fun i hi _ => by rw [show (((zs.length - 1 - i : Nat)) : Int) = c - (i : Int) by omega]
  have eR : slR zs.reverse zs.length = c * slX zs zs.length + -1 * slR zs zs.length := by
    rw [slR, slS_rev, slX, slR, ← slS_lin]
    exact slS_congr fun i hi _ => by
      rw [rev_at (by omega), show zs.length - 1 - (zs.length - 1 - i) = i by omega, show (((zs.length - 1 - i : Nat)) : Int) = c - (i : Int) by omega, Int.sub_mul]
      omega
  refine sl_turn hb h ?_ ?_
  · rw [List.length_reverse, slU, slU, eN, eA, eX, eR]
    generalize slN zs zs.length = n
    generalize slA zs zs.length = a
    generalize slX zs zs.length = x
    generalize slR zs zs.length = r
    simp only [Int.mul_add, Int.add_mul, Int.neg_mul, Int.one_mul, Int.mul_neg]
    have e1 : n * (c * x) = c * n * x := by rw [← Int.mul_assoc, Int.mul_comm n c]
    rw [e1]; omega
  · rw [List.length_reverse, slD, slD, eN, eA, eQ]
    generalize slN zs zs.length = n
    generalize slA zs zs.length = a
    generalize slQQ zs zs.length = q
    simp only [Int.mul_add, Int.add_mul, Int.neg_mul, Int.one_mul, Int.mul_neg]
    have e1 : n * (c * c * n) = c * n * (c * n) := by
      rw [← Int.mul_assoc, ← Int.mul_assoc, Int.mul_comm n c, Int.mul_assoc (c * n) c n]
    have e2 : n * (2 * c * a) = 2 * (c * n * a) := by
      rw [← Int.mul_assoc, ← Int.mul_assoc, Int.mul_comm n 2, Int.mul_assoc 2 n c, Int.mul_comm n c, Int.mul_assoc]
    have e3 : a * (c * n) = c * n * a := Int.mul_comm _ _
    rw [e1, e2, e3]; omega
theorem knl_add1L {zs : List Int} (h : sqB zs = true) : knl (zs.map add1) = (knl zs).map (· + 1) :=
  knl_add1 fun x hx => by have := qB_bd (List.all_eq_true.1 (sq_facts h).1 x hx); omega
theorem sl_added {zs : List Int} (h : slB zs = true) (h2 : slB (zs.map add1) = true) : slP (zs.map add1) = slP zs ∧ slQ (zs.map add1) = slQ zs := by
  obtain ⟨h1, _, _, _⟩ := slB_facts h
  have hn : ∀ i, i < zs.length → ((zs.map add1).getD i 0 = -9999 ↔ zs.getD i 0 = -9999) ∧ (zs.getD i 0 ≠ -9999 → (zs.map add1).getD i 0 = zs.getD i 0 + 1) := fun i hi => by
    have hb := sq_at h1 hi
    rw [add1_at zs hi, add1]
    constructor
    · split <;> omega
    · intro hh; rw [if_neg hh]
  have hS : ∀ g : Nat → Int, slS (zs.map add1) g zs.length = slS zs g zs.length := fun g => rsum_congr fun i hi => by
    unfold slF
    by_cases hx : zs.getD i 0 = -9999
    · rw [if_pos hx, if_pos ((hn i hi).1.2 hx)]
    · rw [if_neg hx, if_neg (fun e => hx ((hn i hi).1.1 e))]
  have eX : slX (zs.map add1) zs.length = slX zs zs.length + slN zs zs.length := by
    have : slX (zs.map add1) zs.length = slS zs (fun i => 1 * zs.getD i 0 + 1 * (fun _ => (1 : Int)) i) zs.length := by
      rw [slX, hS]
      exact slS_congr fun i hi hx => by rw [(hn i hi).2 hx]; dsimp only; omega
    rw [this, slS_lin, Int.one_mul, Int.one_mul]; rfl
  have eR : slR (zs.map add1) zs.length = slR zs zs.length + slA zs zs.length := by
    have : slR (zs.map add1) zs.length = slS zs (fun i => 1 * ((i : Int) * zs.getD i 0) + 1 * (fun i : Nat => (i : Int)) i) zs.length := by
      rw [slR, hS]
      exact slS_congr fun i hi hx => by rw [(hn i hi).2 hx, Int.mul_add]; dsimp only; omega
    rw [this, slS_lin, Int.one_mul, Int.one_mul]; rfl
  have eN : slN (zs.map add1) zs.length = slN zs zs.length := hS _
  have eA : slA (zs.map add1) zs.length = slA zs zs.length := hS _
  have eQ : slQQ (zs.map add1) zs.length = slQQ zs zs.length := hS _
  refine sl_same h2 h ?_ ?_
  · rw [List.length_map, slU, slU, eN, eA, eX, eR, Int.mul_add, Int.mul_add, Int.mul_comm (slA zs zs.length) (slN zs zs.length)]; omega
  · rw [List.length_map, slD, slD, eN, eA, eQ]
/-- A line's slope. -/
theorem sl_line {f s : Int} {n : Nat} (h : liB f s (n : Int) = true) (hn : 2 ≤ n) : slB (lil f s n) = true ∧ slP (lil f s n) = s ∧ slQ (lil f s n) = 1 := by
  obtain ⟨hq, ha⟩ := lil_sq h
  have hlen := lil_len f s n
  have hk : knl (lil f s n) = lil f s n := by
    rw [knl, List.filter_eq_self]; intro x hx; exact bne_iff_ne.2 (ha x hx).1
  have hb : slB (lil f s n) = true := slB_mk hq (by rw [hk, hlen]; exact hn)
  refine ⟨hb, ?_⟩
  have eX : slX (lil f s n) n = f * slN (lil f s n) n + s * slA (lil f s n) n := by
    rw [slX, slN, slA, ← slS_lin]
    exact slS_congr fun i hi _ => by rw [lil_at hi, Int.mul_one, Int.mul_comm s]
  have eR : slR (lil f s n) n = f * slA (lil f s n) n + s * slQQ (lil f s n) n := by
    rw [slR, slA, slQQ, ← slS_lin]
    exact slS_congr fun i hi _ => by
      rw [lil_at hi, Int.mul_add, Int.mul_comm (i : Int) f, ← Int.mul_assoc (i : Int) (i : Int) s, Int.mul_comm s]
  have eU : slU (lil f s n) n = s * slD (lil f s n) n := by
    rw [slU, slD, eX, eR]
    generalize slN (lil f s n) n = N
    generalize slA (lil f s n) n = A
    generalize slQQ (lil f s n) n = Q
    simp only [Int.mul_add, Int.mul_sub]
    have e1 : N * (f * A) = A * (f * N) := by rw [← Int.mul_assoc, Int.mul_comm N f, Int.mul_comm (f * N) A]
    have e2 : N * (s * Q) = s * (N * Q) := by rw [← Int.mul_assoc, Int.mul_comm N s, Int.mul_assoc]
    have e3 : A * (s * A) = s * (A * A) := by rw [← Int.mul_assoc, Int.mul_comm A s, Int.mul_assoc]
    rw [e1, e2, e3]; omega
  obtain ⟨g, p, q, hg, hp, hq', g1, g2, u, d, q1, gc⟩ := sl_parts hb
  rw [hlen] at u d g2
  rw [hp, hq']
  have e : p * g = s * q * g := by rw [← u, eU, d, Int.mul_assoc]
  have e2 : p = s * q := Int.eq_of_mul_eq_mul_right (by omega) e
  have hq1 : q = 1 := by
    by_cases h2 : q = 1
    · exact h2
    · exact absurd (sl_noFactor gc (k := q) (by omega) ⟨s, by rw [e2, Int.mul_comm]⟩ (Int.dvd_refl q)) id
  exact ⟨by rw [e2, hq1, Int.mul_one], hq1⟩
/-- Two values. -/
theorem sl_two {zs : List Int} (h : slB zs = true) {i k : Nat} (hik : i < k) (hk : k < zs.length) (hi : zs.getD i 0 ≠ -9999) (hk2 : zs.getD k 0 ≠ -9999) (hno : ∀ j, j < zs.length → j ≠ i → j ≠ k → zs.getD j 0 = -9999) :
    slP zs * ((k : Int) - (i : Int)) = (zs.getD k 0 - zs.getD i 0) * slQ zs := by
  have hS : ∀ g : Nat → Int, ∀ n, n ≤ zs.length → slS zs g n = (if i < n then g i else 0) + (if k < n then g k else 0) := fun g n => by
    induction n with
    | zero => intro _; rfl
    | succ n ih =>
      intro hn
      have ih := ih (by omega)
      by_cases e1 : n = i
      · subst e1
        rw [(slS_step zs g n).2 hi, ih, if_neg (by omega), if_neg (by omega), if_pos (by omega), if_neg (by omega)]; omega
      · by_cases e2 : n = k
        · subst e2
          rw [(slS_step zs g n).2 hk2, ih, if_pos (by omega), if_neg (by omega), if_pos (by omega), if_pos (by omega)]; omega
        · rw [(slS_step zs g n).1 (hno n (by omega) e1 e2), ih]
          have c1 : (i < n + 1) = (i < n) := by rw [eq_iff_iff]; omega
          have c2 : (k < n + 1) = (k < n) := by rw [eq_iff_iff]; omega
          simp only [c1, c2]
  have hE : ∀ g : Nat → Int, slS zs g zs.length = g i + g k := fun g => by
    rw [hS g _ (Nat.le_refl _), if_pos (by omega), if_pos hk]
  have eN : slN zs zs.length = 1 + 1 := hE _
  have eA : slA zs zs.length = (i : Int) + (k : Int) := hE _
  have eX : slX zs zs.length = zs.getD i 0 + zs.getD k 0 := hE _
  have eQ : slQQ zs zs.length = (i : Int) * (i : Int) + (k : Int) * (k : Int) := hE _
  have eR : slR zs zs.length = (i : Int) * zs.getD i 0 + (k : Int) * zs.getD k 0 := hE _
  obtain ⟨g, p, q, _, hp, hq', g1, _, u, d, _, _⟩ := sl_parts h
  rw [hp, hq']
  have eU : slU zs zs.length = ((k : Int) - (i : Int)) * (zs.getD k 0 - zs.getD i 0) := by
    rw [slU, eN, eA, eX, eR]
    generalize zs.getD i 0 = x
    generalize zs.getD k 0 = y
    simp only [Int.mul_add, Int.add_mul, Int.sub_mul, Int.mul_sub, Int.one_mul]
    omega
  have eD : slD zs zs.length = ((k : Int) - (i : Int)) * ((k : Int) - (i : Int)) := by
    rw [slD, eN, eA, eQ]
    simp only [Int.mul_add, Int.add_mul, Int.sub_mul, Int.mul_sub, Int.one_mul]
    have : (i : Int) * (k : Int) = (k : Int) * (i : Int) := Int.mul_comm _ _
    omega
  rw [eU] at u
  rw [eD] at d
  generalize zs.getD k 0 - zs.getD i 0 = x at *
  generalize (k : Int) - (i : Int) = c at *
  have : p * c * g = x * q * g := by
    rw [Int.mul_right_comm p c g, ← u, Int.mul_assoc x q g, ← d, Int.mul_comm c x, Int.mul_assoc]
  exact Int.eq_of_mul_eq_mul_right (by omega) this
end Go.Proofs.Ytkiibklenpncpaa
