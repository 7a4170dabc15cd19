/- Lists of readings and of weights: what is valid; the program's functions and the model's answer 'rdsB', 'wtsB'; sums of readings with weights. -/
import Derived.Test.YtohoeonfoolpdaaDoorLs
import Derived.Test.YtohoeonfoolpdaaDoorHt
import Derived.LoopTactic
namespace Go.Proofs.YtohoeonfoolpdaaDoor
open Go.RowKit
set_option linter.unusedVariables false

def rdB (x : Int) : Bool := inB x (-999) 10999
def rdsB (zs : List Int) : Bool := zs.all rdB && decide (1 ≤ zs.length ∧ zs.length ≤ 24)
def wtB (x : Int) : Bool := inB x 0 9
def posB (x : Int) : Bool := decide (0 < x)
def wtsB (ws : List Int) : Bool := ws.all wtB && ws.any posB

theorem rds_len_no {zs : List Int} (h : ¬ (1 ≤ zs.length ∧ zs.length ≤ 24)) : rdsB zs = false := by simp [rdsB, h]
theorem rds_all {zs : List Int} (h : zs.all rdB = true) (h2 : 1 ≤ zs.length ∧ zs.length ≤ 24) : rdsB zs = true := by simp only [rdsB, h, h2]; rfl
theorem rds_bad {zs : List Int} (h : zs.all rdB = false) : rdsB zs = false := by rw [rdsB, h]; rfl
theorem rds_facts {zs : List Int} (h : rdsB zs = true) : zs.all rdB = true ∧ 1 ≤ zs.length ∧ zs.length ≤ 24 := by
  simp only [rdsB, Bool.and_eq_true, decide_eq_true_eq] at h; exact ⟨h.1, h.2.1, h.2.2⟩
theorem rd_bd {x : Int} (h : rdB x = true) : -999 ≤ x ∧ x ≤ 10999 := by simp [rdB, inB] at h; omega
theorem wt_bd {x : Int} (h : wtB x = true) : 0 ≤ x ∧ x ≤ 9 := by simp [wtB, inB] at h; omega
theorem wt_no {x : Int} (h : wtB x = false) : x < 0 ∨ 9 < x := by
  by_cases hh : 0 ≤ x ∧ x ≤ 9
  · rw [wtB, inB_yes hh] at h; cases h
  · omega
theorem rd_no {x : Int} (h : rdB x = false) : x < -999 ∨ 10999 < x := by
  by_cases hh : -999 ≤ x ∧ x ≤ 10999
  · rw [rdB, inB_yes hh] at h; cases h
  · omega
theorem take_all {zs : List Int} {k : Nat} (h : ¬ k < zs.length) : zs.take k = zs := List.take_of_length_le (by omega)

set_option maxHeartbeats 400000 in
theorem rd_impl (x : Int) (w : World) :
    Calls Tryd.prog 53 #[.int .i64 x] w fun e w' => e = .returned (.bool (rdB x)) ∧ w = w' := by
  go_enter Tryd.func53, Tryd.ntmps53
  go_wp2
  all_goals
    go_ret
    refine ⟨retB ?_, rfl⟩
    rw [Bool.eq_iff_iff]; simp [rdB, inB]; try omega

/-- The sum of the first k readings with their weights, and that of the first k weights. -/
def wsN (zs ws : List Int) : Nat → Int
  | 0 => 0
  | k + 1 => wsN zs ws k + zs.getD k 0 * ws.getD k 0
def wtN (ws : List Int) : Nat → Int
  | 0 => 0
  | k + 1 => wtN ws k + ws.getD k 0
theorem prod_bd {x y : Int} (h0 : -999 ≤ x) (h1 : x ≤ 10999) (h2 : 0 ≤ y) (h3 : y ≤ 9) : -8991 ≤ x * y ∧ x * y ≤ 98991 := by
  have e : y = 0 ∨ y = 1 ∨ y = 2 ∨ y = 3 ∨ y = 4 ∨ y = 5 ∨ y = 6 ∨ y = 7 ∨ y = 8 ∨ y = 9 := by omega
  rcases e with rfl | rfl | rfl | rfl | rfl | rfl | rfl | rfl | rfl | rfl <;> omega
theorem wsN_bd {zs ws : List Int} (hz : zs.all rdB = true) (hw : ws.all wtB = true) : ∀ k : Nat, k ≤ zs.length → k ≤ ws.length → -8991 * (k : Int) ≤ wsN zs ws k ∧ wsN zs ws k ≤ 98991 * (k : Int) ∧ 0 ≤ wtN ws k ∧ wtN ws k ≤ 9 * (k : Int)
  | 0, _, _ => by simp [wsN, wtN]
  | k + 1, h1, h2 => by
    obtain ⟨i1, i2, i3, i4⟩ := wsN_bd hz hw k (by omega) (by omega)
    obtain ⟨z0, z1⟩ := rd_bd (all_at hz (show k < zs.length by omega))
    obtain ⟨w0, w1⟩ := wt_bd (all_at hw (show k < ws.length by omega))
    obtain ⟨p0, p1⟩ := prod_bd z0 z1 w0 w1
    simp only [wsN, wtN]
    omega
/-- .. step by step, for weights that are not known to be valid yet. -/
theorem wsN_bd' {zs ws : List Int} (hz : zs.all rdB = true) : ∀ k : Nat, k ≤ zs.length → k ≤ ws.length → (ws.take k).all wtB = true → -8991 * (k : Int) ≤ wsN zs ws k ∧ wsN zs ws k ≤ 98991 * (k : Int) ∧ 0 ≤ wtN ws k ∧ wtN ws k ≤ 9 * (k : Int)
  | 0, _, _, _ => by simp [wsN, wtN]
  | k + 1, h1, h2, h3 => by
    rw [take_snoc_all _ _ _ (by omega), Bool.and_eq_true] at h3
    obtain ⟨i1, i2, i3, i4⟩ := wsN_bd' hz k (by omega) (by omega) h3.1
    obtain ⟨z0, z1⟩ := rd_bd (all_at hz (show k < zs.length by omega))
    obtain ⟨w0, w1⟩ := wt_bd h3.2
    obtain ⟨p0, p1⟩ := prod_bd z0 z1 w0 w1
    simp only [wsN, wtN]
    omega
theorem wtN_pos {ws : List Int} (hw : ws.all wtB = true) : ∀ k : Nat, k ≤ ws.length → ((ws.take k).any posB = true → 1 ≤ wtN ws k) ∧ ((ws.take k).any posB = false → wtN ws k = 0) ∧ 0 ≤ wtN ws k
  | 0, _ => by simp [wtN]
  | k + 1, h => by
    obtain ⟨i1, i2, i3⟩ := wtN_pos hw k (by omega)
    obtain ⟨w0, w1⟩ := wt_bd (all_at hw (show k < ws.length by omega))
    rw [take_snoc_any _ _ _ (by omega)]
    simp only [wtN]
    cases h1 : (ws.take k).any posB
    · have e := i2 h1
      refine ⟨?_, ?_, by omega⟩
      · intro h2
        simp only [Bool.false_or, posB, decide_eq_true_eq] at h2
        omega
      · intro h2
        simp only [Bool.false_or, posB, decide_eq_false_iff_not] at h2
        omega
    · have e := i1 h1
      exact ⟨fun _ => by omega, fun h2 => by simp at h2, by omega⟩

def hwOk (zs ws : List Int) : Bool := rdsB zs && decide (ws.length = zs.length) && wtsB ws
def hw (zs ws : List Int) : Int := if hwOk zs ws then rq (wsN zs ws zs.length) (wtN ws zs.length) else 0
theorem hw_yes {zs ws : List Int} (h : hwOk zs ws = true) : hw zs ws = rq (wsN zs ws zs.length) (wtN ws zs.length) := by simp [hw, h]
theorem hw_no {zs ws : List Int} (h : hwOk zs ws = false) : hw zs ws = 0 := by simp [hw, h]
theorem hwOk_facts {zs ws : List Int} (h : hwOk zs ws = true) : rdsB zs = true ∧ ws.length = zs.length ∧ wtsB ws = true ∧ zs.all rdB = true ∧ (1 ≤ zs.length ∧ zs.length ≤ 24) ∧ ws.all wtB = true ∧
    (-215784 ≤ wsN zs ws zs.length ∧ wsN zs ws zs.length ≤ 2375784) ∧ (1 ≤ wtN ws zs.length ∧ wtN ws zs.length ≤ 216) := by
  simp only [hwOk, Bool.and_eq_true, decide_eq_true_eq] at h
  obtain ⟨⟨h1, h2⟩, h3⟩ := h
  obtain ⟨h4, h5, h6⟩ := rds_facts h1
  have h7 := h3
  simp only [wtsB, Bool.and_eq_true] at h7
  obtain ⟨b1, b2, b3, b4⟩ := wsN_bd h4 h7.1 zs.length (by omega) (by omega)
  obtain ⟨p1, _, _⟩ := wtN_pos h7.1 ws.length (by omega)
  have p2 := p1 (by rw [List.take_length]; exact h7.2)
  rw [h2] at p2
  exact ⟨h1, h2, h3, h4, ⟨h5, h6⟩, h7.1, ⟨by omega, by omega⟩, p2, by omega⟩
end Go.Proofs.YtohoeonfoolpdaaDoor
