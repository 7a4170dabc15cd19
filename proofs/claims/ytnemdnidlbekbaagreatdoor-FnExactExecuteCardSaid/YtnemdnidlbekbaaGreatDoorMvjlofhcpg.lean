/- Texts of one claim in one: Hl, Fg, Fgm, Mp, Ex, Sd, Lw, Su, Rf, Rl, Me, Gp, Sq, Fc, Rr, Di, Ga, Mf, Row, Gs, Go, Gi, Gb, Gl. -/
import Derived.Test.YtnemdnidlbekbaaGreatDoorLs
import Derived.Test.YtnemdnidlbekbaaGreatDoorHt
import Derived.LoopTactic
import Derived.Test.YtnemdnidlbekbaaGreatDoorRv
import Derived.Test.YtnemdnidlbekbaaGreatDoorSort
import Derived.Test.YtnemdnidlbekbaaGreatDoorSe
import Derived.Deep.QuietTactic
import Derived.BigQuiet
import Derived.IntWalk
import Derived.Lib.AppendZeros
import Derived.WalkSpells
import Derived.Test.YtnemdnidlbekbaaGreatDoorFr
import Derived.Test.YtnemdnidlbekbaaGreatDoorKeep
import Derived.Test.YtnemdnidlbekbaaGreatDoorTi
import Derived.Lib.Hide
import Derived.Laws.OwnMore
import Derived.Deep.Draws
import Derived.Deep.AppendLies
import Derived.Deep.RegionHeld3
import Derived.Laws.MakeOwn
import Derived.Outline
import Derived.Test.YtnemdnidlbekbaaGreatDoorRg
import Derived.Test.YtnemdnidlbekbaaGreatDoorDrHl
import Derived.WalkKit
import Derived.StillTailTactics
import Derived.Test.YtnemdnidlbekbaaGreatDoorRm
import Derived.Deep.RegionLaw
import Derived.Deep.RegionWith
namespace Go.Proofs.YtnemdnidlbekbaaGreatDoor
open Go.RowKit
set_option linter.unusedVariables false

def rdB (x : Int) : Bool := inB x (-999) 10999
def rdsB (zs : List Int) : Bool := zs.all rdB && decide (1 ≤ zs.length ∧ zs.length ≤ 24)
def wtB (x : Int) : Bool := inB x 0 9
def posB (x : Int) : Bool := decide (0 < x)
def wtsB (ws : List Int) : Bool := ws.all wtB && ws.any posB

theorem rds_len_no {zs : List Int} (h : ¬ (1 ≤ zs.length ∧ zs.length ≤ 24)) : rdsB zs = false := by simp [rdsB, h]
theorem rds_all {zs : List Int} (h : zs.all rdB = true) (h2 : 1 ≤ zs.length ∧ zs.length ≤ 24) : rdsB zs = true := by simp only [rdsB, h, h2]; rfl
theorem rds_bad {zs : List Int} (h : zs.all rdB = false) : rdsB zs = false := by rw [rdsB, h]; rfl
theorem rds_facts {zs : List Int} (h : rdsB zs = true) : zs.all rdB = true ∧ 1 ≤ zs.length ∧ zs.length ≤ 24 := by
  simp only [rdsB, Bool.and_eq_true, decide_eq_true_eq] at h; exact ⟨h.1, h.2.1, h.2.2⟩
theorem rd_bd {x : Int} (h : rdB x = true) : -999 ≤ x ∧ x ≤ 10999 := by simp [rdB, inB] at h; omega
theorem wt_bd {x : Int} (h : wtB x = true) : 0 ≤ x ∧ x ≤ 9 := by simp [wtB, inB] at h; omega
theorem wt_no {x : Int} (h : wtB x = false) : x < 0 ∨ 9 < x := by
  by_cases hh : 0 ≤ x ∧ x ≤ 9
  · rw [wtB, inB_yes hh] at h; cases h
  · omega
theorem rd_no {x : Int} (h : rdB x = false) : x < -999 ∨ 10999 < x := by
  by_cases hh : -999 ≤ x ∧ x ≤ 10999
  · rw [rdB, inB_yes hh] at h; cases h
  · omega
theorem take_all {zs : List Int} {k : Nat} (h : ¬ k < zs.length) : zs.take k = zs := List.take_of_length_le (by omega)

set_option maxHeartbeats 400000 in
theorem rd_impl (x : Int) (w : World) :
    Calls Tryz.prog 138 #[.int .i64 x] w fun e w' => e = .returned (.bool (rdB x)) ∧ w = w' := by
  go_enter Tryz.func138, Tryz.ntmps138
  go_wp2
  all_goals
    go_ret
    refine ⟨retB ?_, rfl⟩
    rw [Bool.eq_iff_iff]; simp [rdB, inB]; try omega

/-- The sum of the first k readings with their weights, and that of the first k weights. -/
def wsN (zs ws : List Int) : Nat → Int
  | 0 => 0
  | k + 1 => wsN zs ws k + zs.getD k 0 * ws.getD k 0
def wtN (ws : List Int) : Nat → Int
  | 0 => 0
  | k + 1 => wtN ws k + ws.getD k 0
theorem prod_bd {x y : Int} (h0 : -999 ≤ x) (h1 : x ≤ 10999) (h2 : 0 ≤ y) (h3 : y ≤ 9) : -8991 ≤ x * y ∧ x * y ≤ 98991 := by
  have e : y = 0 ∨ y = 1 ∨ y = 2 ∨ y = 3 ∨ y = 4 ∨ y = 5 ∨ y = 6 ∨ y = 7 ∨ y = 8 ∨ y = 9 := by omega
  rcases e with rfl | rfl | rfl | rfl | rfl | rfl | rfl | rfl | rfl | rfl <;> omega
theorem wsN_bd {zs ws : List Int} (hz : zs.all rdB = true) (hw : ws.all wtB = true) : ∀ k : Nat, k ≤ zs.length → k ≤ ws.length → -8991 * (k : Int) ≤ wsN zs ws k ∧ wsN zs ws k ≤ 98991 * (k : Int) ∧ 0 ≤ wtN ws k ∧ wtN ws k ≤ 9 * (k : Int)
  | 0, _, _ => by simp [wsN, wtN]
  | k + 1, h1, h2 => by
    obtain ⟨i1, i2, i3, i4⟩ := wsN_bd hz hw k (by omega) (by omega)
    obtain ⟨z0, z1⟩ := rd_bd (all_at hz (show k < zs.length by omega))
    obtain ⟨w0, w1⟩ := wt_bd (all_at hw (show k < ws.length by omega))
    obtain ⟨p0, p1⟩ := prod_bd z0 z1 w0 w1
    simp only [wsN, wtN]
    omega
/-- .. step by step, for weights that are not known to be valid yet. -/
theorem wsN_bd' {zs ws : List Int} (hz : zs.all rdB = true) : ∀ k : Nat, k ≤ zs.length → k ≤ ws.length → (ws.take k).all wtB = true → -8991 * (k : Int) ≤ wsN zs ws k ∧ wsN zs ws k ≤ 98991 * (k : Int) ∧ 0 ≤ wtN ws k ∧ wtN ws k ≤ 9 * (k : Int)
  | 0, _, _, _ => by simp [wsN, wtN]
  | k + 1, h1, h2, h3 => by
    rw [take_snoc_all _ _ _ (by omega), Bool.and_eq_true] at h3
    obtain ⟨i1, i2, i3, i4⟩ := wsN_bd' hz k (by omega) (by omega) h3.1
    obtain ⟨z0, z1⟩ := rd_bd (all_at hz (show k < zs.length by omega))
    obtain ⟨w0, w1⟩ := wt_bd h3.2
    obtain ⟨p0, p1⟩ := prod_bd z0 z1 w0 w1
    simp only [wsN, wtN]
    omega
theorem wtN_pos {ws : List Int} (hw : ws.all wtB = true) : ∀ k : Nat, k ≤ ws.length → ((ws.take k).any posB = true → 1 ≤ wtN ws k) ∧ ((ws.take k).any posB = false → wtN ws k = 0) ∧ 0 ≤ wtN ws k
  | 0, _ => by simp [wtN]
  | k + 1, h => by
    obtain ⟨i1, i2, i3⟩ := wtN_pos hw k (by omega)
    obtain ⟨w0, w1⟩ := wt_bd (all_at hw (show k < ws.length by omega))
    rw [take_snoc_any _ _ _ (by omega)]
    simp only [wtN]
    cases h1 : (ws.take k).any posB
    · have e := i2 h1
      refine ⟨?_, ?_, by omega⟩
      · intro h2
        simp only [Bool.false_or, posB, decide_eq_true_eq] at h2
        omega
      · intro h2
        simp only [Bool.false_or, posB, decide_eq_false_iff_not] at h2
        omega
    · have e := i1 h1
      exact ⟨fun _ => by omega, fun h2 => by simp at h2, by omega⟩

def hwOk (zs ws : List Int) : Bool := rdsB zs && decide (ws.length = zs.length) && wtsB ws
def hw (zs ws : List Int) : Int := if hwOk zs ws then rq (wsN zs ws zs.length) (wtN ws zs.length) else 0
theorem hw_yes {zs ws : List Int} (h : hwOk zs ws = true) : hw zs ws = rq (wsN zs ws zs.length) (wtN ws zs.length) := by simp [hw, h]
theorem hw_no {zs ws : List Int} (h : hwOk zs ws = false) : hw zs ws = 0 := by simp [hw, h]
theorem hwOk_facts {zs ws : List Int} (h : hwOk zs ws = true) : rdsB zs = true ∧ ws.length = zs.length ∧ wtsB ws = true ∧ zs.all rdB = true ∧ (1 ≤ zs.length ∧ zs.length ≤ 24) ∧ ws.all wtB = true ∧
    (-215784 ≤ wsN zs ws zs.length ∧ wsN zs ws zs.length ≤ 2375784) ∧ (1 ≤ wtN ws zs.length ∧ wtN ws zs.length ≤ 216) := by
  simp only [hwOk, Bool.and_eq_true, decide_eq_true_eq] at h
  obtain ⟨⟨h1, h2⟩, h3⟩ := h
  obtain ⟨h4, h5, h6⟩ := rds_facts h1
  have h7 := h3
  simp only [wtsB, Bool.and_eq_true] at h7
  obtain ⟨b1, b2, b3, b4⟩ := wsN_bd h4 h7.1 zs.length (by omega) (by omega)
  obtain ⟨p1, _, _⟩ := wtN_pos h7.1 ws.length (by omega)
  have p2 := p1 (by rw [List.take_length]; exact h7.2)
  rw [h2] at p2
  exact ⟨h1, h2, h3, h4, ⟨h5, h6⟩, h7.1, ⟨by omega, by omega⟩, p2, by omega⟩
end Go.Proofs.YtnemdnidlbekbaaGreatDoor
namespace Go.Proofs.YtnemdnidlbekbaaGreatDoor
open Go.RowKit
set_option linter.unusedVariables false

def qB (x : Int) : Bool := decide (x = -9999) || rdB x
def sqB (zs : List Int) : Bool := zs.all qB && decide (1 ≤ zs.length ∧ zs.length ≤ 12)
theorem qB_bd {x : Int} (h : qB x = true) : x = -9999 ∨ (-999 ≤ x ∧ x ≤ 10999) := by
  simp only [qB, Bool.or_eq_true, decide_eq_true_eq] at h
  rcases h with h | h
  · exact .inl h
  · exact .inr (rd_bd h)
theorem qB_wide {x : Int} (h : qB x = true) : -9999 ≤ x ∧ x ≤ 10999 := by have := qB_bd h; omega
theorem qB_no {x : Int} (h : qB x = false) : x ≠ -9999 ∧ (x < -999 ∨ 10999 < x) := by
  simp only [qB, Bool.or_eq_false_iff, decide_eq_false_iff_not] at h
  exact ⟨h.1, rd_no h.2⟩
theorem qB_ne {x : Int} (h : x ≠ -9999) : qB x = rdB x := by rw [qB]; simp [h]
theorem qB_of {x : Int} (h : x = -9999 ∨ (-999 ≤ x ∧ x ≤ 10999)) : qB x = true := by
  cases hq : qB x
  · have := qB_no hq; omega
  · rfl
theorem sq_facts {zs : List Int} (h : sqB zs = true) : zs.all qB = true ∧ 1 ≤ zs.length ∧ zs.length ≤ 12 := by
  simp only [sqB, Bool.and_eq_true, decide_eq_true_eq] at h; exact ⟨h.1, h.2.1, h.2.2⟩
theorem sq_len_no {zs : List Int} (h : ¬ (1 ≤ zs.length ∧ zs.length ≤ 12)) : sqB zs = false := by simp [sqB, h]
theorem sq_all {zs : List Int} (h : zs.all qB = true) (h2 : 1 ≤ zs.length ∧ zs.length ≤ 12) : sqB zs = true := by simp only [sqB, h, h2]; rfl
theorem sq_bad {zs : List Int} (h : zs.all qB = false) : sqB zs = false := by rw [sqB, h]; rfl
theorem sq_at {zs : List Int} (h : sqB zs = true) {k : Nat} (hk : k < zs.length) : zs.getD k 0 = -9999 ∨ (-999 ≤ zs.getD k 0 ∧ zs.getD k 0 ≤ 10999) := qB_bd (all_at (sq_facts h).1 hk)

theorem tw_step (p : Int → Bool) (l : List Int) : ∀ j, j ≤ (l.takeWhile p).length → (j < (l.takeWhile p).length ↔ j < l.length ∧ p (l.getD j 0) = true) := by
  induction l with
  | nil => intro j hj; simp
  | cons y r ih =>
    intro j hj
    by_cases hp : p y = true
    · rw [List.takeWhile_cons_of_pos hp] at hj ⊢
      cases j with
      | zero => simp [hp]
      | succ j =>
        have := ih j (by simpa using hj)
        simpa using this
    · rw [List.takeWhile_cons_of_neg hp] at hj ⊢
      have : j = 0 := by simpa using hj
      subst this
      simp [hp]
/-- How many equal values there are just before a day, and just behind it. -/
def dnR (zs : List Int) (k : Nat) : Nat := ((zs.take k).reverse.takeWhile (· == zs.getD k 0)).length
def up (zs : List Int) (k : Nat) : Nat := ((zs.drop (k + 1)).takeWhile (· == zs.getD k 0)).length
theorem rev_take_at (zs : List Int) {k j : Nat} (hj : j < k) (hk : k < zs.length) : (zs.take k).reverse.getD j 0 = zs.getD (k - 1 - j) 0 := by
  have hl : (zs.take k).length = k := by rw [List.length_take]; omega
  have h1 : j < (zs.take k).length := by omega
  simp only [List.getD_eq_getElem?_getD]
  rw [List.getElem?_reverse h1, hl, List.getElem?_take]
  rw [if_pos (by omega)]
theorem dn_step {zs : List Int} {k j : Nat} (hk : k < zs.length) (hj : j ≤ dnR zs k) : j < dnR zs k ↔ j < k ∧ zs.getD (k - 1 - j) 0 = zs.getD k 0 := by
  have h := tw_step (· == zs.getD k 0) (zs.take k).reverse j hj
  have hl : (zs.take k).reverse.length = k := by rw [List.length_reverse, List.length_take]; omega
  rw [hl] at h
  refine h.trans ⟨fun ⟨h1, h2⟩ => ⟨h1, ?_⟩, fun ⟨h1, h2⟩ => ⟨h1, ?_⟩⟩
  · rw [rev_take_at zs h1 hk] at h2; simpa using h2
  · rw [rev_take_at zs h1 hk]; simpa using h2
theorem dn_le {zs : List Int} {k : Nat} (hk : k < zs.length) : dnR zs k ≤ k := by
  have h := (List.takeWhile_prefix (p := (· == zs.getD k 0)) (l := (zs.take k).reverse)).length_le
  have hl : (zs.take k).reverse.length = k := by rw [List.length_reverse, List.length_take]; omega
  unfold dnR; omega
theorem up_step {zs : List Int} {k j : Nat} (hj : j ≤ up zs k) : j < up zs k ↔ k + 1 + j < zs.length ∧ zs.getD (k + 1 + j) 0 = zs.getD k 0 := by
  have h := tw_step (· == zs.getD k 0) (zs.drop (k + 1)) j hj
  have hl : (zs.drop (k + 1)).length = zs.length - (k + 1) := List.length_drop
  rw [hl] at h
  have hg : (zs.drop (k + 1)).getD j 0 = zs.getD (k + 1 + j) 0 := by simp [List.getD_eq_getElem?_getD]
  rw [hg] at h
  refine h.trans ⟨fun ⟨h1, h2⟩ => ⟨by omega, by simpa using h2⟩, fun ⟨h1, h2⟩ => ⟨by omega, by simpa using h2⟩⟩
theorem up_le {zs : List Int} {k : Nat} (hk : k < zs.length) : k + 1 + up zs k ≤ zs.length := by
  have h := (List.takeWhile_prefix (p := (· == zs.getD k 0)) (l := zs.drop (k + 1))).length_le
  have hl : (zs.drop (k + 1)).length = zs.length - (k + 1) := List.length_drop
  unfold up; omega

def bt (b : Bool) (n : Int) : Int := if b then n else 0
def limB (lo hi x : Int) : Bool := !(inB x lo hi)
def stpB (zs : List Int) (st : Int) (k : Nat) : Bool := decide (0 < k) && (zs.getD (k - 1) 0 != -9999 && !(inB (zs.getD k 0 - zs.getD (k - 1) 0) (-st) st))
def samB (zs : List Int) (k : Nat) : Bool := decide (4 ≤ dnR zs k + 1 + up zs k)
/-- The flags of a day. -/
def fl (zs : List Int) (lo hi st : Int) (k : Nat) : Int := if zs.getD k 0 = -9999 then 1 else bt (limB lo hi (zs.getD k 0)) 2 + bt (stpB zs st k) 4 + bt (samB zs k) 8
def flL (zs : List Int) (lo hi st : Int) : List Int := (List.range zs.length).map fun k => fl zs lo hi st k
theorem flL_len (zs : List Int) (lo hi st : Int) : (flL zs lo hi st).length = zs.length := by simp [flL]
theorem flL_at {zs : List Int} {lo hi st : Int} {k : Nat} (h : k < zs.length) : (flL zs lo hi st).getD k 0 = fl zs lo hi st k := by
  simp [flL, List.getD_eq_getElem?_getD, h]
theorem flL_snoc {zs : List Int} {lo hi st : Int} {k : Nat} (h : k < zs.length) : (flL zs lo hi st).take (k + 1) = (flL zs lo hi st).take k ++ [fl zs lo hi st k] := by
  rw [List.take_succ_eq_append_getElem (by rw [flL_len]; exact h)]
  congr 2
  simp [flL]
def foOk (zs : List Int) (st : Int) : Bool := sqB zs && inB st 0 19999
def foL (zs : List Int) (lo hi st : Int) : List Int := if foOk zs st then flL zs lo hi st else []
theorem foL_no {zs : List Int} {lo hi st : Int} (h : foOk zs st = false) : foL zs lo hi st = [] := by simp [foL, h]
theorem foL_yes {zs : List Int} {lo hi st : Int} (h : foOk zs st = true) : foL zs lo hi st = flL zs lo hi st := by simp [foL, h]
theorem foOk_facts {zs : List Int} {st : Int} (h : foOk zs st = true) : sqB zs = true ∧ 0 ≤ st ∧ st ≤ 19999 := by
  simp only [foOk, inB, Bool.and_eq_true, decide_eq_true_eq] at h; omega
theorem foL_len (zs : List Int) (lo hi st : Int) : (foL zs lo hi st).length ≤ 12 := by
  cases h : foOk zs st
  · rw [foL_no h]; simp
  · rw [foL_yes h, flL_len]; exact (sq_facts (foOk_facts h).1).2.2

/-- The cleaned series. -/
def fcOk (zs fs : List Int) : Bool := sqB zs && (decide (fs.length = zs.length) && fs.all fun f => inB f 0 15)
def fcv (x f : Int) : Int := if f = 0 then x else -9999
def fcl (zs fs : List Int) : List Int := (List.range zs.length).map fun k => fcv (zs.getD k 0) (fs.getD k 0)
def fcL (zs fs : List Int) : List Int := if fcOk zs fs then fcl zs fs else []
theorem fcl_len (zs fs : List Int) : (fcl zs fs).length = zs.length := by simp [fcl]
theorem fcl_at {zs fs : List Int} {k : Nat} (h : k < zs.length) : (fcl zs fs).getD k 0 = fcv (zs.getD k 0) (fs.getD k 0) := by
  simp [fcl, List.getD_eq_getElem?_getD, h]
theorem fcl_snoc {zs fs : List Int} {k : Nat} (h : k < zs.length) : (fcl zs fs).take (k + 1) = (fcl zs fs).take k ++ [fcv (zs.getD k 0) (fs.getD k 0)] := by
  rw [List.take_succ_eq_append_getElem (by rw [fcl_len]; exact h)]
  congr 2
  simp [fcl]
theorem fcL_no {zs fs : List Int} (h : fcOk zs fs = false) : fcL zs fs = [] := by simp [fcL, h]
theorem fcL_yes {zs fs : List Int} (h : fcOk zs fs = true) : fcL zs fs = fcl zs fs := by simp [fcL, h]
theorem fcOk_facts {zs fs : List Int} (h : fcOk zs fs = true) : sqB zs = true ∧ fs.length = zs.length ∧ fs.all (fun f => inB f 0 15) = true := by
  simp only [fcOk, Bool.and_eq_true, decide_eq_true_eq] at h; exact ⟨h.1, h.2.1, h.2.2⟩
theorem fcL_len (zs fs : List Int) : (fcL zs fs).length ≤ 12 := by
  cases h : fcOk zs fs
  · rw [fcL_no h]; simp
  · rw [fcL_yes h, fcl_len]; exact (sq_facts (fcOk_facts h).1).2.2

/-- How many of the first k days have a value. -/
def knN (zs : List Int) : Nat → Nat
  | 0 => 0
  | k + 1 => knN zs k + (if zs.getD k 0 = -9999 then 0 else 1)
theorem knN_le (zs : List Int) : ∀ k, knN zs k ≤ k
  | 0 => Nat.le_refl _
  | k + 1 => by have := knN_le zs k; simp only [knN]; split <;> omega
def sk (zs : List Int) : Int := if sqB zs then (knN zs zs.length : Int) else -1
theorem sk_yes {zs : List Int} (h : sqB zs = true) : sk zs = (knN zs zs.length : Int) := by simp [sk, h]
theorem sk_no {zs : List Int} (h : sqB zs = false) : sk zs = -1 := by simp [sk, h]
end Go.Proofs.YtnemdnidlbekbaaGreatDoor
namespace Go.Proofs.YtnemdnidlbekbaaGreatDoor
open Go.RowKit
set_option linter.unusedVariables false

theorem dn_ge {zs : List Int} {k c : Nat} (hk : k < zs.length) (hc : c ≤ k) (h : ∀ j, j < c → zs.getD (k - 1 - j) 0 = zs.getD k 0) : c ≤ dnR zs k := by
  induction c with
  | zero => exact Nat.zero_le _
  | succ c ih =>
    have h1 := ih (by omega) (fun j hj => h j (by omega))
    have := (dn_step hk h1).2 ⟨by omega, h c (by omega)⟩
    omega
theorem up_ge {zs : List Int} {k c : Nat} (hk : k < zs.length) (hc : k + c < zs.length) (h : ∀ j, j < c → zs.getD (k + 1 + j) 0 = zs.getD k 0) : c ≤ up zs k := by
  induction c with
  | zero => exact Nat.zero_le _
  | succ c ih =>
    have h1 := ih (by omega) (fun j hj => h j (by omega))
    have := (up_step h1).2 ⟨by omega, h c (by omega)⟩
    omega
theorem dn_all {zs : List Int} {k j : Nat} (hk : k < zs.length) (hj : j < dnR zs k) : zs.getD (k - 1 - j) 0 = zs.getD k 0 := ((dn_step hk (Nat.le_of_lt hj)).1 hj).2
theorem up_all {zs : List Int} {k j : Nat} (hj : j < up zs k) : zs.getD (k + 1 + j) 0 = zs.getD k 0 := ((up_step (Nat.le_of_lt hj)).1 hj).2
/-- The law's own count of equal values, m places behind s. -/
def rwN (zs : List Int) (i s : Nat) : Nat → Nat
  | 0 => 0
  | m + 1 => if zs.getD (s + m) 0 = zs.getD i 0 then rwN zs i s m + 1 else 0
theorem rwN_le (zs : List Int) (i s : Nat) : ∀ m, rwN zs i s m ≤ m
  | 0 => Nat.le_refl _
  | m + 1 => by have := rwN_le zs i s m; simp only [rwN]; split <;> omega
theorem rwN_all (zs : List Int) (i s : Nat) : ∀ m j, j < rwN zs i s m → zs.getD (s + m - 1 - j) 0 = zs.getD i 0
  | 0, j, h => by simp [rwN] at h
  | m + 1, j, h => by
    simp only [rwN] at h
    split at h
    · rename_i e
      cases j with
      | zero => rw [show s + (m + 1) - 1 - 0 = s + m by omega]; exact e
      | succ j =>
        rw [show s + (m + 1) - 1 - (j + 1) = s + m - 1 - j by omega]
        exact rwN_all zs i s m j (by omega)
    · omega
theorem rwN_ge (zs : List Int) (i s : Nat) : ∀ m c, c ≤ m → (∀ j, j < c → zs.getD (s + m - 1 - j) 0 = zs.getD i 0) → c ≤ rwN zs i s m
  | 0, c, hc, _ => by omega
  | m + 1, 0, _, _ => Nat.zero_le _
  | m + 1, c + 1, hc, h => by
    have h0 := h 0 (by omega)
    rw [show s + (m + 1) - 1 - 0 = s + m by omega] at h0
    have h1 := rwN_ge zs i s m c (by omega) (fun j hj => by
      have := h (j + 1) (by omega)
      rw [show s + (m + 1) - 1 - (j + 1) = s + m - 1 - j by omega] at this
      exact this)
    simp only [rwN, if_pos h0]
    omega
/-- The law's count comes to four just where there is a run of four. -/
theorem rwN_run {zs : List Int} {i m : Nat} (hi : i < zs.length) (hm1 : i - 3 + m ≤ zs.length) (hm2 : i - 3 + m ≤ i + 4) (hlt : ∀ m', m' < m → rwN zs i (i - 3) m' < 4)
    (hend : 4 ≤ rwN zs i (i - 3) m ∨ i - 3 + m = zs.length ∨ i - 3 + m = i + 4) : (decide (rwN zs i (i - 3) m = 4)) = samB zs i := by
  have hup4 : rwN zs i (i - 3) m ≤ 4 := by
    cases m with
    | zero => simp [rwN]
    | succ m => have := hlt m (by omega); simp only [rwN]; split <;> omega
  have hmle := rwN_le zs i (i - 3) m
  rw [samB, Bool.eq_iff_iff, decide_eq_true_eq, decide_eq_true_eq]
  constructor
  · intro h4
    have hall := rwN_all zs i (i - 3) m
    rw [h4] at hall
    obtain ⟨t, ht⟩ : ∃ t, i - 3 + m = t + 4 := ⟨i - 3 + m - 4, by omega⟩
    have hw : ∀ j, j < 4 → zs.getD (t + 3 - j) 0 = zs.getD i 0 := fun j hj => by
      have := hall j hj
      rw [show i - 3 + m - 1 - j = t + 3 - j by omega] at this; exact this
    have d1 : i - t ≤ dnR zs i := dn_ge hi (by omega) (fun j hj => by
      have := hw (t + 3 - (i - 1 - j)) (by omega)
      rw [show t + 3 - (t + 3 - (i - 1 - j)) = i - 1 - j by omega] at this; exact this)
    have d2 : t + 3 - i ≤ up zs i := up_ge hi (by omega) (fun j hj => by
      have := hw (t + 3 - (i + 1 + j)) (by omega)
      rw [show t + 3 - (t + 3 - (i + 1 + j)) = i + 1 + j by omega] at this; exact this)
    omega
  · intro hs
    by_cases h4 : 4 ≤ rwN zs i (i - 3) m
    · omega
    exfalso
    have hdl := dn_le hi
    have hul := up_le hi
    have hE : i - 3 + m = zs.length ∨ i - 3 + m = i + 4 := by omega
    obtain ⟨t, ht⟩ : ∃ t, t = i - min (dnR zs i) 3 := ⟨_, rfl⟩
    have hm0 : t + 4 - (i - 3) ≤ m := by omega
    have hge : 4 ≤ rwN zs i (i - 3) (t + 4 - (i - 3)) := rwN_ge zs i (i - 3) _ 4 (by omega) (fun j hj => by
      rw [show i - 3 + (t + 4 - (i - 3)) - 1 - j = t + 3 - j by omega]
      by_cases hlt' : t + 3 - j < i
      · have := dn_all hi (j := i - 1 - (t + 3 - j)) (by omega)
        rw [show i - 1 - (i - 1 - (t + 3 - j)) = t + 3 - j by omega] at this; exact this
      · by_cases he : t + 3 - j = i
        · rw [he]
        · have := up_all (zs := zs) (k := i) (j := t + 3 - j - (i + 1)) (by omega)
          rw [show i + 1 + (t + 3 - j - (i + 1)) = t + 3 - j by omega] at this; exact this)
    rcases Nat.lt_or_eq_of_le hm0 with h | h
    · have := hlt _ h; omega
    · rw [h] at hge; exact h4 hge

/-- The flags as three answers. -/
theorem fl_cases (zs : List Int) (lo hi st : Int) (k : Nat) : (zs.getD k 0 = -9999 ∧ fl zs lo hi st k = 1) ∨
    (zs.getD k 0 ≠ -9999 ∧ fl zs lo hi st k = bt (limB lo hi (zs.getD k 0)) 2 + bt (stpB zs st k) 4 + bt (samB zs k) 8) := by
  by_cases h : zs.getD k 0 = -9999
  · exact .inl ⟨h, by rw [fl, if_pos h]⟩
  · exact .inr ⟨h, by rw [fl, if_neg h]⟩
theorem fl_bd (zs : List Int) (lo hi st : Int) (k : Nat) : 0 ≤ fl zs lo hi st k ∧ fl zs lo hi st k ≤ 15 := by
  rcases fl_cases zs lo hi st k with ⟨_, h⟩ | ⟨_, h⟩
  · omega
  · rw [h]; unfold bt; (repeat' split) <;> omega

/-- Values moved by one. -/
def add1 (x : Int) : Int := if x = -9999 then -9999 else x + 1
theorem add1_at (zs : List Int) {k : Nat} (h : k < zs.length) : (zs.map add1).getD k 0 = add1 (zs.getD k 0) := by simp [List.getD_eq_getElem?_getD, h]
theorem add1_inj {zs : List Int} (h : sqB zs = true) {i k : Nat} (hi : i < zs.length) (hk : k < zs.length) : (zs.map add1).getD i 0 = (zs.map add1).getD k 0 ↔ zs.getD i 0 = zs.getD k 0 := by
  rw [add1_at zs hi, add1_at zs hk]
  have h1 := sq_at h hi
  have h2 := sq_at h hk
  unfold add1
  split <;> split <;> omega
theorem dn_add {zs : List Int} (h : sqB zs = true) {k : Nat} (hk : k < zs.length) : dnR (zs.map add1) k = dnR zs k := by
  have hk' : k < (zs.map add1).length := by simpa using hk
  apply Nat.le_antisymm
  · refine dn_ge hk (dn_le hk') fun j hj => ?_
    have h1 := dn_all hk' hj
    have h2 := dn_le hk'
    exact (add1_inj h (by omega) hk).1 h1
  · refine dn_ge hk' (dn_le hk) fun j hj => ?_
    have h1 := dn_all hk hj
    have h2 := dn_le hk
    exact (add1_inj h (by omega) hk).2 h1
theorem up_add {zs : List Int} (h : sqB zs = true) {k : Nat} (hk : k < zs.length) : up (zs.map add1) k = up zs k := by
  have hk' : k < (zs.map add1).length := by simpa using hk
  have e : (zs.map add1).length = zs.length := by simp
  have l1 := up_le hk
  have l2 := up_le hk'
  apply Nat.le_antisymm
  · refine up_ge hk (by omega) fun j hj => ?_
    exact (add1_inj h (by omega) hk).1 (up_all hj)
  · refine up_ge hk' (by omega) fun j hj => ?_
    exact (add1_inj h (by omega) hk).2 (up_all hj)
theorem fl_add {zs : List Int} (h : sqB zs = true) (lo hi st : Int) {k : Nat} (hk : k < zs.length) : fl (zs.map add1) (lo + 1) (hi + 1) st k = fl zs lo hi st k := by
  have h1 := sq_at h hk
  have e1 : samB (zs.map add1) k = samB zs k := by rw [samB, samB, dn_add h hk, up_add h hk]
  by_cases hn : zs.getD k 0 = -9999
  · have e2 : (zs.map add1).getD k 0 = -9999 := by rw [add1_at zs hk, hn]; rfl
    rw [fl, fl, if_pos hn, if_pos e2]
  · have e2 : (zs.map add1).getD k 0 = zs.getD k 0 + 1 := by rw [add1_at zs hk, add1, if_neg hn]
    have e3 : limB (lo + 1) (hi + 1) (zs.getD k 0 + 1) = limB lo hi (zs.getD k 0) := by
      unfold limB inB; rw [Bool.eq_iff_iff]; simp
    have e4 : stpB (zs.map add1) st k = stpB zs st k := by
      unfold stpB
      by_cases h0 : 0 < k
      · have h2 := sq_at h (show k - 1 < zs.length by omega)
        have e5 := add1_at zs (show k - 1 < zs.length by omega)
        rw [e5, e2]
        by_cases hm : zs.getD (k - 1) 0 = -9999
        · rw [hm]; simp [add1]
        · have e6 : add1 (zs.getD (k - 1) 0) = zs.getD (k - 1) 0 + 1 := by rw [add1, if_neg hm]
          rw [e6, show zs.getD k 0 + 1 - (zs.getD (k - 1) 0 + 1) = zs.getD k 0 - zs.getD (k - 1) 0 by omega]
          have e7 : (zs.getD (k - 1) 0 + 1 != -9999) = true := bne_iff_ne.2 (by omega)
          have e8 : (zs.getD (k - 1) 0 != -9999) = true := bne_iff_ne.2 (by omega)
          rw [e7, e8]
      · simp [h0]
    rw [fl, fl, if_neg hn, e2, if_neg (by omega), e3, e4, e1]
theorem flL_add {zs : List Int} (h : sqB zs = true) (lo hi st : Int) : flL (zs.map add1) (lo + 1) (hi + 1) st = flL zs lo hi st := by
  unfold flL
  rw [List.length_map]
  refine List.map_congr_left fun k hk => ?_
  exact fl_add h lo hi st (by simpa using hk)

/-- Cleaning. -/
theorem fcl_valid {zs fs : List Int} (h : sqB zs = true) : sqB (fcl zs fs) = true := by
  obtain ⟨h1, h2, h3⟩ := sq_facts h
  refine sq_all ?_ (by rw [fcl_len]; exact ⟨h2, h3⟩)
  rw [List.all_eq_true]
  intro x hx
  simp only [fcl, List.mem_map, List.mem_range] at hx
  obtain ⟨k, hk, rfl⟩ := hx
  unfold fcv
  split
  · exact all_at h1 hk
  · rfl
theorem fcl_twice (zs fs : List Int) : fcl (fcl zs fs) fs = fcl zs fs := by
  have e : fcl (fcl zs fs) fs = (List.range zs.length).map fun k => fcv ((fcl zs fs).getD k 0) (fs.getD k 0) := by
    unfold fcl; simp
  rw [e]
  show _ = (List.range zs.length).map fun k => fcv (zs.getD k 0) (fs.getD k 0)
  refine List.map_congr_left fun k hk => ?_
  rw [fcl_at (by simpa using hk)]
  unfold fcv
  split <;> rfl
theorem fcl_ok {zs fs : List Int} (h : fcOk zs fs = true) : fcOk (fcl zs fs) fs = true := by
  obtain ⟨h1, h2, h3⟩ := fcOk_facts h
  rw [fcOk, fcl_valid h1, fcl_len, h3]
  simp [h2]
theorem getD_congr {zs : List Int} {n k : Nat} (e : zs.length = n) (hk : k < n) : k < zs.length := by omega
theorem fcl_zero {zs fs : List Int} (hl : fs.length = zs.length) (h : ∀ k, k < zs.length → fs.getD k 0 = 0) : fcl zs fs = zs := by
  apply List.ext_getElem
  · exact fcl_len zs fs
  · intro k h1 h2
    have e := fcl_at (fs := fs) h2
    rw [h k h2] at e
    have e2 : fcv (zs.getD k 0) 0 = zs.getD k 0 := rfl
    rw [e2] at e
    simpa [List.getD_eq_getElem?_getD, h1, h2] using e
theorem knN_mono {zs ys : List Int} (h : ∀ k, ys.getD k 0 = -9999 ∨ ys.getD k 0 = zs.getD k 0) : ∀ n, knN ys n ≤ knN zs n
  | 0 => Nat.le_refl _
  | n + 1 => by
    have := knN_mono h n
    have h2 := h n
    simp only [knN]
    rcases h2 with h2 | h2
    · rw [h2]; simp; omega
    · rw [h2]; omega
/-- Known values. -/
def knl (zs : List Int) : List Int := zs.filter fun x => x != -9999
theorem knN_filter (zs : List Int) : ∀ k, k ≤ zs.length → knN zs k = (knl (zs.take k)).length
  | 0, _ => by simp [knN, knl]
  | k + 1, h => by
    have ih := knN_filter zs k (by omega)
    have e : zs.getD k 0 = zs[k] := by simp [List.getD_eq_getElem?_getD, show k < zs.length by omega]
    rw [List.take_succ_eq_append_getElem (by omega)]
    simp only [knN, ih, knl, List.filter_append, List.length_append, e]
    congr 1
    by_cases hx : zs[k] = -9999
    · simp [hx]
    · simp [hx]
theorem knN_all (zs : List Int) : knN zs zs.length = (knl zs).length := by rw [knN_filter zs _ (Nat.le_refl _), List.take_length]
theorem knl_rev (zs : List Int) : (knl zs.reverse).length = (knl zs).length := by unfold knl; rw [List.filter_reverse, List.length_reverse]
theorem sq_rev {zs : List Int} : sqB zs.reverse = sqB zs := by unfold sqB; rw [List.all_reverse, List.length_reverse]
theorem sk_rev (zs : List Int) : sk zs.reverse = sk zs := by
  unfold sk
  rw [sq_rev, knN_all, knN_all, knl_rev]
/-- A step, part by part. -/
theorem stp_cases {zs : List Int} (st : Int) {k : Nat} (hq : sqB zs = true) (hk : k < zs.length) : (k = 0 ∧ stpB zs st k = false) ∨ (∃ q, k = q + 1 ∧ zs.getD q 0 = -9999 ∧ stpB zs st k = false) ∨
    (∃ q, k = q + 1 ∧ zs.getD q 0 ≠ -9999 ∧ (-999 ≤ zs.getD q 0 ∧ zs.getD q 0 ≤ 10999) ∧ stpB zs st k = !(inB (zs.getD k 0 - zs.getD q 0) (-st) st)) := by
  by_cases h0 : k = 0
  · left; subst h0; exact ⟨rfl, rfl⟩
  · right
    obtain ⟨q, rfl⟩ : ∃ q, k = q + 1 := ⟨k - 1, by omega⟩
    have yb := sq_at hq (show q < zs.length by omega)
    by_cases hy : zs.getD q 0 = -9999
    · left; exact ⟨q, rfl, hy, by unfold stpB; rw [show q + 1 - 1 = q by omega, hy]; simp⟩
    · right
      refine ⟨q, rfl, hy, by omega, ?_⟩
      have hy2 : (zs.getD q 0 != -9999) = true := bne_iff_ne.2 hy
      unfold stpB
      have hd : decide (0 < q + 1) = true := by simp
      rw [show q + 1 - 1 = q by omega, hy2, hd, Bool.true_and, Bool.true_and]
theorem stp_parts (x y st : Int) : ((!(inB (x - y) (-st) st)) = true ∧ decide (st < x - y) = true) ∨ ((!(inB (x - y) (-st) st)) = true ∧ decide (st < x - y) = false ∧ decide (st < y - x) = true) ∨ ((!(inB (x - y) (-st) st)) = false ∧ decide (st < x - y) = false ∧ decide (st < y - x) = false) := by
  by_cases h1 : st < x - y
  · left; exact ⟨by rw [inB_no (by omega)]; rfl, decide_eq_true h1⟩
  · by_cases h2 : st < y - x
    · right; left; exact ⟨by rw [inB_no (by omega)]; rfl, decide_eq_false h1, decide_eq_true h2⟩
    · right; right; exact ⟨by rw [inB_yes (by omega)]; rfl, decide_eq_false h1, decide_eq_false h2⟩
theorem fl_wide (zs : List Int) (lo hi st : Int) (k : Nat) : (fl zs (lo - 1) (hi + 1) (st + 1) k = 1 ∧ fl zs lo hi st k = 1) ∨
    (∃ l l' s s' m : Bool, (l' = true → l = true) ∧ (s' = true → s = true) ∧ fl zs (lo - 1) (hi + 1) (st + 1) k = bt l' 2 + bt s' 4 + bt m 8 ∧ fl zs lo hi st k = bt l 2 + bt s 4 + bt m 8) := by
  by_cases h : zs.getD k 0 = -9999
  · exact .inl ⟨by rw [fl, if_pos h], by rw [fl, if_pos h]⟩
  · refine .inr ⟨limB lo hi (zs.getD k 0), limB (lo - 1) (hi + 1) (zs.getD k 0), stpB zs st k, stpB zs (st + 1) k, samB zs k, ?_, ?_, by rw [fl, if_neg h], by rw [fl, if_neg h]⟩
    · unfold limB inB; simp; omega
    · unfold stpB inB
      simp only [Bool.and_eq_true]
      rintro ⟨h1, h2, h3⟩
      refine ⟨h1, h2, ?_⟩
      simp at h3 ⊢; omega
end Go.Proofs.YtnemdnidlbekbaaGreatDoor
namespace Go.Proofs.YtnemdnidlbekbaaGreatDoor
open Go.RowKit
set_option linter.unusedVariables false

theorem sorted_perm (L : List Int) : (sorted L).Perm L := List.mergeSort_perm _ _
theorem sorted_pw (L : List Int) : (sorted L).Pairwise (fun x y => x ≤ y) := by
  have h := List.pairwise_mergeSort (le := fun x y : Int => decide (x ≤ y)) (fun a b c h1 h2 => by simp at *; omega) (fun a b => by simp; omega) L
  exact h.imp (fun h => by simpa using h)
def cLt (L : List Int) (v : Int) : Nat := L.countP fun x => decide (x < v)
def cLe (L : List Int) (v : Int) : Nat := L.countP fun x => decide (x ≤ v)
def cEq (L : List Int) (v : Int) : Nat := L.countP fun x => decide (x = v)
def cGt (L : List Int) (v : Int) : Nat := L.countP fun x => decide (v < x)
theorem cLe_parts (L : List Int) (v : Int) : cLe L v = cLt L v + cEq L v := by
  induction L with
  | nil => rfl
  | cons x L ih =>
    simp only [cLe, cLt, cEq, List.countP_cons] at ih ⊢
    rw [ih]
    by_cases h1 : x < v <;> by_cases h2 : x = v <;> by_cases h3 : x ≤ v <;> simp [h1, h2, h3] <;> omega
theorem cGt_parts (L : List Int) (v : Int) : cLe L v + cGt L v = L.length := by
  induction L with
  | nil => rfl
  | cons x L ih =>
    simp only [cLe, cGt, List.countP_cons, List.length_cons] at ih ⊢
    by_cases h1 : x ≤ v <;> by_cases h2 : v < x <;> simp [h1, h2] <;> omega
theorem cnt_many {s : List Int} {m : Nat} (hm : m < s.length) (p : Int → Bool) (h : ∀ i, i ≤ m → p (s.getD i 0) = true) : m + 1 ≤ s.countP p := by
  have e : s.countP p = (s.take (m + 1)).countP p + (s.drop (m + 1)).countP p := by rw [← List.countP_append, List.take_append_drop]
  have e2 : (s.take (m + 1)).countP p = (s.take (m + 1)).length := by
    rw [List.countP_eq_length]
    intro x hx
    obtain ⟨i, hi, rfl⟩ := List.getElem_of_mem hx
    rw [List.length_take] at hi
    have := h i (by omega)
    rw [List.getElem_take]
    simpa [List.getD_eq_getElem?_getD, (show i < s.length by omega)] using this
  rw [e, e2, List.length_take]; omega
theorem cnt_few {s : List Int} {m : Nat} (p : Int → Bool) (h : ∀ i, m ≤ i → i < s.length → p (s.getD i 0) = false) : s.countP p ≤ m := by
  have e : s.countP p = (s.take m).countP p + (s.drop m).countP p := by rw [← List.countP_append, List.take_append_drop]
  have e2 : (s.drop m).countP p = 0 := by
    rw [List.countP_eq_zero]
    intro x hx
    obtain ⟨i, hi, rfl⟩ := List.getElem_of_mem hx
    rw [List.length_drop] at hi
    have := h (m + i) (by omega) (by omega)
    rw [List.getElem_drop]
    simpa [List.getD_eq_getElem?_getD, (show m + i < s.length by omega)] using this
  have e3 := List.countP_le_length (p := p) (l := s.take m)
  rw [List.length_take] at e3
  omega
theorem pw_at {s : List Int} (h : s.Pairwise (fun x y => x ≤ y)) {i j : Nat} (hij : i ≤ j) (hj : j < s.length) : s.getD i 0 ≤ s.getD j 0 := by
  rcases Nat.lt_or_eq_of_le hij with hlt | rfl
  · have := (List.pairwise_iff_getElem.1 h) i j (by omega) hj hlt
    simpa [List.getD_eq_getElem?_getD, hj, (show i < s.length by omega)] using this
  · exact Int.le_refl _
theorem cLt_perm {a b : List Int} (h : a.Perm b) (v : Int) : cLt a v = cLt b v := h.countP_eq _
theorem cLe_perm {a b : List Int} (h : a.Perm b) (v : Int) : cLe a v = cLe b v := h.countP_eq _
/-- The value at place m of the sorted list. -/
theorem mid_iff (L : List Int) (v : Int) {m : Nat} (hm : m < L.length) : (cLt L v ≤ m ∧ m < cLe L v) ↔ (sorted L).getD m 0 = v := by
  have hp := sorted_perm L
  have hs := sorted_pw L
  have hl : (sorted L).length = L.length := sorted_length L
  rw [← cLt_perm hp, ← cLe_perm hp]
  generalize sorted L = s at *
  constructor
  · rintro ⟨h1, h2⟩
    by_cases hlt : s.getD m 0 < v
    · have := cnt_many (s := s) (m := m) (by omega) (fun x => decide (x < v)) (fun i hi => by have := pw_at hs hi (by omega); exact decide_eq_true (by omega))
      unfold cLt at h1; omega
    · by_cases hgt : v < s.getD m 0
      · have := cnt_few (m := m) (s := s) (fun x => decide (x ≤ v)) (fun i hi hil => by have := pw_at hs hi hil; exact decide_eq_false (by omega))
        unfold cLe at h2; omega
      · omega
  · rintro rfl
    constructor
    · exact cnt_few (m := m) (s := s) _ (fun i hi hil => by have := pw_at hs hi hil; exact decide_eq_false (by omega))
    · have := cnt_many (m := m) (s := s) (by omega) (fun x => decide (x ≤ s.getD m 0)) (fun i hi => by have := pw_at hs hi (by omega); exact decide_eq_true (by omega))
      unfold cLe; omega
/-- The median of values that are there. -/
def mdL (L : List Int) : Int := (sorted L).getD ((L.length - 1) / 2) 0
theorem mdL_iff (L : List Int) (v : Int) (h0 : 0 < L.length) : (cLt L v ≤ (L.length - 1) / 2 ∧ (L.length - 1) / 2 < cLe L v) ↔ mdL L = v := mid_iff L v (by omega)
theorem mdL_mem {L : List Int} (h0 : 0 < L.length) : mdL L ∈ L := by
  have hl : (L.length - 1) / 2 < (sorted L).length := by rw [sorted_length]; omega
  refine (sorted_perm L).subset ?_
  rw [mdL, List.getD_eq_getElem?_getD, List.getElem?_eq_getElem hl]
  exact List.getElem_mem hl
theorem mdL_perm {a b : List Int} (h : a.Perm b) : mdL a = mdL b := by
  have hl := h.length_eq
  by_cases h0 : 0 < a.length
  · refine (mdL_iff a _ h0).1 ?_
    have := (mdL_iff b _ (by omega)).2 rfl
    rw [cLt_perm h, cLe_perm h, hl]
    exact this
  · have ha : a = [] := List.eq_nil_of_length_eq_zero (by omega)
    have hb : b = [] := List.eq_nil_of_length_eq_zero (by omega)
    rw [ha, hb]
theorem cLt_add (L : List Int) (v d : Int) : cLt (L.map (· + d)) (v + d) = cLt L v := by
  rw [cLt, cLt, List.countP_map]
  congr 1
  funext x
  simp only [Function.comp]
  exact decide_eq_decide.2 (by omega)
theorem cLe_add (L : List Int) (v d : Int) : cLe (L.map (· + d)) (v + d) = cLe L v := by
  rw [cLe, cLe, List.countP_map]
  congr 1
  funext x
  simp only [Function.comp]
  exact decide_eq_decide.2 (by omega)
theorem mdL_add {L : List Int} (h0 : 0 < L.length) (d : Int) : mdL (L.map (· + d)) = mdL L + d := by
  refine (mdL_iff _ _ (by simpa using h0)).1 ?_
  rw [cLt_add, cLe_add, List.length_map]
  exact (mdL_iff L _ h0).2 rfl
theorem knl_back (zs : List Int) : (knl zs.reverse).Perm (knl zs) := by
  rw [knl, List.filter_reverse]
  exact List.reverse_perm _
/-- Whether a series has a median, and which. -/
def moB (zs : List Int) : Bool := sqB zs && decide (0 < (knl zs).length)
def moV (zs : List Int) : Int := if moB zs then mdL (knl zs) else 0
theorem moB_facts {zs : List Int} (h : moB zs = true) : sqB zs = true ∧ 0 < (knl zs).length := by
  simpa [moB] using h
theorem moV_no {zs : List Int} (h : moB zs = false) : moV zs = 0 := by simp [moV, h]
theorem moV_yes {zs : List Int} (h : moB zs = true) : moV zs = mdL (knl zs) := by simp [moV, h]
theorem mo_back (zs : List Int) : moB zs.reverse = moB zs ∧ moV zs.reverse = moV zs := by
  have h1 : moB zs.reverse = moB zs := by rw [moB, moB, sq_rev, knl_rev]
  refine ⟨h1, ?_⟩
  rw [moV, moV, h1, mdL_perm (knl_back zs)]
theorem knl_add1 {zs : List Int} (h : ∀ x ∈ zs, x = -9999 ∨ -999 ≤ x) : knl (zs.map add1) = (knl zs).map (· + 1) := by
  induction zs with
  | nil => rfl
  | cons x zs ih =>
    have hx := h x (by simp)
    have ih := ih (fun y hy => h y (by simp [hy]))
    rw [knl, knl] at ih ⊢
    rw [List.map_cons, List.filter_cons, List.filter_cons, ih]
    rcases hx with rfl | hx
    · rfl
    · have e : add1 x = x + 1 := by unfold add1; split <;> omega
      have e1 : (x != -9999) = true := bne_iff_ne.2 (by omega)
      have e2 : (x + 1 != -9999) = true := bne_iff_ne.2 (by omega)
      simp only [e, e1, e2, if_true, List.map_cons]
theorem mo_add {zs : List Int} (h : moB zs = true) (h2 : moB (zs.map add1) = true) : moV (zs.map add1) = moV zs + 1 := by
  obtain ⟨hq, h0⟩ := moB_facts h
  have hb : ∀ x ∈ zs, x = -9999 ∨ -999 ≤ x := fun x hx => by
    have := List.all_eq_true.1 (sq_facts hq).1 x hx
    rcases qB_bd this with h | ⟨h, _⟩
    · exact .inl h
    · exact .inr h
  rw [moV_yes h, moV_yes h2, knl_add1 hb, mdL_add h0]
theorem md_counts {L : List Int} (h0 : 0 < L.length) : 2 * cLt L (mdL L) < L.length ∧ 2 * cGt L (mdL L) ≤ L.length := by
  obtain ⟨h1, h2⟩ := (mdL_iff L _ h0).2 rfl
  have := cGt_parts L (mdL L)
  omega
end Go.Proofs.YtnemdnidlbekbaaGreatDoor
namespace Go.Proofs.YtnemdnidlbekbaaGreatDoor
open Go.RowKit
set_option linter.unusedVariables false

/-- A value that is there and is at least a level. -/
def reB (lv x : Int) : Bool := (x != -9999) && decide (lv ≤ x)
theorem reB_none (lv : Int) : reB lv (-9999) = false := rfl
theorem reB_cases (lv x : Int) : (x = -9999 ∧ reB lv x = false) ∨ ((x != -9999) = true ∧ (x == -9999) = false ∧ x < lv ∧ reB lv x = false) ∨ ((x != -9999) = true ∧ (x == -9999) = false ∧ lv ≤ x ∧ reB lv x = true) := by
  by_cases h : x = -9999
  · left; subst h; exact ⟨rfl, rfl⟩
  · have h1 : (x != -9999) = true := bne_iff_ne.2 h
    have h2 : (x == -9999) = false := beq_eq_false_iff_ne.2 h
    by_cases h3 : lv ≤ x
    · right; right; exact ⟨h1, h2, h3, by rw [reB, h1, decide_eq_true h3]; rfl⟩
    · right; left; exact ⟨h1, h2, by omega, by rw [reB, h1, decide_eq_false h3]; rfl⟩

def abN (zs : List Int) (lv : Int) : Nat → Nat
  | 0 => 0
  | k + 1 => abN zs lv k + (if reB lv (zs.getD k 0) then 1 else 0)
theorem abN_le (zs : List Int) (lv : Int) : ∀ k, abN zs lv k ≤ k
  | 0 => Nat.le_refl _
  | k + 1 => by have := abN_le zs lv k; simp only [abN]; split <;> omega
theorem abN_yes {zs : List Int} {lv : Int} {k : Nat} (h : reB lv (zs.getD k 0) = true) : abN zs lv (k + 1) = abN zs lv k + 1 := by simp only [abN, h, if_true]
theorem abN_no {zs : List Int} {lv : Int} {k : Nat} (h : reB lv (zs.getD k 0) = false) : abN zs lv (k + 1) = abN zs lv k := by simp only [abN, h, Bool.false_eq_true, if_false, Nat.add_zero]
def abV (zs : List Int) (lv : Int) : Int := if sqB zs then (abN zs lv zs.length : Int) else -1
theorem abV_yes {zs : List Int} (lv : Int) (h : sqB zs = true) : abV zs lv = (abN zs lv zs.length : Int) := by simp [abV, h]
theorem abV_no {zs : List Int} (lv : Int) (h : sqB zs = false) : abV zs lv = -1 := by simp [abV, h]
theorem abN_count (zs : List Int) (lv : Int) : ∀ k, k ≤ zs.length → abN zs lv k = (zs.take k).countP (reB lv)
  | 0, _ => rfl
  | k + 1, h => by
    rw [List.take_succ_eq_append_getElem h, List.countP_append, ← abN_count zs lv k (by omega)]
    simp [abN, List.getD_eq_getElem?_getD, show k < zs.length by omega, List.countP_cons]
/-- What is there is above or below. -/
theorem ab_parts (zs : List Int) (lv : Int) : abN zs lv zs.length + cLt (knl zs) lv = (knl zs).length := by
  rw [abN_count zs lv _ (Nat.le_refl _), List.take_length]
  induction zs with
  | nil => rfl
  | cons x zs ih =>
    rcases reB_cases lv x with ⟨rfl, h⟩ | ⟨h1, _, h3, h⟩ | ⟨h1, _, h3, h⟩
    · rw [List.countP_cons, h]
      have : knl (-9999 :: zs) = knl zs := by simp [knl]
      rw [this]; simpa using ih
    · rw [List.countP_cons, h]
      have e : knl (x :: zs) = x :: knl zs := by simp only [knl, List.filter_cons, h1]; rfl
      rw [e, cLt, List.countP_cons, List.length_cons]
      simp only [cLt] at ih
      simp [h3]; omega
    · rw [List.countP_cons, h]
      have e : knl (x :: zs) = x :: knl zs := by simp only [knl, List.filter_cons, h1]; rfl
      rw [e, cLt, List.countP_cons, List.length_cons]
      simp only [cLt] at ih
      have h4 : ¬ x < lv := by omega
      simp [h4]; omega

/-- The run up to a day, the longest run up to a day, and its first day. -/
def spR (zs : List Int) (lv : Int) : Nat → Nat
  | 0 => 0
  | k + 1 => if reB lv (zs.getD k 0) then spR zs lv k + 1 else 0
def spM (zs : List Int) (lv : Int) : Nat → Nat
  | 0 => 0
  | k + 1 => if spM zs lv k < spR zs lv (k + 1) then spR zs lv (k + 1) else spM zs lv k
def spF (zs : List Int) (lv : Int) : Nat → Nat
  | 0 => 0
  | k + 1 => if spM zs lv k < spR zs lv (k + 1) then k + 1 - spR zs lv (k + 1) else spF zs lv k
theorem spR_no {zs : List Int} {lv : Int} {k : Nat} (h : reB lv (zs.getD k 0) = false) : spR zs lv (k + 1) = 0 ∧ spM zs lv (k + 1) = spM zs lv k ∧ spF zs lv (k + 1) = spF zs lv k := by
  have e : spR zs lv (k + 1) = 0 := by simp only [spR, h, Bool.false_eq_true, if_false]
  refine ⟨e, ?_, ?_⟩
  · rw [spM, e, if_neg (by omega)]
  · rw [spF, e, if_neg (by omega)]
theorem spR_yes {zs : List Int} {lv : Int} {k : Nat} (h : reB lv (zs.getD k 0) = true) : spR zs lv (k + 1) = spR zs lv k + 1 := by simp only [spR, h, if_true]
theorem spM_more {zs : List Int} {lv : Int} {k : Nat} (h : reB lv (zs.getD k 0) = true) (h2 : spM zs lv k < spR zs lv k + 1) : spM zs lv (k + 1) = spR zs lv k + 1 ∧ spF zs lv (k + 1) = k - spR zs lv k := by
  have e := spR_yes h
  constructor
  · rw [spM, e, if_pos h2]
  · rw [spF, e, if_pos h2]; omega
theorem spM_less {zs : List Int} {lv : Int} {k : Nat} (h : reB lv (zs.getD k 0) = true) (h2 : ¬ spM zs lv k < spR zs lv k + 1) : spM zs lv (k + 1) = spM zs lv k ∧ spF zs lv (k + 1) = spF zs lv k := by
  have e := spR_yes h
  constructor
  · rw [spM, e, if_neg h2]
  · rw [spF, e, if_neg h2]
theorem spR_le (zs : List Int) (lv : Int) : ∀ k, spR zs lv k ≤ k
  | 0 => Nat.le_refl _
  | k + 1 => by have := spR_le zs lv k; simp only [spR]; split <;> omega
theorem spR_M (zs : List Int) (lv : Int) : ∀ k, spR zs lv k ≤ spM zs lv k ∧ spF zs lv k + spM zs lv k ≤ k
  | 0 => ⟨Nat.le_refl _, Nat.le_refl _⟩
  | k + 1 => by
    have h := spR_M zs lv k
    have hr := spR_le zs lv (k + 1)
    simp only [spM, spF]
    split <;> constructor <;> omega
theorem spR_run (zs : List Int) (lv : Int) : ∀ k j, j < spR zs lv k → reB lv (zs.getD (k - 1 - j) 0) = true
  | 0, j, h => by simp [spR] at h
  | k + 1, j, h => by
    simp only [spR] at h
    split at h
    · rename_i e
      cases j with
      | zero => exact e
      | succ j =>
        have := spR_run zs lv k j (by omega)
        rwa [show k + 1 - 1 - (j + 1) = k - 1 - j by omega]
    · omega
theorem spR_end (zs : List Int) (lv : Int) : ∀ k, spR zs lv k = k ∨ reB lv (zs.getD (k - 1 - spR zs lv k) 0) = false
  | 0 => .inl rfl
  | k + 1 => by
    rcases Bool.eq_false_or_eq_true (reB lv (zs.getD k 0)) with h | h
    · rw [spR_yes h]
      rcases spR_end zs lv k with h2 | h2
      · left; omega
      · right; rwa [show k + 1 - 1 - (spR zs lv k + 1) = k - 1 - spR zs lv k by omega]
    · rw [(spR_no h).1]; right; exact h
/-- The longest run is one, and it ends. -/
theorem spM_run (zs : List Int) (lv : Int) : ∀ k, (spM zs lv k = 0 → spF zs lv k = 0) ∧ (0 < spM zs lv k →
      (∀ j, j < spM zs lv k → reB lv (zs.getD (spF zs lv k + j) 0) = true) ∧ (spF zs lv k = 0 ∨ reB lv (zs.getD (spF zs lv k - 1) 0) = false) ∧
      ((spF zs lv k + spM zs lv k = k ∧ spR zs lv k = spM zs lv k) ∨ reB lv (zs.getD (spF zs lv k + spM zs lv k) 0) = false))
  | 0 => ⟨fun _ => rfl, fun h => by simp [spM] at h⟩
  | k + 1 => by
    have ih := spM_run zs lv k
    have hM := spR_M zs lv k
    rcases Bool.eq_false_or_eq_true (reB lv (zs.getD k 0)) with h | h
    · by_cases h2 : spM zs lv k < spR zs lv k + 1
      · obtain ⟨e1, e2⟩ := spM_more h h2
        have e3 := spR_yes h
        rw [e1, e2, e3]
        have hl := spR_le zs lv k
        refine ⟨fun h0 => by omega, fun _ => ⟨fun j hj => ?_, ?_, .inl ⟨by omega, rfl⟩⟩⟩
        · have := spR_run zs lv (k + 1) (spR zs lv k - j) (by rw [e3]; omega)
          rwa [show k + 1 - 1 - (spR zs lv k - j) = k - spR zs lv k + j by omega] at this
        · rcases spR_end zs lv k with h3 | h3
          · left; omega
          · right; rwa [show k - spR zs lv k - 1 = k - 1 - spR zs lv k by omega]
      · obtain ⟨e1, e2⟩ := spM_less h h2
        rw [e1, e2]
        refine ⟨ih.1, fun h0 => ?_⟩
        obtain ⟨a, b, c⟩ := ih.2 h0
        refine ⟨a, b, ?_⟩
        rcases c with ⟨c1, c2⟩ | c
        · omega
        · exact .inr c
    · obtain ⟨e0, e1, e2⟩ := spR_no h
      rw [e1, e2, e0]
      refine ⟨ih.1, fun h0 => ?_⟩
      obtain ⟨a, b, c⟩ := ih.2 h0
      refine ⟨a, b, .inr ?_⟩
      rcases c with ⟨c1, c2⟩ | c
      · rw [c1]; exact h
      · exact c
/-- No run is longer, and none of the same length is earlier. -/
theorem spM_mono (zs : List Int) (lv : Int) {k n : Nat} (h : k ≤ n) : spM zs lv k ≤ spM zs lv n := by
  induction n with
  | zero => obtain rfl : k = 0 := by omega
            exact Nat.le_refl _
  | succ n ih =>
    by_cases e : k = n + 1
    · rw [e]; exact Nat.le_refl _
    · refine Nat.le_trans (ih (by omega)) ?_
      simp only [spM]; split <;> omega
theorem spM_first (zs : List Int) (lv : Int) {k n : Nat} (h : k ≤ n) (hr : spR zs lv k = spM zs lv n) (h0 : 0 < spR zs lv k) : spF zs lv n ≤ k - spR zs lv k := by
  induction n with
  | zero => obtain rfl : k = 0 := by omega
            simp [spR] at h0
  | succ n ih =>
    by_cases e : k = n + 1
    · subst e
      rw [spF]
      split
      · exact Nat.le_refl _
      · rename_i hn
        have h1 := spR_M zs lv (n + 1)
        have h2 : spM zs lv (n + 1) = spM zs lv n := by rw [spM, if_neg hn]
        have h3 := spR_M zs lv n
        omega
    · have hk : k ≤ n := by omega
      have h1 := (spR_M zs lv k).1
      have h2 := spM_mono zs lv hk
      rw [spM] at hr
      rw [spF]
      split at hr
      · omega
      · rename_i hn
        rw [if_neg hn]
        exact ih hk hr
/-- A run is not longer than there are values. -/
theorem sp_ab (zs : List Int) (lv : Int) : ∀ k, spR zs lv k ≤ abN zs lv k ∧ spM zs lv k ≤ abN zs lv k
  | 0 => ⟨Nat.le_refl _, Nat.le_refl _⟩
  | k + 1 => by
    have h := sp_ab zs lv k
    rcases Bool.eq_false_or_eq_true (reB lv (zs.getD k 0)) with h1 | h1
    · rw [abN_yes h1]
      have e := spR_yes h1
      refine ⟨by omega, ?_⟩
      rw [spM]; split <;> omega
    · rw [abN_no h1]
      obtain ⟨e0, e1, _⟩ := spR_no h1
      rw [e0, e1]
      exact ⟨by omega, h.2⟩
/-- What SpellOf answers. -/
def spA (zs : List Int) (lv : Int) : Int := if sqB zs then (spF zs lv zs.length : Int) else 0
def spN (zs : List Int) (lv : Int) : Int := if sqB zs then (spM zs lv zs.length : Int) else 0
theorem sp_yes {zs : List Int} (lv : Int) (h : sqB zs = true) : spA zs lv = (spF zs lv zs.length : Int) ∧ spN zs lv = (spM zs lv zs.length : Int) := by simp [spA, spN, h]
theorem sp_no {zs : List Int} (lv : Int) (h : sqB zs = false) : spA zs lv = 0 ∧ spN zs lv = 0 := by simp [spA, spN, h]

/-- The greatest value of the first days (-1000 if there is none), and whether a day is a record. -/
def rcG (zs : List Int) : Nat → Int
  | 0 => -1000
  | k + 1 => if zs.getD k 0 ≠ -9999 ∧ rcG zs k < zs.getD k 0 then zs.getD k 0 else rcG zs k
def rcB (zs : List Int) (k : Nat) : Bool := (zs.getD k 0 != -9999) && decide (rcG zs k < zs.getD k 0)
def rcl (zs : List Int) : Nat → List Int
  | 0 => []
  | k + 1 => if rcB zs k then rcl zs k ++ [(k : Int)] else rcl zs k
theorem rc_cases (zs : List Int) (k : Nat) : (zs.getD k 0 = -9999 ∧ rcG zs (k + 1) = rcG zs k ∧ rcl zs (k + 1) = rcl zs k ∧ rcB zs k = false) ∨
    (zs.getD k 0 ≠ -9999 ∧ zs.getD k 0 ≤ rcG zs k ∧ rcG zs (k + 1) = rcG zs k ∧ rcl zs (k + 1) = rcl zs k ∧ rcB zs k = false) ∨
    (zs.getD k 0 ≠ -9999 ∧ rcG zs k < zs.getD k 0 ∧ rcG zs (k + 1) = zs.getD k 0 ∧ rcl zs (k + 1) = rcl zs k ++ [(k : Int)] ∧ rcB zs k = true) := by
  by_cases h : zs.getD k 0 = -9999
  · have hb : rcB zs k = false := by rw [rcB, h]; rfl
    left; exact ⟨h, by rw [rcG, if_neg (fun e => e.1 h)], by rw [rcl, hb]; rfl, hb⟩
  · have h1 : (zs.getD k 0 != -9999) = true := bne_iff_ne.2 h
    by_cases h2 : rcG zs k < zs.getD k 0
    · have hb : rcB zs k = true := by rw [rcB, h1, decide_eq_true h2]; rfl
      right; right; exact ⟨h, h2, by rw [rcG, if_pos ⟨h, h2⟩], by rw [rcl, hb]; rfl, hb⟩
    · have hb : rcB zs k = false := by rw [rcB, h1, decide_eq_false h2]; rfl
      right; left; exact ⟨h, by omega, by rw [rcG, if_neg (fun e => h2 e.2)], by rw [rcl, hb]; rfl, hb⟩
theorem rcl_len (zs : List Int) : ∀ k, (rcl zs k).length ≤ k
  | 0 => Nat.le_refl _
  | k + 1 => by have := rcl_len zs k; simp only [rcl]; split <;> simp <;> omega
def rcL (zs : List Int) : List Int := if sqB zs then rcl zs zs.length else []
theorem rcL_yes {zs : List Int} (h : sqB zs = true) : rcL zs = rcl zs zs.length := by simp [rcL, h]
theorem rcL_no {zs : List Int} (h : sqB zs = false) : rcL zs = [] := by simp [rcL, h]
theorem rcL_len (zs : List Int) : (rcL zs).length ≤ 12 := by
  cases h : sqB zs
  · rw [rcL_no h]; simp
  · rw [rcL_yes h]; exact Nat.le_trans (rcl_len _ _) (sq_facts h).2.2
theorem rcG_bd {zs : List Int} (h : sqB zs = true) : ∀ k, k ≤ zs.length → -1000 ≤ rcG zs k ∧ rcG zs k ≤ 10999
  | 0, _ => by simp [rcG]
  | k + 1, hk => by
    have h1 := rcG_bd h k (by omega)
    have h2 := sq_at h (show k < zs.length by omega)
    simp only [rcG]; split <;> omega
theorem rcl_mem (zs : List Int) (i : Nat) : ∀ k, ((i : Int) ∈ rcl zs k ↔ i < k ∧ rcB zs i = true)
  | 0 => by simp [rcl]
  | k + 1 => by
    have ih := rcl_mem zs i k
    simp only [rcl]
    split
    · rename_i hb
      rw [List.mem_append, ih, List.mem_singleton]
      constructor
      · rintro (h | h)
        · exact ⟨by omega, h.2⟩
        · obtain rfl : i = k := by omega
          exact ⟨by omega, hb⟩
      · rintro ⟨h1, h2⟩
        by_cases e : i = k
        · right; omega
        · left; exact ⟨by omega, h2⟩
    · rename_i hb
      rw [ih]
      constructor
      · rintro ⟨h1, h2⟩; exact ⟨by omega, h2⟩
      · rintro ⟨h1, h2⟩
        by_cases e : i = k
        · subst e; exact absurd h2 hb
        · exact ⟨by omega, h2⟩
/-- The law's own look at the days before a day. -/
def rcA (zs : List Int) (i : Nat) : Nat → Bool
  | 0 => zs.getD i 0 != -9999
  | k + 1 => rcA zs i k && (decide (zs.getD k 0 = -9999) || decide (zs.getD k 0 < zs.getD i 0))
theorem rcA_eq (zs : List Int) (i : Nat) (hx : -1000 < zs.getD i 0 ∨ zs.getD i 0 = -9999) : ∀ k, rcA zs i k = ((zs.getD i 0 != -9999) && decide (rcG zs k < zs.getD i 0))
  | 0 => by
    rcases hx with hx | hx
    · rw [rcA, rcG, decide_eq_true hx, Bool.and_true]
    · rw [rcA, hx]; rfl
  | k + 1 => by
    rw [rcA, rcA_eq zs i hx k, rcG]
    generalize zs.getD i 0 = x
    generalize zs.getD k 0 = y
    generalize rcG zs k = g
    cases h3 : (x != -9999)
    · rfl
    · simp only [Bool.true_and]
      by_cases h : y = -9999
      · rw [if_neg (fun e => e.1 h), decide_eq_true h, Bool.true_or, Bool.and_true]
      · rw [decide_eq_false h, Bool.false_or]
        by_cases h2 : g < y
        · rw [if_pos ⟨h, h2⟩]
          rw [Bool.eq_iff_iff, Bool.and_eq_true, decide_eq_true_eq, decide_eq_true_eq]; omega
        · rw [if_neg (fun e => h2 e.2)]
          rw [Bool.eq_iff_iff, Bool.and_eq_true, decide_eq_true_eq, decide_eq_true_eq]; omega
end Go.Proofs.YtnemdnidlbekbaaGreatDoor
namespace Go.Proofs.YtnemdnidlbekbaaGreatDoor
open Go.RowKit
set_option linter.unusedVariables false

theorem sorted_eq {s L : List Int} (hp : s.Perm L) (hs : s.Pairwise (fun x y => x ≤ y)) : s = sorted L :=
  List.Perm.eq_of_pairwise (le := fun x y : Int => x ≤ y) (fun a b _ _ h1 h2 => Int.le_antisymm h1 h2) hs (sorted_pw L) (hp.trans (sorted_perm L).symm)
theorem sorted_nil : sorted [] = [] := by simp [sorted]
/-- One more number at its place. -/
theorem sorted_put {L : List Int} {x : Int} {k : Nat} (hk : k ≤ (sorted L).length) (h1 : ∀ j, j < k → (sorted L).getD j 0 ≤ x) (h2 : ∀ j, k ≤ j → j < (sorted L).length → x ≤ (sorted L).getD j 0) :
    (sorted L).take k ++ [x] ++ (sorted L).drop k = sorted (L ++ [x]) := by
  have hp := sorted_perm L
  have hs := sorted_pw L
  generalize sorted L = s at *
  refine sorted_eq ?_ ?_
  · have e : (s.take k ++ [x] ++ s.drop k).Perm (s.take k ++ s.drop k ++ [x]) := by
      rw [List.append_assoc, List.append_assoc]
      exact List.Perm.append_left _ List.perm_append_comm
    rw [List.take_append_drop] at e
    exact e.trans (hp.append_right _)
  · have a1 : ∀ y ∈ s.take k, y ≤ x := fun y hy => by
      obtain ⟨j, hj, rfl⟩ := List.getElem_of_mem hy
      rw [List.length_take] at hj
      have := h1 j (by omega)
      rw [List.getElem_take]
      simpa [List.getD_eq_getElem?_getD, show j < s.length by omega] using this
    have a2 : ∀ y ∈ s.drop k, x ≤ y := fun y hy => by
      obtain ⟨j, hj, rfl⟩ := List.getElem_of_mem hy
      rw [List.length_drop] at hj
      have := h2 (k + j) (by omega) (by omega)
      rw [List.getElem_drop]
      simpa [List.getD_eq_getElem?_getD, show k + j < s.length by omega] using this
    rw [← List.take_append_drop k s, List.pairwise_append] at hs
    rw [List.append_assoc, List.pairwise_append]
    refine ⟨hs.1, ?_, fun a ha b hb => ?_⟩
    · rw [List.singleton_append, List.pairwise_cons]
      exact ⟨a2, hs.2.1⟩
    · rw [List.singleton_append, List.mem_cons] at hb
      rcases hb with rfl | hb
      · exact a1 a ha
      · exact hs.2.2 a ha b hb
theorem sorted_at {L : List Int} {i j : Nat} (hij : i ≤ j) (hj : j < (sorted L).length) : (sorted L).getD i 0 ≤ (sorted L).getD j 0 := pw_at (sorted_pw L) hij hj
theorem sorted_same {a b : List Int} (h : a.Perm b) : sorted a = sorted b := sorted_eq ((sorted_perm a).trans h) (sorted_pw a)
def soL (zs : List Int) : List Int := if sqB zs then sorted (knl zs) else []
theorem soL_yes {zs : List Int} (h : sqB zs = true) : soL zs = sorted (knl zs) := by simp [soL, h]
theorem soL_no {zs : List Int} (h : sqB zs = false) : soL zs = [] := by simp [soL, h]
theorem knl_le (zs : List Int) : (knl zs).length ≤ zs.length := List.length_filter_le _ _
theorem soL_len (zs : List Int) : (soL zs).length ≤ 12 := by
  cases h : sqB zs
  · rw [soL_no h]; simp
  · rw [soL_yes h, sorted_length]; exact Nat.le_trans (knl_le zs) (sq_facts h).2.2
theorem soL_back (zs : List Int) : soL zs.reverse = soL zs := by
  rw [soL, soL, sq_rev, sorted_same (knl_back zs)]
theorem knl_bd {zs : List Int} (h : sqB zs = true) : ∀ x ∈ knl zs, -999 ≤ x ∧ x ≤ 10999 := fun x hx => by
  rw [knl, List.mem_filter] at hx
  rcases qB_bd (List.all_eq_true.1 (sq_facts h).1 x hx.1) with h1 | h1
  · exact absurd h1 (by simpa using hx.2)
  · exact h1

/-- The quantile: its place counted from one, its value. -/
def quK (m : Nat) (num den : Int) : Int := (num * (m : Int) + den - 1) / den
def quB (zs : List Int) (num den : Int) : Bool := sqB zs && (decide (0 < (knl zs).length) && (inB den 1 100 && inB num 1 den))
def quV (zs : List Int) (num den : Int) : Int := if quB zs num den then (sorted (knl zs)).getD (quK (knl zs).length num den - 1).toNat 0 else 0
theorem quB_facts {zs : List Int} {num den : Int} (h : quB zs num den = true) : sqB zs = true ∧ 0 < (knl zs).length ∧ (1 ≤ den ∧ den ≤ 100) ∧ 1 ≤ num ∧ num ≤ den := by
  simp only [quB, inB, Bool.and_eq_true, decide_eq_true_eq] at h
  exact ⟨h.1, h.2.1, h.2.2.1, h.2.2.2⟩
theorem quV_no {zs : List Int} {num den : Int} (h : quB zs num den = false) : quV zs num den = 0 := by simp [quV, h]
theorem quV_yes {zs : List Int} {num den : Int} (h : quB zs num den = true) : quV zs num den = (sorted (knl zs)).getD (quK (knl zs).length num den - 1).toNat 0 := by simp [quV, h]
theorem quK_bd {m : Nat} {num den : Int} (hm : 0 < m) (hm2 : m ≤ 12) (hd : 1 ≤ den ∧ den ≤ 100) (hn : 1 ≤ num ∧ num ≤ den) : 1 ≤ quK m num den ∧ quK m num den ≤ (m : Int) ∧ num * (m : Int) ≤ quK m num den * den ∧ (quK m num den - 1) * den < num * (m : Int) ∧ 1 ≤ num * (m : Int) ∧ num * (m : Int) ≤ 1200 := by
  have p1 : 1 * (m : Int) ≤ num * (m : Int) := Int.mul_le_mul_of_nonneg_right hn.1 (by omega)
  have p2 : num * (m : Int) ≤ den * (m : Int) := Int.mul_le_mul_of_nonneg_right hn.2 (by omega)
  have p3 : den * (m : Int) ≤ 100 * (m : Int) := Int.mul_le_mul_of_nonneg_right hd.2 (by omega)
  unfold quK
  generalize hp : num * (m : Int) = p at *
  have hd0 : 0 < den := by omega
  have q1 := Int.mul_ediv_add_emod (p + den - 1) den
  have q2 := Int.emod_nonneg (p + den - 1) (show den ≠ 0 by omega)
  have q3 := Int.emod_lt_of_pos (p + den - 1) hd0
  generalize (p + den - 1) % den = r at *
  generalize hq : (p + den - 1) / den = q at *
  have e : den * q = q * den := Int.mul_comm _ _
  rw [e] at q1
  have a1 : p ≤ q * den := by omega
  have a2 : (q - 1) * den < p := by rw [Int.sub_mul, Int.one_mul]; omega
  have a3 : q ≤ (m : Int) := by
    have : (q - 1) * den < (m : Int) * den := by rw [Int.mul_comm (m : Int) den]; omega
    have := Int.lt_of_mul_lt_mul_right this (by omega)
    omega
  have a4 : 1 ≤ q := by
    have : 0 * den < q * den := by omega
    have := Int.lt_of_mul_lt_mul_right this (by omega)
    omega
  exact ⟨a4, a3, a1, a2, by omega, by omega⟩
end Go.Proofs.YtnemdnidlbekbaaGreatDoor
namespace Go.Proofs.YtnemdnidlbekbaaGreatDoor
open Go.RowKit
set_option linter.unusedVariables false

theorem infoIntL : (Tryz.prog.info? 3).map (fun i => (i.zero, i.size, i.bytes)) = some (some (.int .i64 0), 1, 8) := by kernel_rfl
theorem wr_ownL {w : World} {base g n c : Nat} {e : TypeId} {zs : List Int} (h : w.ownsRow base e 1 (.slice (some ⟨g, 0, none⟩) n c) n (zs.map (Value.int .i64))) : (n = zs.length ∧ n ≤ c) ∧ Wr w g zs ∧ base ≤ g ∧ g < w.heap.size := by
  have hl : n = zs.length := by have := h.1; simp at this; omega
  refine ⟨⟨hl, ?_⟩, fun j hj => ⟨?_, World.ownsRow.frozenAt h j⟩, (World.ownsRow.lt h g rfl).1, (World.ownsRow.lt h g rfl).2⟩
  · rcases id h.2 with ⟨hn, _⟩ | ⟨g', cap', cur, hn, _, hc, _⟩
    · cases hn
    · injection hn with _ _ hn; subst hn; omega
  · rw [World.ownsRow.cellAt h j (by omega)]
    simp [hj, List.getD_eq_getElem?_getD]
/-- A slice that a law's function has made. -/
def MadeL (L : List Int) (w : World) (e : Ending) (w' : World) : Prop := ∃ (g c : Nat), e = .returned (.slice (some ⟨g, 0, none⟩) L.length c) ∧ L.length ≤ c ∧ Wr w' g L ∧ w.heap.size ≤ g ∧ g < w'.heap.size ∧ Keep w w'
theorem made_own {w w' : World} {g n c : Nat} {e : TypeId} {L : List Int} (h : w'.ownsRow w.heap.size e 1 (.slice (some ⟨g, 0, none⟩) n c) n (L.map (Value.int .i64))) (k : Keep w w') : MadeL L w (.returned (.slice (some ⟨g, 0, none⟩) n c)) w' := by
  obtain ⟨⟨rfl, hc⟩, h1, h2, h3⟩ := wr_ownL h
  exact ⟨g, c, rfl, hc, h1, h2, h3, k⟩
end Go.Proofs.YtnemdnidlbekbaaGreatDoor
namespace Go.Proofs.YtnemdnidlbekbaaGreatDoor
open Go.RowKit
set_option linter.unusedVariables false

def isum : List Int → Int
  | [] => 0
  | x :: r => x + isum r
theorem isum_app : ∀ A B : List Int, isum (A ++ B) = isum A + isum B
  | [], B => by rw [List.nil_append, isum]; omega
  | x :: A, B => by rw [List.cons_append, isum, isum, isum_app A B]; omega
theorem isum_perm {A B : List Int} (h : A.Perm B) : isum A = isum B := by
  induction h with
  | nil => rfl
  | cons x _ ih => rw [isum, isum, ih]
  | swap x y l => simp only [isum]; omega
  | trans _ _ ih1 ih2 => rw [ih1, ih2]
theorem isum_take {L : List Int} {k : Nat} (h : k < L.length) : isum (L.take (k + 1)) = isum (L.take k) + L.getD k 0 := by
  rw [List.take_succ_eq_append_getElem h, isum_app, isum, isum]
  simp [List.getD_eq_getElem?_getD, h]
theorem isum_bd : ∀ {L : List Int}, (∀ x ∈ L, -12000 ≤ x ∧ x ≤ 12000) → -12000 * (L.length : Int) ≤ isum L ∧ isum L ≤ 12000 * (L.length : Int)
  | [], _ => by simp [isum]
  | x :: r, h => by
    have h1 := h x List.mem_cons_self
    have h2 := isum_bd (L := r) fun y hy => h y (List.mem_cons_of_mem _ hy)
    rw [isum, List.length_cons]
    omega
end Go.Proofs.YtnemdnidlbekbaaGreatDoor
namespace Go.Proofs.YtnemdnidlbekbaaGreatDoor
open Go.RowKit
set_option linter.unusedVariables false

theorem rq_unique {n d o s : Int} (hd : 1 ≤ d) (h : n = o * d + s) (h1 : -d ≤ 2 * s) (h2 : 2 * s ≤ d) (h3 : 2 * s = d ∨ 2 * s = -d → o % 2 = 0) : rq n d = o := by
  by_cases hs : 0 ≤ s
  · obtain ⟨e1, e2⟩ := quo_of h hs (by omega)
    rw [rq, e1, e2]
    by_cases he : 2 * s = d
    · exact rqr_even he (h3 (.inl he))
    · exact rqr_low (by omega)
  · obtain ⟨e1, e2⟩ := quo_of (n := n) (q := o - 1) (r := s + d) (by rw [Int.sub_mul]; omega) (by omega) (show s + d < d by omega)
    rw [rq, e1, e2]
    by_cases he : 2 * s = -d
    · have := h3 (.inr he)
      rw [rqr_odd (by omega) (by omega)]; omega
    · rw [rqr_up (by omega)]; omega
theorem rq_facts (n d : Int) (hd : 1 ≤ d) : ∃ o s, rq n d = o ∧ n = o * d + s ∧ -d ≤ 2 * s ∧ 2 * s ≤ d ∧ (2 * s = d ∨ 2 * s = -d → o % 2 = 0) := by
  obtain ⟨q, r, hq, hr, hn, r0, r1⟩ := quo n d hd
  rw [rq, hq, hr]
  by_cases h1 : d < 2 * r
  · exact ⟨q + 1, r - d, rqr_up h1, by rw [Int.add_mul]; omega, by omega, by omega, by omega⟩
  · by_cases h2 : 2 * r = d
    · by_cases h3 : q % 2 = 0
      · exact ⟨q, r, rqr_even h2 h3, by omega, by omega, by omega, fun _ => h3⟩
      · exact ⟨q + 1, r - d, rqr_odd h2 h3, by rw [Int.add_mul]; omega, by omega, by omega, by omega⟩
    · exact ⟨q, r, rqr_low (by omega), by omega, by omega, by omega, by omega⟩
theorem roFacts {n d : Int} (h : roOk n d = true) : ∃ o s, ro n d = o ∧ n - o * d = s ∧ -d ≤ 2 * s ∧ 2 * s ≤ d ∧ (2 * s = d ∨ 2 * s = -d → o % 2 = 0) ∧ (-1000000 ≤ o ∧ o ≤ 1000000) ∧ (-1001000 ≤ o * d ∧ o * d ≤ 1001000) ∧
    (roOk (-n) d = true ∧ ro (-n) d = -o) ∧ (Int.tmod n d = 0 → o * d = n) := by
  obtain ⟨⟨n0, n1⟩, d0, d1⟩ := roOk_facts h
  obtain ⟨o, s, ho, hn, h1, h2, h3⟩ := rq_facts n d d0
  have hm : roOk (-n) d = true := roOk_mk (by omega)
  have ho2 : rq (-n) d = -o := rq_unique (s := -s) d0 (by rw [Int.neg_mul]; omega) (by omega) (by omega) (by intro h; have := h3 (by omega); omega)
  refine ⟨o, s, (ro_yes h).trans ho, by omega, h1, h2, h3, ?_, by omega, ⟨hm, (ro_yes hm).trans ho2⟩, ?_⟩
  · obtain ⟨q, r, hq, hr, hnn, r0, r1⟩ := quo n d d0
    obtain ⟨q1, q2, _, _⟩ := quo_bd d0 hnn r0 r1 (show (0 : Int) ≤ 999999 by omega) (by omega) n1
    have : o = q ∨ o = q + 1 := by
      rw [← ho, rq, hq, hr, rqr]; split <;> omega
    omega
  · intro ht
    have hz : n % d = 0 := Int.emod_eq_zero_of_dvd (Int.dvd_of_tmod_eq_zero ht)
    have hq := Int.ediv_mul_cancel (Int.dvd_of_tmod_eq_zero ht)
    rw [← ho, rq, hz, rqr_low (by omega)]; exact hq
theorem ro_i {n d o : Int} {x : Bool} (h : roOk n d = x ∧ ro n d = o) (w : World) :
    Calls Tryz.prog 127 #[.int .i64 n, .int .i64 d] w fun e w' => e = .returned (.tuple #[.int .i64 o, .bool x]) ∧ w = w' := by
  rw [← h.1, ← h.2]; exact ro_impl n d w

/-- A mean of three numbers, the last one twice, lies between them. -/
theorem rq_three (x y z : Int) : min (min x y) z ≤ rq (x + y + 2 * z) 4 ∧ rq (x + y + 2 * z) 4 ≤ max (max x y) z := by
  obtain ⟨o, s, ho, hn, h1, h2, _⟩ := rq_facts (x + y + 2 * z) 4 (by omega)
  rw [ho]; omega
theorem rq_same (z : Int) : rq (z + z + 2 * z) 4 = z := rq_unique (s := 0) (by omega) (by omega) (by omega) (by omega) (by omega)
theorem rq_two (x y : Int) : -1 ≤ 2 * rq (x + y) 2 - x - y ∧ 2 * rq (x + y) 2 - x - y ≤ 1 := by
  obtain ⟨o, s, ho, hn, h1, h2, _⟩ := rq_facts (x + y) 2 (by omega)
  rw [ho]; omega
/-- A common factor of both numbers has no influence. -/
theorem rq_scale (n d : Int) (hd : 1 ≤ d) : rq (3 * n) (3 * d) = rq n d := by
  obtain ⟨o, s, ho, hn, h1, h2, h3⟩ := rq_facts n d hd
  rw [ho]
  exact rq_unique (s := 3 * s) (by omega) (by rw [Int.mul_left_comm]; omega) (by omega) (by omega) (by intro h; exact h3 (by omega))
end Go.Proofs.YtnemdnidlbekbaaGreatDoor
namespace Go.Proofs.YtnemdnidlbekbaaGreatDoor
open Go.RowKit
set_option linter.unusedVariables false

theorem rc_inv {zs : List Int} (h : sqB zs = true) : ∀ k, k ≤ zs.length → (rcl zs k = [] ∧ rcG zs k = -1000 ∧ ∀ j, j < k → zs.getD j 0 = -9999) ∨
    (∃ i, i < k ∧ 0 < (rcl zs k).length ∧ (rcl zs k).getD ((rcl zs k).length - 1) 0 = (i : Int) ∧ zs.getD i 0 = rcG zs k ∧ zs.getD i 0 ≠ -9999 ∧ ∀ j, j < k → zs.getD j 0 ≠ -9999 → zs.getD j 0 ≤ rcG zs k)
  | 0, _ => .inl ⟨rfl, rfl, fun j hj => by omega⟩
  | k + 1, hk => by
    have hb := sq_at h (show k < zs.length by omega)
    have lastk : (rcl zs k ++ [(k : Int)]).getD ((rcl zs k ++ [(k : Int)]).length - 1) 0 = (k : Int) := by
      simp [List.getD_eq_getElem?_getD]
    rcases rc_inv h k (by omega) with ⟨h1, h2, h3⟩ | ⟨i, h1, h2, h3, h4, h5, h6⟩
    · rcases rc_cases zs k with ⟨c1, c2, c3, _⟩ | ⟨c1, c2, c3, c4, _⟩ | ⟨c1, c2, c3, c4, _⟩
      · refine .inl ⟨by rw [c3, h1], by rw [c2, h2], fun j hj => ?_⟩
        by_cases e : j = k
        · rw [e]; exact c1
        · exact h3 j (by omega)
      · rw [h2] at c2; omega
      · refine .inr ⟨k, by omega, by rw [c4]; simp, by rw [c4]; exact lastk, c3.symm, c1, fun j hj hne => ?_⟩
        by_cases e : j = k
        · rw [e, c3]; exact Int.le_refl _
        · exact absurd (h3 j (by omega)) hne
    · rcases rc_cases zs k with ⟨c1, c2, c3, _⟩ | ⟨c1, c2, c3, c4, _⟩ | ⟨c1, c2, c3, c4, _⟩
      · refine .inr ⟨i, by omega, by rw [c3]; exact h2, by rw [c3]; exact h3, by rw [c2]; exact h4, h5, fun j hj hne => ?_⟩
        by_cases e : j = k
        · rw [e] at hne; exact absurd c1 hne
        · rw [c2]; exact h6 j (by omega) hne
      · refine .inr ⟨i, by omega, by rw [c4]; exact h2, by rw [c4]; exact h3, by rw [c3]; exact h4, h5, fun j hj hne => ?_⟩
        by_cases e : j = k
        · rw [e, c3]; exact c2
        · rw [c3]; exact h6 j (by omega) hne
      · refine .inr ⟨k, by omega, by rw [c4]; simp, by rw [c4]; exact lastk, c3.symm, c1, fun j hj hne => ?_⟩
        by_cases e : j = k
        · rw [e, c3]; exact Int.le_refl _
        · have := h6 j (by omega) hne; rw [c3]; omega
theorem rc_last {zs : List Int} (h : sqB zs = true) : (rcL zs = [] ∧ soL zs = []) ∨ ∃ i : Nat, i < zs.length ∧ 0 < (rcL zs).length ∧ (rcL zs).getD ((rcL zs).length - 1) 0 = (i : Int) ∧ 0 < (soL zs).length ∧ zs.getD i 0 = (soL zs).getD ((soL zs).length - 1) 0 := by
  rw [rcL_yes h, soL_yes h]
  have hmem : ∀ x, x ∈ knl zs ↔ ∃ j, j < zs.length ∧ zs.getD j 0 = x ∧ x ≠ -9999 := fun x => by
    rw [knl, List.mem_filter]
    constructor
    · rintro ⟨h1, h2⟩
      obtain ⟨j, hj, rfl⟩ := List.getElem_of_mem h1
      exact ⟨j, hj, by simp [List.getD_eq_getElem?_getD, hj], by simpa using h2⟩
    · rintro ⟨j, hj, h1, h2⟩
      exact ⟨h1 ▸ getD_mem hj, by simpa using h2⟩
  rcases rc_inv h zs.length (Nat.le_refl _) with ⟨h1, _, h3⟩ | ⟨i, h1, h2, h3, h4, h5, h6⟩
  · left
    refine ⟨h1, ?_⟩
    have : knl zs = [] := List.eq_nil_iff_forall_not_mem.2 fun x hx => by
      obtain ⟨j, hj, e, hne⟩ := (hmem x).1 hx
      rw [h3 j hj] at e; exact hne e.symm
    rw [this, sorted_nil]
  · right
    have hi : zs.getD i 0 ∈ sorted (knl zs) := (sorted_perm _).mem_iff.2 ((hmem _).2 ⟨i, h1, rfl, h5⟩)
    have hp : 0 < (sorted (knl zs)).length := List.length_pos_of_mem hi
    refine ⟨i, h1, h2, h3, hp, Int.le_antisymm ?_ ?_⟩
    · obtain ⟨q, hq, e⟩ := List.getElem_of_mem hi
      have := sorted_at (L := knl zs) (i := q) (j := (sorted (knl zs)).length - 1) (by omega) (by omega)
      rw [show (sorted (knl zs)).getD q 0 = zs.getD i 0 by rw [← e]; simp [List.getD_eq_getElem?_getD, hq]] at this
      exact this
    · have hl : (sorted (knl zs)).getD ((sorted (knl zs)).length - 1) 0 ∈ knl zs := (sorted_perm _).mem_iff.1 (getD_mem (by omega))
      obtain ⟨j, hj, e, hne⟩ := (hmem _).1 hl
      rw [h4, ← e]
      exact h6 j hj (by rw [e]; exact hne)
end Go.Proofs.YtnemdnidlbekbaaGreatDoor
namespace Go.Proofs.YtnemdnidlbekbaaGreatDoor
open Go.RowKit
set_option linter.unusedVariables false

theorem isum_ge {m : Int} : ∀ {L : List Int}, (∀ x ∈ L, m ≤ x) → m * (L.length : Int) ≤ isum L
  | [], _ => by simp [isum]
  | x :: r, h => by
    have h1 := h x List.mem_cons_self
    have h2 := isum_ge (m := m) (L := r) fun y hy => h y (List.mem_cons_of_mem _ hy)
    rw [isum, List.length_cons, show (((r.length + 1 : Nat)) : Int) = (r.length : Int) + 1 by omega, Int.mul_add, Int.mul_one]
    omega
theorem isum_le {m : Int} : ∀ {L : List Int}, (∀ x ∈ L, x ≤ m) → isum L ≤ m * (L.length : Int)
  | [], _ => by simp [isum]
  | x :: r, h => by
    have h1 := h x List.mem_cons_self
    have h2 := isum_le (m := m) (L := r) fun y hy => h y (List.mem_cons_of_mem _ hy)
    rw [isum, List.length_cons, show (((r.length + 1 : Nat)) : Int) = (r.length : Int) + 1 by omega, Int.mul_add, Int.mul_one]
    omega
theorem isum_add (d : Int) : ∀ L : List Int, isum (L.map (· + d)) = isum L + d * (L.length : Int)
  | [] => by simp [isum]
  | x :: r => by
    have h2 := isum_add d r
    rw [List.map_cons, isum, isum, h2, List.length_cons, show (((r.length + 1 : Nat)) : Int) = (r.length : Int) + 1 by omega, Int.mul_add, Int.mul_one]
    omega
/-- A rounded quotient lies between whole numbers as the quotient does. -/
theorem rq_between {n d a b : Int} (hd : 1 ≤ d) (h1 : a * d ≤ n) (h2 : n ≤ b * d) : a ≤ rq n d ∧ rq n d ≤ b := by
  obtain ⟨o, s, ho, hn, s0, s1, _⟩ := rq_facts n d hd
  rw [ho]
  constructor
  · by_cases h : a ≤ o
    · exact h
    · exfalso
      have : o * d ≤ (a - 1) * d := Int.mul_le_mul_of_nonneg_right (by omega) (by omega)
      rw [Int.sub_mul, Int.one_mul] at this
      omega
  · by_cases h : o ≤ b
    · exact h
    · exfalso
      have : (b + 1) * d ≤ o * d := Int.mul_le_mul_of_nonneg_right (by omega) (by omega)
      rw [Int.add_mul, Int.one_mul] at this
      omega
theorem rq_more {n d : Int} (k : Int) (hk : k % 2 = 0) (hd : 1 ≤ d) : rq (n + k * d) d = rq n d + k := by
  obtain ⟨o, s, ho, hn, s0, s1, h3⟩ := rq_facts n d hd
  rw [ho]
  refine rq_unique (s := s) hd (by rw [Int.add_mul]; omega) s0 s1 (fun h => ?_)
  have := h3 h
  omega

/-- Means. -/
def meB (zs : List Int) (g : Int) : Bool := sqB zs && (decide (0 < (knl zs).length) && decide ((zs.length : Int) - ((knl zs).length : Int) ≤ g))
def meV (zs : List Int) (g : Int) : Int := if meB zs g then rq (isum (knl zs)) ((knl zs).length : Int) else 0
theorem meB_facts {zs : List Int} {g : Int} (h : meB zs g = true) : sqB zs = true ∧ 0 < (knl zs).length ∧ (zs.length : Int) - ((knl zs).length : Int) ≤ g := by
  simp only [meB, Bool.and_eq_true, decide_eq_true_eq] at h; exact h
theorem meB_mk {zs : List Int} {g : Int} (h1 : sqB zs = true) (h2 : 0 < (knl zs).length) (h3 : (zs.length : Int) - ((knl zs).length : Int) ≤ g) : meB zs g = true := by
  simp only [meB, Bool.and_eq_true, decide_eq_true_eq]; exact ⟨h1, h2, h3⟩
theorem meV_yes {zs : List Int} {g : Int} (h : meB zs g = true) : meV zs g = rq (isum (knl zs)) ((knl zs).length : Int) := by simp [meV, h]
theorem meV_no {zs : List Int} {g : Int} (h : meB zs g = false) : meV zs g = 0 := by simp [meV, h]
theorem meB_sq {zs : List Int} {g : Int} (h : sqB zs = false) : meB zs g = false := by simp [meB, h]
theorem meB_none {zs : List Int} {g : Int} (h : (knl zs).length = 0) : meB zs g = false := by simp [meB, h]
theorem meB_gaps {zs : List Int} {g : Int} (h : g < (zs.length : Int) - ((knl zs).length : Int)) : meB zs g = false := by
  have : ¬ ((zs.length : Int) - ((knl zs).length : Int) ≤ g) := by omega
  simp [meB, this]
theorem me_sum {zs : List Int} (h : sqB zs = true) : -12000 * 12 ≤ isum (knl zs) ∧ isum (knl zs) ≤ 12000 * 12 ∧ (knl zs).length ≤ 12 := by
  have hl : (knl zs).length ≤ 12 := Nat.le_trans (knl_le zs) (sq_facts h).2.2
  have := isum_bd (L := knl zs) fun x hx => by have := knl_bd h x hx; omega
  omega
theorem me_ro {zs : List Int} {g : Int} (h : meB zs g = true) : roOk (isum (knl zs)) ((knl zs).length : Int) = true ∧ ro (isum (knl zs)) ((knl zs).length : Int) = meV zs g := by
  obtain ⟨h1, h2, h3⟩ := meB_facts h
  obtain ⟨s0, s1, s2⟩ := me_sum h1
  have hr : roOk (isum (knl zs)) ((knl zs).length : Int) = true := roOk_mk (by omega)
  exact ⟨hr, by rw [meV_yes h, ro_yes hr]⟩
theorem me_between {zs : List Int} {g : Int} (h : meB zs g = true) : (soL zs).getD 0 0 ≤ meV zs g ∧ meV zs g ≤ (soL zs).getD ((soL zs).length - 1) 0 ∧ 0 < (soL zs).length := by
  obtain ⟨h1, h2, h3⟩ := meB_facts h
  have hl : (soL zs).length = (knl zs).length := by rw [soL_yes h1, sorted_length]
  rw [meV_yes h]
  have hx : ∀ x ∈ knl zs, (soL zs).getD 0 0 ≤ x ∧ x ≤ (soL zs).getD ((soL zs).length - 1) 0 := fun x hx => by
    have := (sorted_perm (knl zs)).mem_iff.2 hx
    obtain ⟨j, hj, rfl⟩ := List.getElem_of_mem this
    have e : (sorted (knl zs))[j] = (sorted (knl zs)).getD j 0 := by simp [List.getD_eq_getElem?_getD, hj]
    rw [soL_yes h1, e]
    exact ⟨sorted_at (Nat.zero_le _) hj, sorted_at (by omega) (by omega)⟩
  have b := rq_between (n := isum (knl zs)) (d := ((knl zs).length : Int)) (by omega) (isum_ge fun x h => (hx x h).1) (isum_le fun x h => (hx x h).2)
  exact ⟨b.1, b.2, by omega⟩
theorem me_back (zs : List Int) (g : Int) : meB zs.reverse g = meB zs g ∧ meV zs.reverse g = meV zs g := by
  have hp := knl_back zs
  have e1 : (knl zs.reverse).length = (knl zs).length := hp.length_eq
  have e2 : meB zs.reverse g = meB zs g := by rw [meB, meB, sq_rev, e1, List.length_reverse]
  exact ⟨e2, by rw [meV, meV, e2, isum_perm hp, e1]⟩

/-- Values moved by d. -/
def addD (d x : Int) : Int := if x = -9999 then -9999 else x + d
theorem knl_addD {zs : List Int} {d : Int} (hd : 0 ≤ d) (h : ∀ x ∈ zs, x = -9999 ∨ -999 ≤ x) : knl (zs.map (addD d)) = (knl zs).map (· + d) := by
  induction zs with
  | nil => rfl
  | cons x zs ih =>
    have ih := ih fun y hy => h y (List.mem_cons_of_mem _ hy)
    have hx := h x List.mem_cons_self
    simp only [knl] at ih ⊢
    rw [List.map_cons, List.filter_cons, List.filter_cons, ih]
    by_cases hn : x = -9999
    · subst hn; simp [addD]
    · have e1 : (addD d x != -9999) = true := by rw [addD, if_neg hn]; exact bne_iff_ne.2 (by omega)
      have e2 : (x != -9999) = true := bne_iff_ne.2 hn
      rw [e1, e2, addD, if_neg hn]; simp
theorem me_added {zs : List Int} {g : Int} (h : meB zs g = true) (h2 : meB (zs.map (addD 2)) g = true) : meV (zs.map (addD 2)) g = meV zs g + 2 := by
  obtain ⟨h1, h3, _⟩ := meB_facts h
  have e := knl_addD (d := 2) (by omega) (zs := zs) fun x hx => by have := qB_bd (List.all_eq_true.1 (sq_facts h1).1 x hx); omega
  rw [meV_yes h2, meV_yes h, e, isum_add, List.length_map]
  exact rq_more 2 rfl (by omega)

/-- Extremes: the first days of the least and of the greatest value. -/
def LoAt (zs : List Int) (i : Nat) : Prop := i < zs.length ∧ zs.getD i 0 ≠ -9999 ∧ ∀ j, j < zs.length → zs.getD j 0 ≠ -9999 → zs.getD i 0 ≤ zs.getD j 0 ∧ (zs.getD j 0 = zs.getD i 0 → i ≤ j)
def HiAt (zs : List Int) (i : Nat) : Prop := i < zs.length ∧ zs.getD i 0 ≠ -9999 ∧ ∀ j, j < zs.length → zs.getD j 0 ≠ -9999 → zs.getD j 0 ≤ zs.getD i 0 ∧ (zs.getD j 0 = zs.getD i 0 → i ≤ j)
theorem LoAt.one {zs : List Int} {i k : Nat} (h : LoAt zs i) (g : LoAt zs k) : i = k := by
  have a := h.2.2 k g.1 g.2.1
  have b := g.2.2 i h.1 h.2.1
  have e : zs.getD k 0 = zs.getD i 0 := by omega
  have := a.2 e
  have := b.2 e.symm
  omega
theorem HiAt.one {zs : List Int} {i k : Nat} (h : HiAt zs i) (g : HiAt zs k) : i = k := by
  have a := h.2.2 k g.1 g.2.1
  have b := g.2.2 i h.1 h.2.1
  have e : zs.getD k 0 = zs.getD i 0 := by omega
  have := a.2 e
  have := b.2 e.symm
  omega
def loI (zs : List Int) : Nat → Int
  | 0 => -1
  | k + 1 => if zs.getD k 0 ≠ -9999 ∧ (loI zs k < 0 ∨ zs.getD k 0 < zs.getD (loI zs k).toNat 0) then (k : Int) else loI zs k
def hiI (zs : List Int) : Nat → Int
  | 0 => -1
  | k + 1 => if zs.getD k 0 ≠ -9999 ∧ (hiI zs k < 0 ∨ zs.getD (hiI zs k).toNat 0 < zs.getD k 0) then (k : Int) else hiI zs k
theorem lo_inv (zs : List Int) : ∀ k, (loI zs k = -1 ∧ ∀ j, j < k → zs.getD j 0 = -9999) ∨ ∃ i, i < k ∧ loI zs k = (i : Int) ∧ zs.getD i 0 ≠ -9999 ∧ ∀ j, j < k → zs.getD j 0 ≠ -9999 → zs.getD i 0 ≤ zs.getD j 0 ∧ (zs.getD j 0 = zs.getD i 0 → i ≤ j)
  | 0 => .inl ⟨rfl, fun j hj => by omega⟩
  | k + 1 => by
    rcases lo_inv zs k with ⟨h1, h2⟩ | ⟨i, h1, h2, h3, h4⟩
    · by_cases hx : zs.getD k 0 = -9999
      · left
        refine ⟨by rw [loI, if_neg (fun e => e.1 hx)]; exact h1, fun j hj => ?_⟩
        by_cases e : j = k
        · rw [e]; exact hx
        · exact h2 j (by omega)
      · right
        refine ⟨k, by omega, by rw [loI, if_pos ⟨hx, .inl (by omega)⟩], hx, fun j hj hne => ?_⟩
        by_cases e : j = k
        · rw [e]; exact ⟨Int.le_refl _, fun _ => Nat.le_refl _⟩
        · exact absurd (h2 j (by omega)) hne
    · have e2 : (loI zs k).toNat = i := by omega
      by_cases hx : zs.getD k 0 ≠ -9999 ∧ zs.getD k 0 < zs.getD i 0
      · right
        refine ⟨k, by omega, by rw [loI, if_pos ⟨hx.1, .inr (by rw [e2]; exact hx.2)⟩], hx.1, fun j hj hne => ?_⟩
        by_cases e : j = k
        · rw [e]; exact ⟨Int.le_refl _, fun _ => Nat.le_refl _⟩
        · have := h4 j (by omega) hne
          exact ⟨by omega, fun _ => by omega⟩
      · right
        refine ⟨i, by omega, ?_, h3, fun j hj hne => ?_⟩
        · rw [loI, if_neg (fun e => ?_)]
          · exact h2
          · rw [e2] at e
            rcases e.2 with e3 | e3
            · omega
            · exact hx ⟨e.1, e3⟩
        · by_cases e : j = k
          · subst e
            exact ⟨by omega, fun _ => by omega⟩
          · exact h4 j (by omega) hne
theorem hi_inv (zs : List Int) : ∀ k, (hiI zs k = -1 ∧ ∀ j, j < k → zs.getD j 0 = -9999) ∨ ∃ i, i < k ∧ hiI zs k = (i : Int) ∧ zs.getD i 0 ≠ -9999 ∧ ∀ j, j < k → zs.getD j 0 ≠ -9999 → zs.getD j 0 ≤ zs.getD i 0 ∧ (zs.getD j 0 = zs.getD i 0 → i ≤ j)
  | 0 => .inl ⟨rfl, fun j hj => by omega⟩
  | k + 1 => by
    rcases hi_inv zs k with ⟨h1, h2⟩ | ⟨i, h1, h2, h3, h4⟩
    · by_cases hx : zs.getD k 0 = -9999
      · left
        refine ⟨by rw [hiI, if_neg (fun e => e.1 hx)]; exact h1, fun j hj => ?_⟩
        by_cases e : j = k
        · rw [e]; exact hx
        · exact h2 j (by omega)
      · right
        refine ⟨k, by omega, by rw [hiI, if_pos ⟨hx, .inl (by omega)⟩], hx, fun j hj hne => ?_⟩
        by_cases e : j = k
        · rw [e]; exact ⟨Int.le_refl _, fun _ => Nat.le_refl _⟩
        · exact absurd (h2 j (by omega)) hne
    · have e2 : (hiI zs k).toNat = i := by omega
      by_cases hx : zs.getD k 0 ≠ -9999 ∧ zs.getD i 0 < zs.getD k 0
      · right
        refine ⟨k, by omega, by rw [hiI, if_pos ⟨hx.1, .inr (by rw [e2]; exact hx.2)⟩], hx.1, fun j hj hne => ?_⟩
        by_cases e : j = k
        · rw [e]; exact ⟨Int.le_refl _, fun _ => Nat.le_refl _⟩
        · have := h4 j (by omega) hne
          exact ⟨by omega, fun _ => by omega⟩
      · right
        refine ⟨i, by omega, ?_, h3, fun j hj hne => ?_⟩
        · rw [hiI, if_neg (fun e => ?_)]
          · exact h2
          · rw [e2] at e
            rcases e.2 with e3 | e3
            · omega
            · exact hx ⟨e.1, e3⟩
        · by_cases e : j = k
          · subst e
            exact ⟨by omega, fun _ => by omega⟩
          · exact h4 j (by omega) hne
theorem hi_lo (zs : List Int) (k : Nat) : loI zs k < 0 ↔ hiI zs k < 0 := by
  rcases lo_inv zs k with ⟨h1, h2⟩ | ⟨i, h1, h2, h3, _⟩ <;> rcases hi_inv zs k with ⟨g1, g2⟩ | ⟨j, g1, g2, g3, _⟩
  · omega
  · exact absurd (h2 j g1) g3
  · exact absurd (g2 i h1) h3
  · omega
def exLo (zs : List Int) : Nat := (loI zs zs.length).toNat
def exHi (zs : List Int) : Nat := (hiI zs zs.length).toNat
theorem mem_knl (zs : List Int) (x : Int) : x ∈ knl zs ↔ ∃ j, j < zs.length ∧ zs.getD j 0 = x ∧ x ≠ -9999 := by
  rw [knl, List.mem_filter]
  constructor
  · rintro ⟨h1, h2⟩
    obtain ⟨j, hj, rfl⟩ := List.getElem_of_mem h1
    exact ⟨j, hj, by simp [List.getD_eq_getElem?_getD, hj], by simpa using h2⟩
  · rintro ⟨j, hj, h1, h2⟩
    exact ⟨h1 ▸ getD_mem hj, by simpa using h2⟩
theorem ex_some {zs : List Int} (h : moB zs = true) : ∃ j, j < zs.length ∧ zs.getD j 0 ≠ -9999 := by
  obtain ⟨h1, h2⟩ := moB_facts h
  obtain ⟨j, hj, e, hne⟩ := (mem_knl zs _).1 (getD_mem h2)
  exact ⟨j, hj, by rw [e]; exact hne⟩
theorem ex_lo {zs : List Int} (h : moB zs = true) : LoAt zs (exLo zs) ∧ loI zs zs.length = (exLo zs : Int) := by
  obtain ⟨j, hj, hne⟩ := ex_some h
  rcases lo_inv zs zs.length with ⟨_, h2⟩ | ⟨i, h1, h2, h3, h4⟩
  · exact absurd (h2 j hj) hne
  · have e : exLo zs = i := by rw [exLo, h2]; omega
    rw [e]
    exact ⟨⟨h1, h3, h4⟩, h2⟩
theorem ex_hi {zs : List Int} (h : moB zs = true) : HiAt zs (exHi zs) ∧ hiI zs zs.length = (exHi zs : Int) := by
  obtain ⟨j, hj, hne⟩ := ex_some h
  rcases hi_inv zs zs.length with ⟨_, h2⟩ | ⟨i, h1, h2, h3, h4⟩
  · exact absurd (h2 j hj) hne
  · have e : exHi zs = i := by rw [exHi, h2]; omega
    rw [e]
    exact ⟨⟨h1, h3, h4⟩, h2⟩
def exA (zs : List Int) : Int := if moB zs then (exLo zs : Int) else 0
def exZ (zs : List Int) : Int := if moB zs then (exHi zs : Int) else 0
theorem ex_yes {zs : List Int} (h : moB zs = true) : exA zs = (exLo zs : Int) ∧ exZ zs = (exHi zs : Int) := by simp [exA, exZ, h]
theorem ex_no {zs : List Int} (h : moB zs = false) : exA zs = 0 ∧ exZ zs = 0 := by simp [exA, exZ, h]
/-- The first place of the least known value. -/
theorem lo_first {zs : List Int} {i : Nat} {m : Int} (h0 : ∀ x ∈ knl zs, m ≤ x) (hm : m ∈ knl zs) (hi : i < zs.length) (h1 : zs.getD i 0 = m) (h2 : ∀ j, j < i → zs.getD j 0 ≠ m) : LoAt zs i := by
  have hne := (mem_knl zs m).1 hm
  obtain ⟨_, _, _, hne⟩ := hne
  refine ⟨hi, by rw [h1]; exact hne, fun j hj hjn => ⟨?_, fun e => ?_⟩⟩
  · rw [h1]; exact h0 _ ((mem_knl zs _).2 ⟨j, hj, rfl, hjn⟩)
  · by_cases hlt : j < i
    · exact absurd (e.trans h1) (h2 j hlt)
    · omega
theorem hi_first {zs : List Int} {i : Nat} {m : Int} (h0 : ∀ x ∈ knl zs, x ≤ m) (hm : m ∈ knl zs) (hi : i < zs.length) (h1 : zs.getD i 0 = m) (h2 : ∀ j, j < i → zs.getD j 0 ≠ m) : HiAt zs i := by
  have hne := (mem_knl zs m).1 hm
  obtain ⟨_, _, _, hne⟩ := hne
  refine ⟨hi, by rw [h1]; exact hne, fun j hj hjn => ⟨?_, fun e => ?_⟩⟩
  · rw [h1]; exact h0 _ ((mem_knl zs _).2 ⟨j, hj, rfl, hjn⟩)
  · by_cases hlt : j < i
    · exact absurd (e.trans h1) (h2 j hlt)
    · omega
/-- The last record is the first greatest value. -/
theorem rc_last_hi {zs : List Int} (h : moB zs = true) : 0 < (rcL zs).length ∧ (rcL zs).getD ((rcL zs).length - 1) 0 = (exHi zs : Int) := by
  obtain ⟨hq, hk⟩ := moB_facts h
  obtain ⟨hH, _⟩ := ex_hi h
  rw [rcL_yes hq]
  rcases rc_inv hq zs.length (Nat.le_refl _) with ⟨h1, _, h3⟩ | ⟨i, h1, h2, h3, h4, h5, h6⟩
  · obtain ⟨j, hj, hne⟩ := ex_some h
    exact absurd (h3 j hj) hne
  · refine ⟨h2, ?_⟩
    have hm : ((i : Int)) ∈ rcl zs zs.length := by rw [← h3]; exact getD_mem (by omega)
    obtain ⟨_, hb⟩ := (rcl_mem zs i zs.length).1 hm
    simp only [rcB, Bool.and_eq_true, decide_eq_true_eq] at hb
    have hlt : ∀ j, j < i → zs.getD j 0 ≠ -9999 → zs.getD j 0 < zs.getD i 0 := fun j hj hne => by
      rcases rc_inv hq i (by omega) with ⟨_, _, g3⟩ | ⟨i', _, _, _, _, _, g6⟩
      · exact absurd (g3 j hj) hne
      · have := g6 j hj hne; omega
    have hi : HiAt zs i := ⟨h1, h5, fun j hj hne => ⟨by rw [h4]; exact h6 j hj hne, fun e => by
      by_cases hji : j < i
      · have := hlt j hji hne; omega
      · omega⟩⟩
    rw [h3, hH.one hi]

/-- Degree days. -/
def dgS (b : Int) (L : List Int) : Int := isum (L.map fun x => max (b - x) 0)
theorem dgS_app (b : Int) (A B : List Int) : dgS b (A ++ B) = dgS b A + dgS b B := by rw [dgS, List.map_append, isum_app]; rfl
theorem dgS_one (b x : Int) : dgS b [x] = max (b - x) 0 := by simp [dgS, isum]
def dgB (zs : List Int) (b : Int) : Bool := sqB zs && inB b (-999) 10999
def dgV (zs : List Int) (b : Int) : Int := if dgB zs b then dgS b (knl zs) else -1
theorem dgV_yes {zs : List Int} {b : Int} (h : dgB zs b = true) : dgV zs b = dgS b (knl zs) := by simp [dgV, h]
theorem dgV_no {zs : List Int} {b : Int} (h : dgB zs b = false) : dgV zs b = -1 := by simp [dgV, h]
theorem dgS_bd {b : Int} (hb : -12000 ≤ b ∧ b ≤ 12000) : ∀ {L : List Int}, (∀ x ∈ L, -999 ≤ x ∧ x ≤ 10999) → 0 ≤ dgS b L ∧ dgS b L ≤ 20000 * (L.length : Int)
  | [], _ => by simp [dgS, isum]
  | x :: r, h => by
    have h1 := h x List.mem_cons_self
    have h2 := dgS_bd hb (L := r) fun y hy => h y (List.mem_cons_of_mem _ hy)
    have e : dgS b (x :: r) = max (b - x) 0 + dgS b r := rfl
    rw [e, List.length_cons]
    omega
theorem dgS_more (b : Int) : ∀ L : List Int, dgS (b + 1) L = dgS b L + (cLe L b : Int)
  | [] => rfl
  | x :: r => by
    have ih := dgS_more b r
    have e1 : dgS (b + 1) (x :: r) = max (b + 1 - x) 0 + dgS (b + 1) r := rfl
    have e2 : dgS b (x :: r) = max (b - x) 0 + dgS b r := rfl
    rw [e1, e2, ih, cLe, cLe, List.countP_cons]
    by_cases hx : x ≤ b
    · simp [hx]; omega
    · simp [hx]; omega

/-- Ranks. -/
def rkB (zs : List Int) (d : Int) : Bool := sqB zs && (inB d 0 ((zs.length : Int) - 1) && (zs.getD d.toNat 0 != -9999))
def rkV (zs : List Int) (d : Int) : Int := if rkB zs d then (cLt (knl zs) (zs.getD d.toNat 0) : Int) else -1
theorem rkV_yes {zs : List Int} {d : Int} (h : rkB zs d = true) : rkV zs d = (cLt (knl zs) (zs.getD d.toNat 0) : Int) := by simp [rkV, h]
theorem rkV_no {zs : List Int} {d : Int} (h : rkB zs d = false) : rkV zs d = -1 := by simp [rkV, h]
theorem rkB_facts {zs : List Int} {d : Int} (h : rkB zs d = true) : sqB zs = true ∧ (0 ≤ d ∧ d < (zs.length : Int)) ∧ zs.getD d.toNat 0 ≠ -9999 := by
  simp only [rkB, inB, Bool.and_eq_true, decide_eq_true_eq, bne_iff_ne] at h
  exact ⟨h.1, by omega, h.2.2⟩
theorem rkB_mk {zs : List Int} {d : Int} (h1 : sqB zs = true) (h2 : 0 ≤ d ∧ d < (zs.length : Int)) (h3 : zs.getD d.toNat 0 ≠ -9999) : rkB zs d = true := by
  simp only [rkB, inB, Bool.and_eq_true, decide_eq_true_eq, bne_iff_ne]
  exact ⟨h1, by omega, h3⟩
/-- The value of a rank stands at its place in the sorted values. -/
theorem rk_place {zs : List Int} {d : Int} (h : rkB zs d = true) : cLt (knl zs) (zs.getD d.toNat 0) < (soL zs).length ∧ (soL zs).getD (cLt (knl zs) (zs.getD d.toNat 0)) 0 = zs.getD d.toNat 0 ∧
    (0 < cLt (knl zs) (zs.getD d.toNat 0) → (soL zs).getD (cLt (knl zs) (zs.getD d.toNat 0) - 1) 0 < zs.getD d.toNat 0) := by
  obtain ⟨h1, h2, h3⟩ := rkB_facts h
  have hm : zs.getD d.toNat 0 ∈ knl zs := (mem_knl zs _).2 ⟨d.toNat, by omega, rfl, h3⟩
  generalize zs.getD d.toNat 0 = v at *
  have hlt : cLt (knl zs) v < cLe (knl zs) v := by
    rw [cLe_parts]
    have : 0 < cEq (knl zs) v := List.countP_pos_iff.2 ⟨v, hm, by simp⟩
    omega
  have hle : cLe (knl zs) v ≤ (knl zs).length := List.countP_le_length
  rw [soL_yes h1]
  refine ⟨by rw [sorted_length]; omega, (mid_iff (knl zs) v (by omega)).1 ⟨Nat.le_refl _, hlt⟩, fun h0 => ?_⟩
  obtain ⟨c, hc⟩ : ∃ c, cLt (knl zs) v = c + 1 := ⟨cLt (knl zs) v - 1, by omega⟩
  rw [hc, Nat.add_sub_cancel]
  have hcs : c < (sorted (knl zs)).length := by rw [sorted_length]; omega
  have hcv : (sorted (knl zs)).getD c 0 ≤ v := by
    have := sorted_at (L := knl zs) (i := c) (j := c + 1) (by omega) (by rw [sorted_length]; omega)
    have e := (mid_iff (knl zs) v (m := c + 1) (by omega)).1 ⟨by omega, by omega⟩
    omega
  rcases Int.lt_or_eq_of_le hcv with hh | hh
  · exact hh
  · have := (mid_iff (knl zs) v (m := c) (by omega)).2 hh
    omega
theorem lo_rank {zs : List Int} (h : moB zs = true) : rkB zs (exLo zs : Int) = true ∧ rkV zs (exLo zs : Int) = 0 := by
  obtain ⟨hq, hk⟩ := moB_facts h
  obtain ⟨⟨l1, l2, l3⟩, _⟩ := ex_lo h
  have e : ((exLo zs : Nat) : Int).toNat = exLo zs := by omega
  have hb : rkB zs (exLo zs : Int) = true := rkB_mk hq (by omega) (by rw [e]; exact l2)
  refine ⟨hb, ?_⟩
  rw [rkV_yes hb, e]
  have : cLt (knl zs) (zs.getD (exLo zs) 0) = 0 := by
    rw [cLt, List.countP_eq_zero]
    intro x hx
    obtain ⟨j, hj, hjx, hne⟩ := (mem_knl zs x).1 hx
    have := (l3 j hj (by rw [hjx]; exact hne)).1
    rw [hjx] at this
    rw [decide_eq_true_eq, Int.not_lt]; exact this
  rw [this]; rfl
end Go.Proofs.YtnemdnidlbekbaaGreatDoor
namespace Go.Proofs.YtnemdnidlbekbaaGreatDoor
open Go.RowKit
set_option linter.unusedVariables false

/-- How far two days are from each other, times a step. -/
def gFar (i j : Nat) (st : Int) : Int := ((if i < j then j - i else i - j : Nat) : Int) * st
/-- The least value of day i by the first k values. -/
def gLo (zs : List Int) (lo st : Int) (i : Nat) : Nat → Int
  | 0 => lo
  | k + 1 => if zs.getD k 0 = -9999 then gLo zs lo st i k else max (gLo zs lo st i k) (zs.getD k 0 - gFar k i st)
def gHi (zs : List Int) (hi st : Int) (i : Nat) : Nat → Int
  | 0 => hi
  | k + 1 => if zs.getD k 0 = -9999 then gHi zs hi st i k else min (gHi zs hi st i k) (zs.getD k 0 + gFar k i st)
theorem gFar_succ {i j : Nat} (h : j ≤ i) (st : Int) : gFar j (i + 1) st = gFar j i st + st := by
  unfold gFar
  have e1 : ((if j < i + 1 then i + 1 - j else j - (i + 1) : Nat) : Int) = ((if j < i then i - j else j - i : Nat) : Int) + 1 := by split <;> split <;> omega
  rw [e1, Int.add_mul, Int.one_mul]
theorem gFar_pred {i j : Nat} (h : i < j) (st : Int) : gFar j i st = gFar j (i + 1) st + st := by
  unfold gFar
  have e1 : ((if j < i then i - j else j - i : Nat) : Int) = ((if j < i + 1 then i + 1 - j else j - (i + 1) : Nat) : Int) + 1 := by split <;> split <;> omega
  rw [e1, Int.add_mul, Int.one_mul]
theorem gFar_self (i : Nat) (st : Int) : gFar i i st = 0 := by simp [gFar]
theorem gFar_nn {i j : Nat} {st : Int} (h : 0 ≤ st) : 0 ≤ gFar i j st := Int.mul_nonneg (Int.natCast_nonneg _) h
theorem gFar_comm (i j : Nat) (st : Int) : gFar i j st = gFar j i st := by
  unfold gFar; congr 2; split <;> split <;> omega
theorem gFar_bd {i j : Nat} {st : Int} (hi : i < 12) (hj : j < 12) (h0 : 0 ≤ st) (h1 : st ≤ 20000) : 0 ≤ gFar i j st ∧ gFar i j st ≤ 220000 := by
  refine ⟨gFar_nn h0, ?_⟩
  unfold gFar
  generalize hd : (if i < j then j - i else i - j : Nat) = d
  have h3 : d ≤ 11 := by split at hd <;> omega
  have h4 : (d : Int) * st ≤ 11 * st := Int.mul_le_mul_of_nonneg_right (by omega) h0
  omega
theorem gLo_none {zs : List Int} {lo st : Int} {i k : Nat} (h : zs.getD k 0 = -9999) : gLo zs lo st i (k + 1) = gLo zs lo st i k := by simp only [gLo, if_pos h]
theorem gLo_some {zs : List Int} {lo st : Int} {i k : Nat} (h : zs.getD k 0 ≠ -9999) : gLo zs lo st i (k + 1) = max (gLo zs lo st i k) (zs.getD k 0 - gFar k i st) := by simp only [gLo, if_neg h]
theorem gHi_none {zs : List Int} {hi st : Int} {i k : Nat} (h : zs.getD k 0 = -9999) : gHi zs hi st i (k + 1) = gHi zs hi st i k := by simp only [gHi, if_pos h]
theorem gHi_some {zs : List Int} {hi st : Int} {i k : Nat} (h : zs.getD k 0 ≠ -9999) : gHi zs hi st i (k + 1) = min (gHi zs hi st i k) (zs.getD k 0 + gFar k i st) := by simp only [gHi, if_neg h]
theorem gLo_ge (zs : List Int) (lo st : Int) (i : Nat) : ∀ k, lo ≤ gLo zs lo st i k
  | 0 => Int.le_refl _
  | k + 1 => by have := gLo_ge zs lo st i k; simp only [gLo]; split <;> omega
theorem gHi_le (zs : List Int) (hi st : Int) (i : Nat) : ∀ k, gHi zs hi st i k ≤ hi
  | 0 => Int.le_refl _
  | k + 1 => by have := gHi_le zs hi st i k; simp only [gHi]; split <;> omega
theorem gLo_mono (zs : List Int) (lo st : Int) (i : Nat) {k m : Nat} (h : k ≤ m) : gLo zs lo st i k ≤ gLo zs lo st i m := by
  induction m with
  | zero => obtain rfl : k = 0 := by omega
            exact Int.le_refl _
  | succ m ih =>
    by_cases e : k = m + 1
    · rw [e]; exact Int.le_refl _
    · have := ih (by omega)
      simp only [gLo]; split <;> omega
theorem gHi_mono (zs : List Int) (hi st : Int) (i : Nat) {k m : Nat} (h : k ≤ m) : gHi zs hi st i m ≤ gHi zs hi st i k := by
  induction m with
  | zero => obtain rfl : k = 0 := by omega
            exact Int.le_refl _
  | succ m ih =>
    by_cases e : k = m + 1
    · rw [e]; exact Int.le_refl _
    · have := ih (by omega)
      simp only [gHi]; split <;> omega
/-- From a day to the next one. -/
theorem gLo_next (zs : List Int) (lo st : Int) (h0 : 0 ≤ st) (i : Nat) : ∀ k, k ≤ i + 1 → gLo zs lo st (i + 1) k = max lo (gLo zs lo st i k - st)
  | 0, _ => by simp only [gLo]; omega
  | k + 1, h => by
    have ih := gLo_next zs lo st h0 i k (by omega)
    by_cases e : zs.getD k 0 = -9999
    · rw [gLo_none e, gLo_none e, ih]
    · rw [gLo_some e, gLo_some e, ih, gFar_succ (show k ≤ i by omega)]; omega
theorem gHi_next (zs : List Int) (hi st : Int) (h0 : 0 ≤ st) (i : Nat) : ∀ k, k ≤ i + 1 → gHi zs hi st (i + 1) k = min hi (gHi zs hi st i k + st)
  | 0, _ => by simp only [gHi]; omega
  | k + 1, h => by
    have ih := gHi_next zs hi st h0 i k (by omega)
    by_cases e : zs.getD k 0 = -9999
    · rw [gHi_none e, gHi_none e, ih]
    · rw [gHi_some e, gHi_some e, ih, gFar_succ (show k ≤ i by omega)]; omega
/-- From a day back to the one before. -/
theorem gLo_prev (zs : List Int) (lo st : Int) (h0 : 0 ≤ st) (i : Nat) : ∀ m, gLo zs lo st i (i + 1 + m) = max (gLo zs lo st i (i + 1)) (gLo zs lo st (i + 1) (i + 1 + m) - st)
  | 0 => by
    have h1 := gLo_next zs lo st h0 i (i + 1) (Nat.le_refl _)
    have h2 := gLo_ge zs lo st i (i + 1)
    rw [Nat.add_zero, h1]; omega
  | m + 1 => by
    have ih := gLo_prev zs lo st h0 i m
    rw [show i + 1 + (m + 1) = (i + 1 + m) + 1 by omega]
    by_cases e : zs.getD (i + 1 + m) 0 = -9999
    · rw [gLo_none e, gLo_none e, ih]
    · rw [gLo_some e, gLo_some e, ih, gFar_pred (show i < i + 1 + m by omega)]; omega
theorem gHi_prev (zs : List Int) (hi st : Int) (h0 : 0 ≤ st) (i : Nat) : ∀ m, gHi zs hi st i (i + 1 + m) = min (gHi zs hi st i (i + 1)) (gHi zs hi st (i + 1) (i + 1 + m) + st)
  | 0 => by
    have h1 := gHi_next zs hi st h0 i (i + 1) (Nat.le_refl _)
    have h2 := gHi_le zs hi st i (i + 1)
    rw [Nat.add_zero, h1]; omega
  | m + 1 => by
    have ih := gHi_prev zs hi st h0 i m
    rw [show i + 1 + (m + 1) = (i + 1 + m) + 1 by omega]
    by_cases e : zs.getD (i + 1 + m) 0 = -9999
    · rw [gHi_none e, gHi_none e, ih]
    · rw [gHi_some e, gHi_some e, ih, gFar_pred (show i < i + 1 + m by omega)]; omega
/-- The range of a day by all values. -/
def gL (zs : List Int) (lo st : Int) (i : Nat) : Int := gLo zs lo st i zs.length
def gH (zs : List Int) (hi st : Int) (i : Nat) : Int := gHi zs hi st i zs.length
/-- The range of a day by the values up to it. -/
def fwL (zs : List Int) (lo st : Int) (i : Nat) : Int := gLo zs lo st i (i + 1)
def fwH (zs : List Int) (hi st : Int) (i : Nat) : Int := gHi zs hi st i (i + 1)
/-- .. before its own value is looked at. -/
def nrL (zs : List Int) (lo st : Int) (i : Nat) : Int := gLo zs lo st i i
def nrH (zs : List Int) (hi st : Int) (i : Nat) : Int := gHi zs hi st i i
theorem nrL_zero (zs : List Int) (lo st : Int) : nrL zs lo st 0 = lo := rfl
theorem nrH_zero (zs : List Int) (hi st : Int) : nrH zs hi st 0 = hi := rfl
theorem nrL_succ (zs : List Int) (lo st : Int) (h0 : 0 ≤ st) (i : Nat) : nrL zs lo st (i + 1) = max lo (fwL zs lo st i - st) := gLo_next zs lo st h0 i (i + 1) (Nat.le_refl _)
theorem nrH_succ (zs : List Int) (hi st : Int) (h0 : 0 ≤ st) (i : Nat) : nrH zs hi st (i + 1) = min hi (fwH zs hi st i + st) := gHi_next zs hi st h0 i (i + 1) (Nat.le_refl _)
theorem fwL_none {zs : List Int} {lo st : Int} {i : Nat} (h : zs.getD i 0 = -9999) : fwL zs lo st i = nrL zs lo st i := gLo_none h
theorem fwH_none {zs : List Int} {hi st : Int} {i : Nat} (h : zs.getD i 0 = -9999) : fwH zs hi st i = nrH zs hi st i := gHi_none h
theorem fwL_some {zs : List Int} {lo st : Int} {i : Nat} (h : zs.getD i 0 ≠ -9999) (h2 : nrL zs lo st i ≤ zs.getD i 0) : fwL zs lo st i = zs.getD i 0 := by
  unfold nrL at h2
  rw [fwL, gLo_some h, gFar_self]; omega
theorem fwH_some {zs : List Int} {hi st : Int} {i : Nat} (h : zs.getD i 0 ≠ -9999) (h2 : zs.getD i 0 ≤ nrH zs hi st i) : fwH zs hi st i = zs.getD i 0 := by
  unfold nrH at h2
  rw [fwH, gHi_some h, gFar_self]; omega
/-- Day i agrees with those before it. -/
def fitB (zs : List Int) (lo hi st : Int) (i : Nat) : Prop := zs.getD i 0 = -9999 ∨ (nrL zs lo st i ≤ zs.getD i 0 ∧ zs.getD i 0 ≤ nrH zs hi st i)
/-- What does not fit leaves a day without a value. -/
theorem unfit {zs : List Int} {lo hi st : Int} {i : Nat} (hi' : i < zs.length) (h : ¬ fitB zs lo hi st i) : gH zs hi st i < gL zs lo st i := by
  unfold fitB at h
  have h1 : zs.getD i 0 ≠ -9999 := fun e => h (.inl e)
  have h2 : ¬ (nrL zs lo st i ≤ zs.getD i 0 ∧ zs.getD i 0 ≤ nrH zs hi st i) := fun e => h (.inr e)
  have a := gLo_mono zs lo st i (show i + 1 ≤ zs.length by omega)
  have b := gHi_mono zs hi st i (show i + 1 ≤ zs.length by omega)
  rw [gLo_some h1, gFar_self] at a
  rw [gHi_some h1, gFar_self] at b
  unfold nrL nrH at h2
  unfold gL gH
  omega
/-- As long as all fit, no day up to there is empty. -/
theorem fw_ok {zs : List Int} {lo hi st : Int} (h0 : 0 ≤ st) (hlh : lo ≤ hi) : ∀ i, (∀ j, j ≤ i → fitB zs lo hi st j) → fwL zs lo st i ≤ fwH zs hi st i
  | 0, h => by
    rcases h 0 (Nat.le_refl _) with e | ⟨e1, e2⟩
    · rw [fwL_none e, fwH_none e]; exact hlh
    · by_cases e : zs.getD 0 0 = -9999
      · rw [fwL_none e, fwH_none e]; exact hlh
      · rw [fwL_some e e1, fwH_some e e2]; exact Int.le_refl _
  | i + 1, h => by
    have ih := fw_ok h0 hlh i (fun j hj => h j (by omega))
    have a1 := gLo_ge zs lo st i (i + 1)
    have a2 := gHi_le zs hi st i (i + 1)
    have e3 := nrL_succ zs lo st h0 i
    have e4 := nrH_succ zs hi st h0 i
    unfold fwL at ih e3
    unfold fwH at ih e4
    by_cases e : zs.getD (i + 1) 0 = -9999
    · rw [fwL_none e, fwH_none e, e3, e4]; omega
    · rcases h (i + 1) (Nat.le_refl _) with e' | ⟨e1, e2⟩
      · exact absurd e' e
      · rw [fwL_some e e1, fwH_some e e2]; exact Int.le_refl _
/-- A day is within what the day before allows. -/
theorem fw_step {zs : List Int} {lo hi st : Int} (h0 : 0 ≤ st) {i : Nat} (h : fitB zs lo hi st (i + 1)) : fwL zs lo st i - st ≤ fwL zs lo st (i + 1) ∧ fwH zs hi st (i + 1) ≤ fwH zs hi st i + st := by
  have e3 := nrL_succ zs lo st h0 i
  have e4 := nrH_succ zs hi st h0 i
  by_cases e : zs.getD (i + 1) 0 = -9999
  · rw [fwL_none e, fwH_none e, e3, e4]; omega
  · rcases h with e' | ⟨e1, e2⟩
    · exact absurd e' e
    · rw [fwL_some e e1, fwH_some e e2]; omega
/-- Back from the last day. -/
theorem gL_last {zs : List Int} {lo st : Int} {i : Nat} (h : i + 1 = zs.length) : gL zs lo st i = fwL zs lo st i := by rw [gL, ← h]; rfl
theorem gH_last {zs : List Int} {hi st : Int} {i : Nat} (h : i + 1 = zs.length) : gH zs hi st i = fwH zs hi st i := by rw [gH, ← h]; rfl
theorem gL_prev {zs : List Int} {lo st : Int} (h0 : 0 ≤ st) {i : Nat} (h : i + 1 < zs.length) : gL zs lo st i = max (fwL zs lo st i) (gL zs lo st (i + 1) - st) := by
  have := gLo_prev zs lo st h0 i (zs.length - (i + 1))
  rwa [show i + 1 + (zs.length - (i + 1)) = zs.length by omega] at this
theorem gH_prev {zs : List Int} {hi st : Int} (h0 : 0 ≤ st) {i : Nat} (h : i + 1 < zs.length) : gH zs hi st i = min (fwH zs hi st i) (gH zs hi st (i + 1) + st) := by
  have := gHi_prev zs hi st h0 i (zs.length - (i + 1))
  rwa [show i + 1 + (zs.length - (i + 1)) = zs.length by omega] at this
theorem fw_in (zs : List Int) (lo hi st : Int) (i : Nat) : lo ≤ fwL zs lo st i ∧ fwH zs hi st i ≤ hi := ⟨gLo_ge _ _ _ _ _, gHi_le _ _ _ _ _⟩
/-- If all fit, no day is empty: counted back from the last day. -/
theorem g_ok {zs : List Int} {lo hi st : Int} (h0 : 0 ≤ st) (hlh : lo ≤ hi) (h : ∀ j, j < zs.length → fitB zs lo hi st j) : ∀ m i, i + 1 + m = zs.length → gL zs lo st i ≤ gH zs hi st i ∧ fwL zs lo st i ≤ gL zs lo st i ∧ gH zs hi st i ≤ fwH zs hi st i
  | 0, i, e => by
    rw [gL_last (show i + 1 = zs.length by omega), gH_last (show i + 1 = zs.length by omega)]
    exact ⟨fw_ok h0 hlh i (fun j hj => h j (by omega)), Int.le_refl _, Int.le_refl _⟩
  | m + 1, i, e => by
    have ih := g_ok h0 hlh h m (i + 1) (by omega)
    have h1 := fw_ok h0 hlh i (fun j hj => h j (by omega))
    have h2 := fw_step (lo := lo) (hi := hi) h0 (h (i + 1) (by omega))
    rw [gL_prev h0 (show i + 1 < zs.length by omega), gH_prev h0 (show i + 1 < zs.length by omega)]
    omega
theorem g_all {zs : List Int} {lo hi st : Int} (h0 : 0 ≤ st) (hlh : lo ≤ hi) (h : ∀ j, j < zs.length → fitB zs lo hi st j) {i : Nat} (hi' : i < zs.length) : gL zs lo st i ≤ gH zs hi st i :=
  (g_ok h0 hlh h (zs.length - (i + 1)) i (by omega)).1
/-- Arguments. -/
def gaB (zs : List Int) (lo hi st : Int) : Bool := sqB zs && (rdB lo && (rdB hi && (decide (lo ≤ hi) && inB st 0 19999)))
theorem gaB_facts {zs : List Int} {lo hi st : Int} (h : gaB zs lo hi st = true) : sqB zs = true ∧ (-999 ≤ lo ∧ hi ≤ 10999) ∧ lo ≤ hi ∧ 0 ≤ st ∧ st ≤ 19999 := by
  simp only [gaB, Bool.and_eq_true, decide_eq_true_eq, inB] at h
  have h1 := rd_bd h.2.1
  have h2 := rd_bd h.2.2.1
  exact ⟨h.1, ⟨h1.1, h2.2⟩, h.2.2.2.1, h.2.2.2.2.1, h.2.2.2.2.2⟩
def gAll (zs : List Int) (lo hi st : Int) : Bool := (List.range zs.length).all fun i => decide (gL zs lo st i ≤ gH zs hi st i)
theorem gAll_yes {zs : List Int} {lo hi st : Int} (h : ∀ i, i < zs.length → gL zs lo st i ≤ gH zs hi st i) : gAll zs lo hi st = true := by
  rw [gAll, List.all_eq_true]
  intro i hi; exact decide_eq_true (h i (List.mem_range.1 hi))
theorem gAll_no {zs : List Int} {lo hi st : Int} {i : Nat} (hi' : i < zs.length) (h : gH zs hi st i < gL zs lo st i) : gAll zs lo hi st = false := by
  rw [gAll, List.all_eq_false]
  exact ⟨i, List.mem_range.2 hi', by simp; omega⟩
theorem gAll_at {zs : List Int} {lo hi st : Int} (h : gAll zs lo hi st = true) {i : Nat} (hi' : i < zs.length) : gL zs lo st i ≤ gH zs hi st i := by
  rw [gAll, List.all_eq_true] at h
  exact of_decide_eq_true (h i (List.mem_range.2 hi'))
/-- What FillOf answers. -/
def gOk (zs : List Int) (lo hi st : Int) : Bool := gaB zs lo hi st && gAll zs lo hi st
def gRl (zs : List Int) (lo hi st : Int) : List (Int × Int) := (List.range zs.length).map fun i => (gL zs lo st i, gH zs hi st i)
def gRL (zs : List Int) (lo hi st : Int) : List (Int × Int) := if gOk zs lo hi st then gRl zs lo hi st else []
theorem gRl_len (zs : List Int) (lo hi st : Int) : (gRl zs lo hi st).length = zs.length := by simp [gRl]
theorem gRL_yes {zs : List Int} {lo hi st : Int} (h : gOk zs lo hi st = true) : gRL zs lo hi st = gRl zs lo hi st := by simp [gRL, h]
theorem gRL_no {zs : List Int} {lo hi st : Int} (h : gOk zs lo hi st = false) : gRL zs lo hi st = [] := by simp [gRL, h]

/-- Values of all days that agree. -/
def ffD (zs ds : List Int) (lo hi st : Int) (k : Nat) : Bool := inB (ds.getD k 0) lo hi && ((decide (zs.getD k 0 = -9999) || decide (zs.getD k 0 = ds.getD k 0)) && (decide (k = 0) || inB (ds.getD k 0 - ds.getD (k - 1) 0) (-st) st))
def ffN (zs ds : List Int) (lo hi st : Int) : Nat → Bool
  | 0 => true
  | k + 1 => ffN zs ds lo hi st k && ffD zs ds lo hi st k
theorem ffN_yes {zs ds : List Int} {lo hi st : Int} {k : Nat} (h : ffN zs ds lo hi st k = true) (h2 : ffD zs ds lo hi st k = true) : ffN zs ds lo hi st (k + 1) = true := by rw [ffN, h, h2]; rfl
theorem ffN_no {zs ds : List Int} {lo hi st : Int} {k n : Nat} (h : k < n) (h2 : ffD zs ds lo hi st k = false) : ffN zs ds lo hi st n = false := by
  induction n with
  | zero => omega
  | succ n ih =>
    rw [ffN]
    by_cases e : k = n
    · subst e; rw [h2, Bool.and_false]
    · rw [ih (by omega)]; rfl
theorem ffN_at {zs ds : List Int} {lo hi st : Int} {n : Nat} (h : ffN zs ds lo hi st n = true) {k : Nat} (hk : k < n) : ffD zs ds lo hi st k = true := by
  cases e : ffD zs ds lo hi st k
  · rw [ffN_no hk e] at h; cases h
  · rfl
def ffV (zs ds : List Int) (lo hi st : Int) : Bool := gaB zs lo hi st && (decide (ds.length = zs.length) && ffN zs ds lo hi st zs.length)
theorem ffV_facts {zs ds : List Int} {lo hi st : Int} (h : ffV zs ds lo hi st = true) : gaB zs lo hi st = true ∧ ds.length = zs.length ∧ ffN zs ds lo hi st zs.length = true := by
  simpa [ffV] using h
theorem ffD_facts {zs ds : List Int} {lo hi st : Int} {k : Nat} (h : ffD zs ds lo hi st k = true) : (lo ≤ ds.getD k 0 ∧ ds.getD k 0 ≤ hi) ∧ (zs.getD k 0 = -9999 ∨ zs.getD k 0 = ds.getD k 0) ∧ (k = 0 ∨ (-st ≤ ds.getD k 0 - ds.getD (k - 1) 0 ∧ ds.getD k 0 - ds.getD (k - 1) 0 ≤ st)) := by
  simp only [ffD, inB, Bool.and_eq_true, Bool.or_eq_true, decide_eq_true_eq] at h
  exact h
theorem ffD_of {zs ds : List Int} {lo hi st : Int} {k : Nat} (h : (lo ≤ ds.getD k 0 ∧ ds.getD k 0 ≤ hi) ∧ (zs.getD k 0 = -9999 ∨ zs.getD k 0 = ds.getD k 0) ∧ (k = 0 ∨ (-st ≤ ds.getD k 0 - ds.getD (k - 1) 0 ∧ ds.getD k 0 - ds.getD (k - 1) 0 ≤ st))) : ffD zs ds lo hi st k = true := by
  simp only [ffD, inB, Bool.and_eq_true, Bool.or_eq_true, decide_eq_true_eq]
  exact h
end Go.Proofs.YtnemdnidlbekbaaGreatDoor
namespace Go.Proofs.YtnemdnidlbekbaaGreatDoor
open Go.RowKit
set_option linter.unusedVariables false

set_option maxHeartbeats 400000 in
theorem qv_spec (x : Int) (w : World) :
    Calls Tryz.prog 132 #[.int .i64 x] w fun e w' => e = .returned (.bool (qB x)) ∧ w = w' := by
  by_cases hx : x = -9999
  · subst hx
    go_enter Tryz.func132, Tryz.ntmps132
    go_wp2
    go_ret
    exact ⟨rfl, rfl⟩
  · have e1 : (x == -9999) = false := by simp [hx]
    have HX := Lib.hid (show qB x = inB x (-999) 10999 from qB_ne hx)
    go_enter Tryz.func132, Tryz.ntmps132
    go_wp2_with (go_at_call 65; refine (l6In_any _ _ _ _).mono ?_; rintro e w' ⟨rfl, rfl⟩)
    go_ret
    exact ⟨retB HX.out.symm, rfl⟩
set_option maxHeartbeats 1000000 in
theorem sqv_impl (a : Option Addr) (cap : Nat) (zs : List Int) (w : World) (h : Ls w a zs) (hm : zs.length ≤ 4611686018427387904) :
    Calls Tryz.prog 137 #[.slice a zs.length cap] w fun e w' => e = .returned (.bool (sqB zs)) ∧ w = w' := by
  by_cases h2 : 1 ≤ zs.length ∧ zs.length ≤ 12
  · obtain ⟨h3, h4⟩ := id h2
    have HL := Lib.hid h2
    have d1 : decide ((zs.length : Int) < 1) = false := by simp; omega
    have d2 : decide (12 < (zs.length : Int)) = false := by simp; omega
    clear h2
    go_enter Tryz.func137, Tryz.ntmps137
    go_wp2_with fail
    go_loop [15] (fun i => ∃ k : Nat, k ≤ zs.length ∧ i = .int .i64 k ∧ Hid ((zs.take k).all qB = true)) (fun i => zs.length - (intOf i).toNat)
    case atStart => exact ⟨0, by omega, rfl, Lib.hid (by simp)⟩
    case round =>
      obtain ⟨k, hk, rfl, HA⟩ := hrel
      by_cases hlt : k < zs.length
      · obtain ⟨b, off, rfl, hb, hc⟩ := h.at_ hlt
        by_cases hx : zs.getD k 0 = -9999
        · have HS := Lib.hid (show (zs.take (k + 1)).all qB = true by rw [take_snoc_all _ _ _ hlt, HA.out, hx]; rfl)
          rw [hx] at hc
          clear hx
          go_wp2_with fail
          go_round
          case rel => exact ⟨k + 1, by omega, by go_num, HS⟩
          case measure => simp [intOf]; omega
        · have hx2 : (zs.getD k 0 != -9999) = true := by simpa using hx
          have hqr := qB_ne hx
          rcases Bool.eq_false_or_eq_true (rdB (zs.getD k 0)) with hr | hr
          · have HS := Lib.hid (show (zs.take (k + 1)).all qB = true by rw [take_snoc_all _ _ _ hlt, HA.out, hqr, hr]; rfl)
            clear hqr hx
            generalize zs.getD k 0 = x at hc hr hx2
            go_wp2_with (go_at_call 138; refine (rd_impl _ _).mono ?_; rintro e w' ⟨rfl, rfl⟩)
            go_round
            case rel => exact ⟨k + 1, by omega, by go_num, HS⟩
            case measure => simp [intOf]; omega
          · have HF := Lib.hid (sq_bad (all_not qB zs k hlt (hqr.trans hr)))
            clear hqr hx
            generalize zs.getD k 0 = x at hc hr hx2
            go_wp2_with (go_at_call 138; refine (rd_impl _ _).mono ?_; rintro e w' ⟨rfl, rfl⟩)
            go_ret
            exact ⟨retB HF.out.symm, rfl⟩
      · have HT := Lib.hid (sq_all (by rw [← take_all hlt]; exact HA.out) HL.out)
        go_wp2
        go_ret
        exact ⟨retB HT.out.symm, rfl⟩
  · have HF := Lib.hid (sq_len_no h2)
    have hc : decide ((zs.length : Int) < 1) = true ∨ (decide ((zs.length : Int) < 1) = false ∧ decide (12 < (zs.length : Int)) = true) := by
      by_cases h0 : zs.length < 1
      · left; simp; omega
      · right; constructor <;> simp <;> omega
    clear h2
    rcases hc with hc | ⟨hc, hd⟩
    all_goals
      go_enter Tryz.func137, Tryz.ntmps137
      go_wp2
      go_ret
      exact ⟨retB HF.out.symm, rfl⟩
set_option maxHeartbeats 1000000 in
theorem sqv_spec (a : Option Addr) (cap : Nat) (zs : List Int) (w : World) (h : Ls w a zs) (hm : zs.length ≤ 4611686018427387904) :
    Calls Tryz.prog 113 #[.slice a zs.length cap] w fun e w' => e = .returned (.bool (sqB zs)) ∧ w = w' := by
  go_enter Tryz.func113, Tryz.ntmps113
  go_wp2_with fail
  go_loop [3] (fun i => ∃ k : Nat, k ≤ zs.length ∧ i = .int .i64 k ∧ Hid ((zs.take k).all qB = true)) (fun i => zs.length - (intOf i).toNat)
  case atStart => exact ⟨0, by omega, rfl, Lib.hid (by simp)⟩
  case round =>
    obtain ⟨k, hk, rfl, HA⟩ := hrel
    by_cases hlt : k < zs.length
    · obtain ⟨b, off, rfl, hb, hc⟩ := h.at_ hlt
      rcases Bool.eq_false_or_eq_true (qB (zs.getD k 0)) with hr | hr
      · have HS := Lib.hid (show (zs.take (k + 1)).all qB = true by rw [take_snoc_all _ _ _ hlt, HA.out, hr]; rfl)
        generalize zs.getD k 0 = x at hc hr
        go_wp2_with (go_at_call 132; refine (qv_spec _ _).mono ?_; rintro e w' ⟨rfl, rfl⟩)
        go_round
        case rel => exact ⟨k + 1, by omega, by go_num, HS⟩
        case measure => simp [intOf]; omega
      · have HF := Lib.hid (sq_bad (all_not qB zs k hlt hr))
        generalize zs.getD k 0 = x at hc hr
        go_wp2_with (go_at_call 132; refine (qv_spec _ _).mono ?_; rintro e w' ⟨rfl, rfl⟩)
        go_ret
        exact ⟨retB HF.out.symm, rfl⟩
    · have HA2 : Hid (zs.all qB = true) := Lib.hid (by rw [← take_all hlt]; exact HA.out)
      have HT : Hid (inB (zs.length : Int) 1 12 = sqB zs) := Lib.hid (by
        by_cases h2 : 1 ≤ zs.length ∧ zs.length ≤ 12
        · rw [sq_all HA2.out h2, inB_yes (by omega)]
        · rw [sq_len_no h2, inB_no (by omega)])
      go_wp2_with (go_at_call 65; refine (l6In_any _ _ _ _).mono ?_; rintro e w' ⟨rfl, rfl⟩)
      go_ret
      exact ⟨retB HT.out, rfl⟩
set_option maxHeartbeats 1000000 in
theorem sk_impl (a : Option Addr) (cap : Nat) (zs : List Int) (w : World) (h : Ls w a zs) (hm : zs.length ≤ 4611686018427387904) :
    Calls Tryz.prog 126 #[.slice a zs.length cap] w fun e w' => e = .returned (.int .i64 (sk zs)) ∧ w = w' := by
  rcases Bool.eq_false_or_eq_true (sqB zs) with hq | hq
  · have HL := Lib.hid (sq_facts hq).2
    have HY := Lib.hid (sk_yes hq)
    go_enter Tryz.func126, Tryz.ntmps126
    go_wp2_with (go_at_call 137; refine (sqv_impl _ _ zs _ h hm).mono ?_; rintro e w' ⟨he, rfl⟩; rw [hq] at he; subst he)
    go_loop [3, 11] (fun c i => ∃ k : Nat, k ≤ zs.length ∧ i = .int .i64 k ∧ c = .int .i64 (knN zs k : Int)) (fun _ i => zs.length - (intOf i).toNat)
    case atStart => exact ⟨0, by omega, rfl, rfl⟩
    case round =>
      obtain ⟨k, hk, rfl, rfl⟩ := hrel
      have hkl := knN_le zs k
      by_cases hlt : k < zs.length
      · obtain ⟨b, off, rfl, hb, hc⟩ := h.at_ hlt
        by_cases hx : zs.getD k 0 = -9999
        · have HS : Hid (knN zs (k + 1) = knN zs k) := Lib.hid (by simp only [knN, hx]; simp)
          rw [hx] at hc
          clear hx
          generalize knN zs k = n at hkl HS
          go_wp2_with fail
          go_round
          case rel => exact ⟨k + 1, by omega, by go_num, by rw [HS.out]⟩
          case measure => simp [intOf]; omega
        · have hx2 : (zs.getD k 0 != -9999) = true := by simpa using hx
          have HS : Hid (knN zs (k + 1) = knN zs k + 1) := Lib.hid (by simp only [knN, if_neg hx])
          clear hx
          generalize zs.getD k 0 = x at hc hx2
          generalize knN zs k = n at hkl HS
          go_wp2_with fail
          go_round
          case rel => exact ⟨k + 1, by omega, by go_num, by rw [HS.out]; go_num⟩
          case measure => simp [intOf]; omega
      · obtain rfl : k = zs.length := by omega
        go_wp2
        go_ret
        exact ⟨retI HY.out.symm, rfl⟩
  · have HN := Lib.hid (sk_no hq)
    go_enter Tryz.func126, Tryz.ntmps126
    go_wp2_with (go_at_call 137; refine (sqv_impl _ _ zs _ h hm).mono ?_; rintro e w' ⟨he, rfl⟩; rw [hq] at he; subst he)
    go_ret
    exact ⟨retI HN.out.symm, rfl⟩
set_option maxHeartbeats 1000000 in
theorem sk_spec (a : Option Addr) (cap : Nat) (zs : List Int) (w : World) (h : Ls w a zs) (hm : zs.length ≤ 4611686018427387904) :
    Calls Tryz.prog 114 #[.slice a zs.length cap] w fun e w' => e = .returned (.int .i64 (sk zs)) ∧ w = w' := by
  rcases Bool.eq_false_or_eq_true (sqB zs) with hq | hq
  · have HL := Lib.hid (sq_facts hq).2
    have HY := Lib.hid (sk_yes hq)
    go_enter Tryz.func114, Tryz.ntmps114
    go_wp2_with (go_at_call 113; refine (sqv_spec _ _ zs _ h hm).mono ?_; rintro e w' ⟨he, rfl⟩; rw [hq] at he; subst he)
    go_loop [3, 4] (fun c i => ∃ k : Nat, k ≤ zs.length ∧ i = .int .i64 k ∧ c = .int .i64 (knN zs k : Int)) (fun _ i => zs.length - (intOf i).toNat)
    case atStart => exact ⟨0, by omega, rfl, rfl⟩
    case round =>
      obtain ⟨k, hk, rfl, rfl⟩ := hrel
      have hkl := knN_le zs k
      by_cases hlt : k < zs.length
      · obtain ⟨b, off, rfl, hb, hc⟩ := h.at_ hlt
        by_cases hx : zs.getD k 0 = -9999
        · have HS : Hid (knN zs (k + 1) = knN zs k) := Lib.hid (by simp only [knN, hx]; simp)
          rw [hx] at hc
          clear hx
          generalize knN zs k = n at hkl HS
          go_wp2_with fail
          go_round
          case rel => exact ⟨k + 1, by omega, by go_num, by rw [HS.out]⟩
          case measure => simp [intOf]; omega
        · have hx2 : (zs.getD k 0 != -9999) = true := by simpa using hx
          have HS : Hid (knN zs (k + 1) = knN zs k + 1) := Lib.hid (by simp only [knN, if_neg hx])
          clear hx
          generalize zs.getD k 0 = x at hc hx2
          generalize knN zs k = n at hkl HS
          go_wp2_with fail
          go_round
          case rel => exact ⟨k + 1, by omega, by go_num, by rw [HS.out]; go_num⟩
          case measure => simp [intOf]; omega
      · obtain rfl : k = zs.length := by omega
        go_wp2
        go_ret
        exact ⟨retI HY.out.symm, rfl⟩
  · have HN := Lib.hid (sk_no hq)
    go_enter Tryz.func114, Tryz.ntmps114
    go_wp2_with (go_at_call 113; refine (sqv_spec _ _ zs _ h hm).mono ?_; rintro e w' ⟨he, rfl⟩; rw [hq] at he; subst he)
    go_ret
    exact ⟨retI HN.out.symm, rfl⟩
end Go.Proofs.YtnemdnidlbekbaaGreatDoor
namespace Go.Proofs.YtnemdnidlbekbaaGreatDoor
open Go.RowKit
set_option linter.unusedVariables false

theorem infoIntC : (Tryz.prog.info? 3).map (fun i => (i.zero, i.size, i.bytes)) = some (some (.int .i64 0), 1, 8) := by kernel_rfl
theorem fl_no {f : Int} (h : inB f 0 15 = false) : f < 0 ∨ 15 < f := by
  by_cases hh : 0 ≤ f ∧ f ≤ 15
  · rw [inB_yes hh] at h; cases h
  · omega
theorem fl_bd' {f : Int} (h : inB f 0 15 = true) : 0 ≤ f ∧ f ≤ 15 := by simp [inB] at h; omega
def FcPost (zs fs : List Int) (w : World) (e : Ending) (w' : World) : Prop :=
  ∃ (a : Option Addr) (c : Nat), e = .returned (.tuple #[.slice a (fcL zs fs).length c, .bool (fcOk zs fs)]) ∧ Fresh w w' a (fcL zs fs) ∧ Keep w w'
theorem fc_post_no {zs fs : List Int} {w w' : World} (h : fcOk zs fs = false) (a : Option Addr) (c : Nat) (k : Keep w w') : FcPost zs fs w (.returned (.tuple #[.slice a 0 c, .bool false])) w' := by
  have e := fcL_no h
  refine ⟨a, c, ?_, .inl e, k⟩
  rw [e, h]; rfl
/-- The rows that a call owns, as a list that may be written. -/
theorem wr_own {w : World} {base g n c : Nat} {e : TypeId} {zs : List Int} (h : w.ownsRow base e 1 (.slice (some ⟨g, 0, none⟩) n c) n (zs.map (Value.int .i64))) : Wr w g zs ∧ base ≤ g ∧ g < w.heap.size := by
  have hl : n = zs.length := by have := h.1; simp at this; omega
  refine ⟨fun j hj => ⟨?_, World.ownsRow.frozenAt h j⟩, (World.ownsRow.lt h g rfl).1, (World.ownsRow.lt h g rfl).2⟩
  rw [World.ownsRow.cellAt h j (by omega)]
  simp [hj, List.getD_eq_getElem?_getD]
theorem own_capI {w : World} {base g n c : Nat} {e : TypeId} {vs : List Value} (h : w.ownsRow base e 1 (.slice (some ⟨g, 0, none⟩) n c) n vs) : n ≤ c := by
  rcases id h.2 with ⟨hn, _⟩ | ⟨g', cap', cur, hn, _, hc, _⟩
  · cases hn
  · injection hn with _ _ hn; subst hn; omega
set_option maxRecDepth 100000 in
set_option maxHeartbeats 1000000 in
theorem cloneI_any (a : Option Addr) (cap : Nat) (zs : List Int) (w : World) (h : Ls w a zs) (h0 : 0 < zs.length) (hm : zs.length ≤ 1048576) :
    Calls Tryz.prog 152 #[.slice a zs.length cap] w fun e w' => ∃ g c, e = .returned (.slice (some ⟨g, 0, none⟩) zs.length c) ∧ zs.length ≤ c ∧ w.heap.size ≤ g ∧ g < w'.heap.size ∧ Wr w' g zs ∧ Keep w w' := by
  obtain ⟨b, off, rfl, hb, hc⟩ := h.all h0
  obtain ⟨i0, hi, hz0, hz1, hz2⟩ := info_parts infoIntC
  have hown := World.ownsRow_made (base := w.heap.size) (e := 3) (size := 1) w #[] 0 (Nat.le_refl _) (by unfold maxLen; omega) rfl
  have hq := fun (w : World) (a : Option Addr) (n c n' c' : Nat) => Lib.run_eql_slice_nil (P := Tryz.prog) w 64 3 a n c n' c' Tryz.underlying64
  go_enter Tryz.func152, Tryz.ntmps152
  go_wp2_with (at_builtin; refine wpList_append_own _ rfl _ _ 64 rfl w.heap.size 3 i0 (.int .i64 0) 1 8 Tryz.underlying64 hi hz0 hz1 hz2 rfl (by decide) _ _ _ rfl hown ⟨b, off, none⟩ zs.length cap (zs.map (Value.int .i64)) rfl ?la ?ca ?ka ?ma ?ba ?sa ?_)
  case la => first | done | (simp; done) | (simp; omega)
  case ca =>
    intro j u hj
    have hlt : j < zs.length := by
      have := (List.getElem?_eq_some_iff.1 hj).1; simpa using this
    have h1 := (((Keep.refl w).alloc (.cells #[] 3)).cell (hc j hlt))
    have hu : u = .int .i64 (zs.getD j 0) := by
      simp [hlt] at hj; rw [← hj]; simp [List.getD_eq_getElem?_getD, hlt]
    subst hu
    by_cases h0 : j = 0
    · subst h0; simpa [Addr.add] using h1
    · simpa [Addr.add, h0] using h1
  case ka => first | (intro u hu; rfl) | (intro u hu; simp at hu; obtain ⟨x, hx, rfl⟩ := hu; rfl)
  case ma => unfold maxLen; omega
  case ba => omega
  case sa => first | omega | (simp; try omega)
  intro v' w5 hown' hgrow hnil
  try rw [Nat.zero_add] at hown'
  try rw [List.nil_append] at hown'
  obtain ⟨g', c', rfl, hbg, hlg⟩ := hown'.form h0
  have HW := Lib.hid (wr_own hown').1
  have hcp := own_capI hown'
  have HK2 := Lib.hid ((Below.grown ((Keep.refl w).alloc (.cells #[] 3)) hgrow ((Keep.refl w).alloc (.cells #[] 3)).size (fun q hq => (hown.lt q hq).1)) : Keep w w5)
  clear hown' hgrow hnil hown hc h
  go_wp2
  go_ret
  exact ⟨g', c', rfl, hcp, hbg, hlg, HW.out, HK2.out⟩
theorem fc_no1 {zs fs : List Int} (h : sqB zs = false) : fcOk zs fs = false := by rw [fcOk, h]; rfl
theorem fc_no2 {zs fs : List Int} (h : ¬ fs.length = zs.length) : fcOk zs fs = false := by rw [fcOk]; simp [h]
theorem fc_no3 {zs fs : List Int} (h : fs.all (fun f => inB f 0 15) = false) : fcOk zs fs = false := by rw [fcOk, h]; simp
theorem fc_mix (zs fs : List Int) (k : Nat) (hk : k < zs.length) : ((fcl zs fs).take k ++ zs.drop k).getD k 0 = zs.getD k 0 := by
  have hl : ((fcl zs fs).take k).length = k := by rw [List.length_take, fcl_len]; omega
  simp [List.getD_eq_getElem?_getD, List.getElem?_append_right (show ((fcl zs fs).take k).length ≤ k by omega), hl]
theorem fc_mix_len (zs fs : List Int) (k : Nat) (hk : k ≤ zs.length) : ((fcl zs fs).take k ++ zs.drop k).length = zs.length := by
  rw [List.length_append, List.length_take, fcl_len, List.length_drop]; omega
theorem fc_mix_set (zs fs : List Int) (k : Nat) (hk : k < zs.length) : ((fcl zs fs).take k ++ zs.drop k).set k (fcv (zs.getD k 0) (fs.getD k 0)) = (fcl zs fs).take (k + 1) ++ zs.drop (k + 1) := by
  have hl : ((fcl zs fs).take k).length = k := by rw [List.length_take, fcl_len]; omega
  rw [List.set_append_right _ _ (by omega), hl, Nat.sub_self, List.drop_eq_getElem_cons hk, List.set_cons_zero, fcl_snoc hk, List.append_assoc]
  rfl
theorem fc_mix_same (zs fs : List Int) (k : Nat) (hk : k < zs.length) (h : fs.getD k 0 = 0) : (fcl zs fs).take k ++ zs.drop k = (fcl zs fs).take (k + 1) ++ zs.drop (k + 1) := by
  have e : fcv (zs.getD k 0) (fs.getD k 0) = zs[k] := by rw [h]; simp [fcv, List.getD_eq_getElem?_getD, hk]
  rw [fcl_snoc hk, e, List.append_assoc, List.drop_eq_getElem_cons hk]
  rfl
end Go.Proofs.YtnemdnidlbekbaaGreatDoor
namespace Go.Proofs.YtnemdnidlbekbaaGreatDoor
open Go.RowKit
set_option linter.unusedVariables false

/-- A range: low, high. -/
abbrev R2 := Int × Int
def u0 : R2 := (0, 0)
def uL (r : R2) : Int := r.1
def uH (r : R2) : Int := r.2
/-- The cells of a site. -/
def uc (r : R2) : List Value := [.int .i64 (uL r), .int .i64 (uH r)]
def flatU (rs : List R2) : List Value := rs.flatMap uc
/-- The site r lies in block b from o on. -/
structure At2 (w : World) (b o : Nat) (r : R2) : Prop where
  s : w.cell? ⟨b, o, none⟩ = some (.int .i64 (uL r))
  d : w.cell? ⟨b, o + 1, none⟩ = some (.int .i64 (uH r))
theorem At2.keep {w w' : World} {b o : Nat} {r : R2} (h : At2 w b o r) (k : Keep w w') : At2 w' b o r := ⟨k.cell h.s, k.cell h.d⟩
theorem At2.drewN {w : World} {b o : Nat} {r : R2} (h : At2 w b o r) (n : Nat) : At2 (w.drewN n) b o r := ⟨h.s, h.d⟩
theorem At2.same {w w' : World} {b o : Nat} {r : R2} (h : At2 w b o r) (hc : ∀ i, w'.cell? ⟨b, i, none⟩ = w.cell? ⟨b, i, none⟩) : At2 w' b o r :=
  ⟨(hc _).trans h.s, (hc _).trans h.d⟩

def Rr (w : World) (a : Option Addr) (rs : List R2) : Prop :=
  rs = [] ∨ ∃ b off, a = some ⟨b, off, none⟩ ∧ b < w.heap.size ∧ ∀ i, i < rs.length → At2 w b (off + i * 2) (rs.getD i u0)

theorem Rr.nil (w : World) (a : Option Addr) : Rr w a [] := .inl rfl
theorem Rr.keep {w w' : World} {a : Option Addr} {rs : List R2} (h : Rr w a rs) (k : Keep w w') : Rr w' a rs := by
  rcases h with h | ⟨b, off, ha, hb, h⟩
  · exact .inl h
  · exact .inr ⟨b, off, ha, Nat.lt_of_lt_of_le hb k.size, fun i hi => (h i hi).keep k⟩
theorem Rr.alloc {w : World} {a : Option Addr} {rs : List R2} (h : Rr w a rs) (o : Obj) : Rr (w.alloc o) a rs := h.keep ((Keep.refl w).alloc o)
theorem Rr.drewN {w : World} {a : Option Addr} {rs : List R2} (h : Rr w a rs) (n : Nat) : Rr (w.drewN n) a rs := h.keep ((Keep.refl w).drewN n)
theorem Rr.at_ {w : World} {a : Option Addr} {rs : List R2} (h : Rr w a rs) {i : Nat} (hi : i < rs.length) :
    ∃ b off, a = some ⟨b, off, none⟩ ∧ b < w.heap.size ∧ At2 w b (off + i * 2) (rs.getD i u0) := by
  rcases h with rfl | ⟨b, off, ha, hb, h⟩
  · simp at hi
  · exact ⟨b, off, ha, hb, h i hi⟩
theorem Rr.all {w : World} {a : Option Addr} {rs : List R2} (h : Rr w a rs) (h0 : 0 < rs.length) :
    ∃ b off, a = some ⟨b, off, none⟩ ∧ b < w.heap.size ∧ ∀ i, i < rs.length → At2 w b (off + i * 2) (rs.getD i u0) := by
  rcases h with rfl | h
  · simp at h0
  · exact h
theorem Rr.take {w : World} {a : Option Addr} {rs : List R2} (h : Rr w a rs) (n : Nat) : Rr w a (rs.take n) := by
  rcases h with rfl | ⟨b, off, ha, hb, h⟩
  · left; simp
  · refine .inr ⟨b, off, ha, hb, fun i hi => ?_⟩
    rw [List.length_take] at hi
    have e : (rs.take n).getD i u0 = rs.getD i u0 := by simp [List.getD_eq_getElem?_getD, show i < n by omega]
    rw [e]; exact h i (by omega)
/-- What a law's argument reads as. -/
theorem rr_of_rows {w : World} {a : Option Addr} {len cap : Nat} {zs : Nat → Nat → Int} (h : IsRows 2 w a len cap zs) :
    ∃ rs : List R2, rs.length = len ∧ Rr w a rs ∧ (len ≤ cap ∧ cap ≤ maxLen) := by
  refine ⟨(List.range len).map fun i => (zs i 0, zs i 1), by simp, ?_, ?_⟩
  · rcases h with ⟨rfl, rfl, rfl⟩ | ⟨x, rfl, h1, h2, h3⟩
    · left; rfl
    · by_cases h0 : len = 0
      · left; simp [h0]
      · right
        obtain ⟨c0, _⟩ := h3 0 (by omega) 0 (by omega)
        obtain ⟨b, off, sh⟩ := x
        cases sh with
        | some s =>
          exfalso
          simp [World.cell?, Addr.add] at c0
          split at c0 <;> cases c0
        | none =>
          refine ⟨b, off, rfl, World.block_lt_of_cell? w _ c0, fun i hi => ?_⟩
          simp only [List.length_map, List.length_range] at hi
          have e : ((List.range len).map fun i => ((zs i 0, zs i 1) : R2)).getD i u0 = (zs i 0, zs i 1) := by
            simp [List.getD_eq_getElem?_getD, hi]
          rw [e]
          have hj : ∀ j, j < 2 → w.cell? ⟨b, off + i * 2 + j, none⟩ = some (.int .i64 (zs i j)) := fun j hj => by
            have := (h3 i (by omega) j hj).1
            unfold Addr.add at this
            by_cases hz : i * 2 + j = 0
            · rw [if_pos hz] at this
              rw [show off + i * 2 + j = off by omega]; exact this
            · rw [if_neg hz] at this
              rw [show off + i * 2 + j = off + (i * 2 + j) by omega]; exact this
          exact ⟨hj 0 (by omega), hj 1 (by omega)⟩
  · rcases h with ⟨rfl, rfl, rfl⟩ | ⟨x, rfl, h1, h2, h3⟩
    · exact ⟨Nat.le_refl _, by unfold maxLen; omega⟩
    · exact ⟨h1, h2⟩
theorem utake_all (p : R2 → Bool) (rs : List R2) (k : Nat) (h : k < rs.length) : (rs.take (k + 1)).all p = ((rs.take k).all p && p (rs.getD k u0)) := by
  rw [List.take_succ_eq_append_getElem h, List.all_append]; simp [List.getD_eq_getElem?_getD, h]
theorem uall_not (p : R2 → Bool) (rs : List R2) (k : Nat) (h : k < rs.length) (hp : p (rs.getD k u0) = false) : rs.all p = false := by
  rw [List.all_eq_false]
  refine ⟨rs.getD k u0, by simp [List.getD_eq_getElem?_getD, h], ?_⟩
  rw [hp]; simp
theorem ugetD_mem {rs : List R2} {k : Nat} (h : k < rs.length) : rs.getD k u0 ∈ rs := by simp [List.getD_eq_getElem?_getD, h]
theorem uall_at {p : R2 → Bool} {rs : List R2} (h : rs.all p = true) {k : Nat} (hk : k < rs.length) : p (rs.getD k u0) = true := List.all_eq_true.1 h _ (ugetD_mem hk)


/-- Four cells that may be written. -/
structure Fr2 (w : World) (b o : Nat) : Prop where
  f0 : w.frozen? ⟨b, o, none⟩ = false
  f1 : w.frozen? ⟨b, o + 1, none⟩ = false
/-- Block g holds the reports ys from its beginning on, and may be written. -/
def WrU (w : World) (g : Nat) (ys : List R2) : Prop := ∀ j, j < ys.length → At2 w g (j * 2) (ys.getD j u0) ∧ Fr2 w g (j * 2)
theorem WrU.keep {w w' : World} {g : Nat} {ys : List R2} (h : WrU w g ys) (k : Keep w w') : WrU w' g ys :=
  fun j hj => ⟨(h j hj).1.keep k, ⟨k.still (h j hj).1.s (h j hj).2.f0, k.still (h j hj).1.d (h j hj).2.f1⟩⟩
theorem WrU.rr {w : World} {g : Nat} {ys : List R2} (h : WrU w g ys) : Rr w (some ⟨g, 0, none⟩) ys := by
  by_cases h0 : ys = []
  · exact .inl h0
  · have hp : 0 < ys.length := List.length_pos_iff.2 h0
    exact .inr ⟨g, 0, rfl, World.block_lt_of_cell? w _ (h 0 hp).1.s, fun i hi => by rw [Nat.zero_add]; exact (h i hi).1⟩
/-- A report stored in four cells. -/
def put2 (w : World) (b o : Nat) (r : R2) : World := (w.setCell ⟨b, o, none⟩ (.int .i64 (uL r))).setCell ⟨b, o + 1, none⟩ (.int .i64 (uH r))
theorem put2_far {w : World} {b o : Nat} {r : R2} {b' i : Nat} (h : b' ≠ b ∨ i < o ∨ o + 1 < i) : (put2 w b o r).cell? ⟨b', i, none⟩ = w.cell? ⟨b', i, none⟩ := by
  unfold put2
  rw [World.cell?_setCell_other _ _ _ _ (by intro e; simp only [Addr.mk.injEq] at e; omega), World.cell?_setCell_other _ _ _ _ (by intro e; simp only [Addr.mk.injEq] at e; omega)]
theorem put2_at {w : World} {b o : Nat} {r q : R2} (h : At2 w b o q) : At2 (put2 w b o r) b o r := by
  unfold put2
  constructor
  · rw [World.cell?_setCell_other _ _ _ _ (by simp)]
    exact World.cell?_setCell_same _ _ _ h.s
  · exact World.cell?_setCell_same _ _ _ ((World.cell?_setCell_other _ _ _ _ (by simp)).trans h.d)
theorem put2_frozen (w : World) (b o : Nat) (r : R2) (a : Addr) : (put2 w b o r).frozen? a = w.frozen? a := by
  unfold put2; rw [World.frozen?_setCell, World.frozen?_setCell]
theorem put2_keep {a w : World} (h : Keep a w) {b o : Nat} {r : R2} (hb : a.heap.size ≤ b) : Keep a (put2 w b o r) :=
  (h.setCell hb _).setCell hb _
theorem WrU.set {w : World} {g : Nat} {ys : List R2} (h : WrU w g ys) {k : Nat} (hk : k < ys.length) (r : R2) : WrU (put2 w g (k * 2) r) g (ys.set k r) := by
  intro j hj
  rw [List.length_set] at hj
  obtain ⟨h1, h2⟩ := h j hj
  refine ⟨?_, ⟨?_, ?_⟩⟩
  · by_cases e : j = k
    · subst e
      have e2 : (ys.set j r).getD j u0 = r := by simp [List.getD_eq_getElem?_getD, hj]
      rw [e2]; exact put2_at h1
    · have e2 : (ys.set k r).getD j u0 = ys.getD j u0 := by
        have : k ≠ j := fun h => e h.symm
        simp [List.getD_eq_getElem?_getD, this]
      rw [e2]
      exact ⟨(put2_far (by omega)).trans h1.s, (put2_far (by omega)).trans h1.d⟩
  all_goals rw [put2_frozen]
  · exact h2.f0
  · exact h2.f1
theorem upart_set (rs : List R2) (k : Nat) (hk : k < rs.length) : (rs.take k ++ List.replicate (rs.length - k) u0).set k (rs.getD k u0) = rs.take (k + 1) ++ List.replicate (rs.length - (k + 1)) u0 := by
  have e : List.replicate (rs.length - k) u0 = u0 :: List.replicate (rs.length - (k + 1)) u0 := by
    rw [← List.replicate_succ]; congr 1; omega
  have hg : rs.getD k u0 = rs[k] := by simp [List.getD_eq_getElem?_getD, hk]
  have hl : (rs.take k).length = k := by rw [List.length_take]; omega
  rw [e, List.set_append_right _ _ (by omega), hl, Nat.sub_self, List.set_cons_zero, hg, List.take_succ_eq_append_getElem hk, List.append_assoc]
  rfl

theorem infoRng : (Tryz.prog.info? 118).map (fun i => (i.zero, i.size, i.bytes)) = some (some (.agg #[.int .i64 0, .int .i64 0]), 2, 16) := by kernel_rfl
theorem run_make_ranges (n : Nat) (hn : n ≤ 1048576) (w : World) :
    (Instr.makeSlice 114 (.int .i64 (n : Int)) (.int .i64 (n : Int))).run Tryz.prog w = .ok (.slice (some ⟨w.heap.size, 0, none⟩) n n) (w.alloc (.cells (madeCells #[.int .i64 0, .int .i64 0] (n * 2)) 118)) := by
  obtain ⟨i, hi, hz, hs, hb⟩ := info_parts infoRng
  have hr := run_make (P := Tryz.prog) w 114 118 i _ Tryz.underlying114 hi hz .i64 .i64 n n (by omega) (by omega) (by rw [hb]; omega) (by omega)
  simp only [Int.toNat_natCast, hs] at hr
  exact hr
theorem made2_at (n j : Nat) (hj : j < n * 2) : (madeCells #[Value.int .i64 0, .int .i64 0] (n * 2))[j]? = some (.int .i64 0) := by
  unfold madeCells
  have h4 : j % 2 = 0 ∨ j % 2 = 1 := by omega
  rcases h4 with h | h <;> simp [hj, h]
def ToU (rs : List R2) (w : World) (e : Ending) (w' : World) : Prop := ∃ g, w.heap.size ≤ g ∧ e = .returned (.slice (some ⟨g, 0, none⟩) rs.length rs.length) ∧ WrU w' g rs ∧ Keep w w' ∧ g < w'.heap.size

end Go.Proofs.YtnemdnidlbekbaaGreatDoor
namespace Go.Proofs.YtnemdnidlbekbaaGreatDoor
open Go.RowKit
set_option linter.unusedVariables false

/-- The difference of two numbers, without its sign. -/
def dst (x y : Int) : Int := if x < y then y - x else x - y
theorem dst_nn (x y : Int) : 0 ≤ dst x y := by unfold dst; split <;> omega
theorem dst_max (x y : Int) : dst x y = max (x - y) (y - x) := by unfold dst; split <;> omega
theorem dst_comm (x y : Int) : dst x y = dst y x := by unfold dst; split <;> split <;> omega
theorem dst_in (x y st : Int) : decide (st < dst y x) = !(inB (x - y) (-st) st) := by
  unfold dst inB
  rw [Bool.eq_iff_iff]
  split <;> simp <;> omega
set_option maxHeartbeats 400000 in
theorem gsv_any (x : Int) (w : World) :
    Calls Tryz.prog 139 #[.int .i64 x] w fun e w' => e = .returned (.bool (inB x 0 19999)) ∧ w = w' := by
  go_enter Tryz.func139, Tryz.ntmps139
  go_wp2
  all_goals
    go_ret
    refine ⟨retB ?_, rfl⟩
    rw [Bool.eq_iff_iff]; simp [inB]; try omega
end Go.Proofs.YtnemdnidlbekbaaGreatDoor
namespace Go.Proofs.YtnemdnidlbekbaaGreatDoor
open Go.RowKit
set_option linter.unusedVariables false

theorem gaB_1 {zs : List Int} {lo hi st : Int} (h : sqB zs = false) : gaB zs lo hi st = false := by rw [gaB, h]; rfl
set_option maxRecDepth 100000 in
set_option maxHeartbeats 1000000 in
theorem ga_impl (a : Option Addr) (cap : Nat) (zs : List Int) (lo hi st : Int) (w : World) (h : Ls w a zs) (hm : zs.length ≤ 4611686018427387904) :
    Calls Tryz.prog 123 #[.slice a zs.length cap, .int .i64 lo, .int .i64 hi, .int .i64 st] w fun e w' => e = .returned (.bool (gaB zs lo hi st)) ∧ w = w' := by
  have HQ := Lib.hid (sqv_impl a cap zs w h hm)
  obtain ⟨q, hq⟩ : ∃ q, sqB zs = q := ⟨_, rfl⟩
  obtain ⟨r, hr⟩ : ∃ r, rdB lo = r := ⟨_, rfl⟩
  obtain ⟨s, hs⟩ : ∃ s, rdB hi = s := ⟨_, rfl⟩
  obtain ⟨t, ht⟩ : ∃ t, inB st 0 19999 = t := ⟨_, rfl⟩
  have HG : Hid (gaB zs lo hi st = (q && (r && (s && (decide (lo ≤ hi) && t))))) := Lib.hid (by rw [gaB, hq, hr, hs, ht])
  rw [hq] at HQ
  have HR := Lib.hid (rd_impl lo w)
  have HS := Lib.hid (rd_impl hi w)
  have HT := Lib.hid (gsv_any st w)
  rw [hr] at HR
  rw [hs] at HS
  rw [ht] at HT
  clear hq hr hs ht
  cases q
  · go_enter Tryz.func123, Tryz.ntmps123
    go_wp2_with (go_at_call 137; with_reducible refine HQ.out.mono ?_; rintro e w' ⟨rfl, rfl⟩)
    go_ret
    exact ⟨retB (by rw [HG.out]; rfl), rfl⟩
  cases r
  · go_enter Tryz.func123, Tryz.ntmps123
    go_wp2_with (first | (go_at_call 137; with_reducible refine HQ.out.mono ?_; rintro e w' ⟨rfl, rfl⟩) | (go_at_call 138; with_reducible refine HR.out.mono ?_; rintro e w' ⟨rfl, rfl⟩))
    go_ret
    exact ⟨retB (by rw [HG.out]; rfl), rfl⟩
  cases s
  · go_enter Tryz.func123, Tryz.ntmps123
    go_wp2_with (first | (go_at_call 137; with_reducible refine HQ.out.mono ?_; rintro e w' ⟨rfl, rfl⟩) | (go_at_call 138; first | (with_reducible refine HR.out.mono ?_; rintro e w' ⟨rfl, rfl⟩) | (with_reducible refine HS.out.mono ?_; rintro e w' ⟨rfl, rfl⟩)))
    go_ret
    exact ⟨retB (by rw [HG.out]; rfl), rfl⟩
  by_cases hlh : lo ≤ hi
  case' neg =>
    have d : decide (lo ≤ hi) = false := decide_eq_false hlh
    go_enter Tryz.func123, Tryz.ntmps123
    go_wp2_with (first | (go_at_call 137; with_reducible refine HQ.out.mono ?_; rintro e w' ⟨rfl, rfl⟩) | (go_at_call 138; first | (with_reducible refine HR.out.mono ?_; rintro e w' ⟨rfl, rfl⟩) | (with_reducible refine HS.out.mono ?_; rintro e w' ⟨rfl, rfl⟩)))
    go_ret
    exact ⟨retB (by rw [HG.out, d]; rfl), rfl⟩
  have d : decide (lo ≤ hi) = true := decide_eq_true hlh
  go_enter Tryz.func123, Tryz.ntmps123
  go_wp2_with (first | (go_at_call 137; with_reducible refine HQ.out.mono ?_; rintro e w' ⟨rfl, rfl⟩) | (go_at_call 138; first | (with_reducible refine HR.out.mono ?_; rintro e w' ⟨rfl, rfl⟩) | (with_reducible refine HS.out.mono ?_; rintro e w' ⟨rfl, rfl⟩)) | (go_at_call 139; with_reducible refine HT.out.mono ?_; rintro e w' ⟨rfl, rfl⟩))
  go_ret
  exact ⟨retB (by rw [HG.out, d]; rfl), rfl⟩
set_option maxRecDepth 100000 in
set_option maxHeartbeats 1000000 in
theorem ga_spec (a : Option Addr) (cap : Nat) (zs : List Int) (lo hi st : Int) (w : World) (h : Ls w a zs) (hm : zs.length ≤ 4611686018427387904) :
    Calls Tryz.prog 111 #[.slice a zs.length cap, .int .i64 lo, .int .i64 hi, .int .i64 st] w fun e w' => e = .returned (.bool (gaB zs lo hi st)) ∧ w = w' := by
  have HQ := Lib.hid (sqv_spec a cap zs w h hm)
  obtain ⟨q, hq⟩ : ∃ q, sqB zs = q := ⟨_, rfl⟩
  obtain ⟨r, hr⟩ : ∃ r, inB lo (-999) 10999 = r := ⟨_, rfl⟩
  obtain ⟨s, hs⟩ : ∃ s, inB hi lo 10999 = s := ⟨_, rfl⟩
  obtain ⟨t, ht⟩ : ∃ t, inB st 0 19999 = t := ⟨_, rfl⟩
  have HG : Hid (gaB zs lo hi st = (q && (r && (s && t)))) := Lib.hid (by
    rw [gaB, hq, ← hr, ← hs, ht, Bool.eq_iff_iff]
    simp only [rdB, inB, Bool.and_eq_true, decide_eq_true_eq]
    constructor
    · rintro ⟨a, b, c, d, f⟩; exact ⟨a, by omega, by omega, f⟩
    · rintro ⟨a, b, c, f⟩; exact ⟨a, by omega, by omega, by omega, f⟩)
  rw [hq] at HQ
  have HR := Lib.hid (l6In_any lo (-999) 10999 w)
  have HS := Lib.hid (l6In_any hi lo 10999 w)
  have HT := Lib.hid (l6In_any st 0 19999 w)
  rw [hr] at HR
  rw [hs] at HS
  rw [ht] at HT
  clear hq hr hs ht
  cases q
  · go_enter Tryz.func111, Tryz.ntmps111
    go_wp2_with (go_at_call 113; with_reducible refine HQ.out.mono ?_; rintro e w' ⟨rfl, rfl⟩)
    go_ret
    exact ⟨retB (by rw [HG.out]; rfl), rfl⟩
  cases r
  · go_enter Tryz.func111, Tryz.ntmps111
    go_wp2_with (first | (go_at_call 113; with_reducible refine HQ.out.mono ?_; rintro e w' ⟨rfl, rfl⟩) | (go_at_call 65; with_reducible refine HR.out.mono ?_; rintro e w' ⟨rfl, rfl⟩))
    go_ret
    exact ⟨retB (by rw [HG.out]; rfl), rfl⟩
  cases s
  · go_enter Tryz.func111, Tryz.ntmps111
    go_wp2_with (first | (go_at_call 113; with_reducible refine HQ.out.mono ?_; rintro e w' ⟨rfl, rfl⟩) | (go_at_call 65; first | (with_reducible refine HR.out.mono ?_; rintro e w' ⟨rfl, rfl⟩) | (with_reducible refine HS.out.mono ?_; rintro e w' ⟨rfl, rfl⟩)))
    go_ret
    exact ⟨retB (by rw [HG.out]; rfl), rfl⟩
  go_enter Tryz.func111, Tryz.ntmps111
  go_wp2_with (first | (go_at_call 113; with_reducible refine HQ.out.mono ?_; rintro e w' ⟨rfl, rfl⟩) | (go_at_call 65; first | (with_reducible refine HR.out.mono ?_; rintro e w' ⟨rfl, rfl⟩) | (with_reducible refine HS.out.mono ?_; rintro e w' ⟨rfl, rfl⟩) | (with_reducible refine HT.out.mono ?_; rintro e w' ⟨rfl, rfl⟩)))
  go_ret
  exact ⟨retB (by rw [HG.out]; rfl), rfl⟩
end Go.Proofs.YtnemdnidlbekbaaGreatDoor
namespace Go.Proofs.YtnemdnidlbekbaaGreatDoor
open Go.RowKit
set_option linter.unusedVariables false

/-- The slice at a lies below block B. -/
def Lo (B : Nat) (a : Option Addr) (n : Nat) : Prop := n = 0 ∨ ∀ b o, a = some ⟨b, o, none⟩ → b < B
theorem Ls.below {B : Nat} {w w' : World} {a : Option Addr} {zs : List Int} (h : Ls w a zs) (hl : Lo B a zs.length) (hb : Below B w w') : Ls w' a zs := by
  rcases h with h | ⟨b, off, ha, hlt, hc⟩
  · exact .inl h
  · rcases hl with hl | hl
    · exact .inl (List.eq_nil_of_length_eq_zero hl)
    · exact .inr ⟨b, off, ha, Nat.lt_of_lt_of_le hlt hb.size, fun i hi => (hb.cell (p := ⟨b, off + i, none⟩) (hl b off ha)).trans (hc i hi)⟩
theorem Ls.only {B : Nat} {w w' : World} {a : Option Addr} {zs : List Int} (h : Ls w a zs) (hl : Lo B a zs.length) (ho : Only B w w') : Ls w' a zs := by
  rcases hl with hl | hl
  · exact .inl (List.eq_nil_of_length_eq_zero hl)
  · exact ho.ls h fun b o hb => by have := hl b o hb; omega
theorem Ls.lo {w : World} {a : Option Addr} {zs : List Int} (h : Ls w a zs) : Lo w.heap.size a zs.length := by
  rcases h with h | ⟨b, off, ha, hlt, hc⟩
  · left; rw [h]; rfl
  · right; intro b' o' hb'; rw [ha] at hb'; injection hb' with hb'; injection hb' with hb' _ _; omega
theorem Lo.mono {B B' : Nat} {a : Option Addr} {n : Nat} (h : Lo B a n) (hB : B ≤ B') : Lo B' a n := by
  rcases h with h | h
  · exact .inl h
  · exact .inr fun b o hb => by have := h b o hb; omega
theorem Fresh.only {B : Nat} {w w' w'' : World} {a : Option Addr} {zs : List Int} (h : Fresh w w' a zs) (ho : Only B w' w'') (hB : B < w.heap.size) : Fresh w w'' a zs := by
  rcases h with h | ⟨g, ha, hg, hl, h⟩
  · exact .inl h
  · exact .inr ⟨g, ha, hg, Nat.lt_of_lt_of_le hl ho.size, ho.wr h (by omega)⟩
theorem Fresh.drewN {w w' : World} {a : Option Addr} {zs : List Int} (h : Fresh w w' a zs) (n : Nat) : Fresh w (w'.drewN n) a zs := h.keep ((Keep.refl w').drewN n)

theorem ssL_len (rs : List R4) (v s t f n : Int) : (ssL rs v s t f n).length ≤ 12 := by
  cases h : ssOk rs v s t f n
  · rw [ssL_no h]; simp
  · have h2 := h
    simp only [ssOk, Bool.and_eq_true] at h2
    obtain ⟨_, _, _, m, rfl, _, hm⟩ := saB_facts h2.2
    obtain ⟨_, _, x, rfl, _⟩ := vrB_facts h2.1
    rw [ssL_yes h, serN_len]; exact hm
end Go.Proofs.YtnemdnidlbekbaaGreatDoor
namespace Go.Proofs.YtnemdnidlbekbaaGreatDoor
open Go.RowKit
set_option linter.unusedVariables false

/-- Reports in a block that is new since w. -/
def FrU (w w' : World) (a : Option Addr) (ys : List R2) : Prop := ys = [] ∨ ∃ g, a = some ⟨g, 0, none⟩ ∧ w.heap.size ≤ g ∧ g < w'.heap.size ∧ WrU w' g ys
theorem FrU.rr {w w' : World} {a : Option Addr} {ys : List R2} (h : FrU w w' a ys) : Rr w' a ys := by
  rcases h with h | ⟨g, rfl, _, _, h⟩
  · exact .inl h
  · exact h.rr
theorem FrU.keep {w w' w'' : World} {a : Option Addr} {ys : List R2} (h : FrU w w' a ys) (k : Keep w' w'') : FrU w w'' a ys := by
  rcases h with h | ⟨g, ha, hg, hl, h⟩
  · exact .inl h
  · exact .inr ⟨g, ha, hg, Nat.lt_of_lt_of_le hl k.size, h.keep k⟩
theorem flatU_len : ∀ rs : List R2, (flatU rs).length = rs.length * 2
  | [] => rfl
  | r :: rs => by
    have h := flatU_len rs
    unfold flatU at *
    rw [List.flatMap_cons, List.length_append, h]
    simp [uc]; omega
theorem flatU_app (rs qs : List R2) : flatU (rs ++ qs) = flatU rs ++ flatU qs := by simp [flatU]
theorem flatU_one (r : R2) : flatU [r] = uc r := by simp [flatU]
theorem flatU_at : ∀ (rs : List R2) (i t : Nat), i < rs.length → t < 2 → (flatU rs)[i * 2 + t]? = (uc (rs.getD i u0))[t]?
  | [], _, _, h, _ => by cases h
  | r :: rs, 0, t, _, ht => by
    have e : flatU (r :: rs) = uc r ++ flatU rs := by simp [flatU]
    rw [e, List.getElem?_append_left (by simp [uc]; omega)]
    simp
  | r :: rs, i + 1, t, h, ht => by
    have e : flatU (r :: rs) = uc r ++ flatU rs := by simp [flatU]
    have h1 : i < rs.length := by simpa using h
    rw [e, List.getElem?_append_right (by simp [uc]; omega)]
    have e2 : (i + 1) * 2 + t - (uc r).length = i * 2 + t := by simp [uc]; omega
    rw [e2, flatU_at rs i t h1 ht]
    simp
theorem at2_of {w : World} {b o : Nat} {r : R2} (h : ∀ t, t < 2 → w.cell? ⟨b, o + t, none⟩ = (uc r)[t]?) : At2 w b o r :=
  ⟨(h 0 (by omega)).trans rfl, (h 1 (by omega)).trans rfl⟩
theorem At2.uc_at {w : World} {b o : Nat} {r : R2} (h : At2 w b o r) (t : Nat) (ht : t < 2) : w.cell? ⟨b, o + t, none⟩ = (uc r)[t]? := by
  have h4 : t = 0 ∨ t = 1 := by omega
  rcases h4 with rfl | rfl
  · exact h.s
  · exact h.d
/-- The cells of a slice of reports, to be appended. -/
theorem news_rr {w : World} {b off : Nat} {rs : List R2} (h : Rr w (some ⟨b, off, none⟩) rs) : ∀ j u, (flatU rs)[j]? = some u → w.cell? ((⟨b, off, none⟩ : Addr).add j) = some u := by
  intro j u hj
  have hl : j < rs.length * 2 := by
    rw [← flatU_len]
    exact (List.getElem?_eq_some_iff.1 hj).1
  rcases h with h | ⟨b', off', he, _, h⟩
  · subst h; simp [flatU] at hj
  · simp only [Option.some.injEq, Addr.mk.injEq, and_true] at he
    obtain ⟨rfl, rfl⟩ := he
    have e : j = j / 2 * 2 + j % 2 := by omega
    rw [e, flatU_at rs _ _ (by omega) (by omega)] at hj
    have h1 := (h (j / 2) (by omega)).uc_at (j % 2) (by omega)
    rw [hj] at h1
    have e2 : (⟨b, off, none⟩ : Addr).add j = ⟨b, off + j, none⟩ := Addr.add_lit b off j
    have e3 : off + j = off + j / 2 * 2 + j % 2 := by omega
    rw [e2, e3]; exact h1
theorem newsU_one {w : World} {b1 : Nat} {r : R2} (h : At2 w b1 0 r) : ∀ j u, (uc r)[j]? = some u → w.cell? ((⟨b1, 0, none⟩ : Addr).add j) = some u := by
  have hR : Rr w (some ⟨b1, 0, none⟩) [r] := .inr ⟨b1, 0, rfl, World.block_lt_of_cell? w _ h.s, fun i hi => by
    obtain rfl : i = 0 := by simpa using hi
    exact h⟩
  have h2 := news_rr hR
  rw [flatU_one] at h2
  exact h2
theorem uc_one (r : R2) : ∀ u ∈ uc r, u.oneCell' = true := by
  intro u hu
  simp only [uc, List.mem_cons, List.not_mem_nil, or_false] at hu
  obtain rfl | rfl := hu <;> rfl
theorem flatU_cells {rs : List R2} : ∀ u ∈ flatU rs, u.oneCell' = true := by
  intro u hu
  simp only [flatU, List.mem_flatMap, uc, List.mem_cons, List.not_mem_nil, or_false] at hu
  obtain ⟨r, _, rfl | rfl⟩ := hu <;> rfl
theorem own_capU {w : World} {base e size g n c : Nat} {xs : List Value} (h : w.ownsRow base e size (.slice (some ⟨g, 0, none⟩) n c) n xs) : n ≤ c := by
  rcases h.2 with ⟨h', _⟩ | ⟨g', cap', cur, h', _, _, h2, _⟩
  · simp at h'
  · simp only [Value.slice.injEq, Option.some.injEq, Addr.mk.injEq, and_true, true_and] at h'
    obtain ⟨rfl, rfl⟩ := h'
    exact h2
/-- What a row of one's own holds may be written. -/
theorem wrU_own {w : World} {base g n c : Nat} {ys : List R2} (h : w.ownsRow base 118 2 (.slice (some ⟨g, 0, none⟩) n c) n (flatU ys)) (hn : n = ys.length) : WrU w g ys := by
  subst hn
  intro j hj
  refine ⟨at2_of fun t ht => ?_, ⟨World.ownsRow.frozenAt h _, World.ownsRow.frozenAt h _⟩⟩
  rw [World.ownsRow.cellAt h _ (by omega), flatU_at ys j t hj ht]

theorem Rr.below {B : Nat} {w w' : World} {a : Option Addr} {rs : List R2} (h : Rr w a rs) (hl : Lo B a rs.length) (hb : Below B w w') : Rr w' a rs := by
  rcases h with h | ⟨b, off, ha, hlt, hc⟩
  · exact .inl h
  · rcases hl with hl | hl
    · exact .inl (List.eq_nil_of_length_eq_zero hl)
    · exact .inr ⟨b, off, ha, Nat.lt_of_lt_of_le hlt hb.size, fun i hi => (hc i hi).same fun j => hb.cell (p := ⟨b, j, none⟩) (hl b off ha)⟩
theorem Rr.lo {w : World} {a : Option Addr} {rs : List R2} (h : Rr w a rs) : Lo w.heap.size a rs.length := by
  rcases h with h | ⟨b, off, ha, hlt, hc⟩
  · left; rw [h]; rfl
  · right; intro b' o' hb'; rw [ha] at hb'; injection hb' with hb'; injection hb' with hb' _ _; omega
theorem Rr.onlyLo {B : Nat} {w w' : World} {a : Option Addr} {rs : List R2} (h : Rr w a rs) (hl : Lo B a rs.length) (ho : Only B w w') : Rr w' a rs := by
  rcases h with h | ⟨b, off, ha, hlt, hc⟩
  · exact .inl h
  · rcases hl with hl | hl
    · exact .inl (List.eq_nil_of_length_eq_zero hl)
    · have hne : b < B := hl b off ha
      exact .inr ⟨b, off, ha, Nat.lt_of_lt_of_le hlt ho.size, fun i hi => (hc i hi).same fun j => ho.cell b j hlt (by omega)⟩
theorem FrU.mono {w0 w w' : World} {a : Option Addr} {ys : List R2} (h : FrU w w' a ys) (hs : w0.heap.size ≤ w.heap.size) : FrU w0 w' a ys := by
  rcases h with h | ⟨g, ha, hg, hl, h⟩
  · exact .inl h
  · exact .inr ⟨g, ha, Nat.le_trans hs hg, hl, h⟩
theorem FrU.only {B : Nat} {w w' w'' : World} {a : Option Addr} {ys : List R2} (h : FrU w w' a ys) (ho : Only B w' w'') (hB : B < w.heap.size) : FrU w w'' a ys := by
  rcases h with h | ⟨g, ha, hg, hl, h⟩
  · exact .inl h
  · refine .inr ⟨g, ha, hg, Nat.lt_of_lt_of_le hl ho.size, fun j hj => ?_⟩
    obtain ⟨h1, h2⟩ := h j hj
    exact ⟨h1.same fun i => ho.cell g i hl (by omega), ⟨(ho.frozen g _ hl (by omega)).trans h2.f0, (ho.frozen g _ hl (by omega)).trans h2.f1⟩⟩
theorem FrU.drewN {w w' : World} {a : Option Addr} {ys : List R2} (h : FrU w w' a ys) (n : Nat) : FrU w (w'.drewN n) a ys := h.keep ((Keep.refl w').drewN n)

/-- A slice value that owns the sites ts. -/
def OwnU (w : World) (base : Nat) (v : Value) (ts : List R2) : Prop := w.ownsRow base 118 2 v ts.length (flatU ts)
theorem OwnU.only {w w' : World} {base B : Nat} {v : Value} {ts : List R2} (h : OwnU w base v ts) (ho : Only B w w') (hB : B < base) : OwnU w' base v ts := by
  refine World.ownsRow.kept h ho ?_
  cases hv : v.ownBlock with
  | none => left; rfl
  | some k => right; have := h.lt k hv; intro e; injection e with e; omega
theorem OwnU.keep {w w' : World} {base : Nat} {v : Value} {ts : List R2} (h : OwnU w base v ts) (k : Keep w w') : OwnU w' base v ts := by
  refine World.ownsRow.kept h (⟨Below.os k, Below.tape k, Below.output k, Below.size k, fun i hi _ => Below.block k i hi⟩ : w.grownBy w' none) ?_
  cases hv : v.ownBlock with
  | none => left; rfl
  | some k => right; simp
theorem OwnU.form {w : World} {base : Nat} {v : Value} {ts : List R2} (h : OwnU w base v ts) (h0 : 0 < ts.length) :
    ∃ g c, v = .slice (some ⟨g, 0, none⟩) ts.length c ∧ ts.length ≤ c ∧ base ≤ g ∧ g < w.heap.size ∧ WrU w g ts := by
  obtain ⟨g, c, hv, hb, hl⟩ := World.ownsRow.form h h0
  subst hv
  exact ⟨g, c, rfl, own_capU h, hb, hl, wrU_own h rfl⟩
theorem OwnU.slice {w : World} {base : Nat} {v : Value} {ts : List R2} (h : OwnU w base v ts) : ∃ a c, v = .slice a ts.length c ∧ ts.length ≤ c ∧ Rr w a ts := by
  rcases Nat.eq_zero_or_pos ts.length with h0 | h0
  · rcases id h.2 with ⟨hv, _⟩ | ⟨g, cap, cur, hv, _⟩
    · exact ⟨none, 0, by rw [hv, h0], by omega, .inl (List.eq_nil_of_length_eq_zero h0)⟩
    · exact ⟨_, _, hv, by omega, .inl (List.eq_nil_of_length_eq_zero h0)⟩
  · obtain ⟨g, c, hv, hc, _, _, hW⟩ := h.form h0
    exact ⟨_, c, hv, hc, hW.rr⟩
theorem OwnU.made (w : World) : OwnU (w.alloc (.cells #[] 118)) w.heap.size (.slice (some ⟨w.heap.size, 0, none⟩) 0 0) [] :=
  World.ownsRow_made w #[] 0 (Nat.le_refl _) (by unfold maxLen; omega) rfl
def mk2 (k : Nat) : R2 := (1 + 2 * (k : Int), 1 + 2 * (k : Int) + 1)
end Go.Proofs.YtnemdnidlbekbaaGreatDoor
namespace Go.Proofs.YtnemdnidlbekbaaGreatDoor
open Go.RowKit
set_option linter.unusedVariables false

theorem wpStill_hideG {P : Program} {ops : Array Oper} {w : World} {Q : Act → Prop} {l : List Oper} {a : Act} (h : ∀ T : Act → Prop, Hid (∀ a, Q a → T a) → wpStill P ops w T l a) : wpStill P ops w Q l a :=
  h Q (Lib.hid (fun _ h => h))

theorem abs_world {P : World → Prop} {w : World} (Q : World → Prop) (hQ : Q w) (h : ∀ w', Q w' → P w') : P w := h w hQ
theorem gLo_ub {zs : List Int} (h : sqB zs = true) {lo st : Int} (hl : lo ≤ 12000) (h0 : 0 ≤ st) (i : Nat) : ∀ k, k ≤ zs.length → gLo zs lo st i k ≤ 12000
  | 0, _ => hl
  | k + 1, hk => by
    have ih := gLo_ub h hl h0 i k (by omega)
    have hz := sq_at h (show k < zs.length by omega)
    have hf := gFar_nn (i := k) (j := i) h0
    simp only [gLo]; split <;> omega
theorem gHi_lb {zs : List Int} (h : sqB zs = true) {hi st : Int} (hl : -12000 ≤ hi) (h0 : 0 ≤ st) (i : Nat) : ∀ k, k ≤ zs.length → -12000 ≤ gHi zs hi st i k
  | 0, _ => hl
  | k + 1, hk => by
    have ih := gHi_lb h hl h0 i k (by omega)
    have hz := sq_at h (show k < zs.length by omega)
    have hf := gFar_nn (i := k) (j := i) h0
    simp only [gHi]; split <;> omega
theorem gFar_max (k i : Nat) (st : Int) : max ((k : Int) - (i : Int)) ((i : Int) - (k : Int)) * st = gFar k i st := by
  unfold gFar; congr 1; split <;> omega
/-- The block at the end of w can be written: two cells. -/
def HTP (w wr : World) : Prop := wr.frozen? ⟨w.heap.size, 0, none⟩ = false ∧ wr.frozen? ⟨w.heap.size, 1, none⟩ = false ∧ (∃ v, wr.cell? ⟨w.heap.size, 0, none⟩ = some v) ∧ ∃ v, wr.cell? ⟨w.heap.size, 1, none⟩ = some v
theorem HTP.put {w wr : World} {b o : Nat} (h : HTP w wr) (hb : b ≠ w.heap.size) (u : Value) : HTP w (wr.setCell ⟨b, o, none⟩ u) := by
  obtain ⟨h0, h1, ⟨v0, h2⟩, ⟨v1, h3⟩⟩ := h
  refine ⟨by rw [World.frozen?_setCell]; exact h0, by rw [World.frozen?_setCell]; exact h1, ⟨v0, ?_⟩, ⟨v1, ?_⟩⟩
  · rw [World.cell?_setCell_other _ _ _ _ (by simp only [ne_eq, Addr.mk.injEq]; omega)]; exact h2
  · rw [World.cell?_setCell_other _ _ _ _ (by simp only [ne_eq, Addr.mk.injEq]; omega)]; exact h3
theorem HTP.drew {w wr : World} (h : HTP w wr) : HTP w wr.drew := h
set_option maxRecDepth 100000 in
set_option maxHeartbeats 2000000 in
theorem gr_spec (a : Option Addr) (cap : Nat) (zs : List Int) (lo hi st : Int) (i : Nat) (w : World) (h : Ls w a zs) (hg : gaB zs lo hi st = true) (hi' : i < zs.length) :
    Calls Tryz.prog 112 #[.slice a zs.length cap, .int .i64 lo, .int .i64 hi, .int .i64 st, .int .i64 (i : Int)] w fun e w' => e = .returned (.agg #[.int .i64 (gL zs lo st i), .int .i64 (gH zs hi st i)]) ∧ Keep w w' := by
  obtain ⟨hsq, ⟨hlo, hhi⟩, hlh, hst0, hst1⟩ := gaB_facts hg
  have hl12 := (sq_facts hsq).2.2
  have HSQ := Lib.hid hsq
  clear hg hsq
  go_enter Tryz.func112, Tryz.ntmps112
  go_wp2_with fail
  go_loopw [12, 13] (fun q f wr => ∃ k : Nat, k ≤ zs.length ∧ q = .int .i64 k ∧ wr.cell? ⟨w.heap.size + 1, 0, none⟩ = some (.int .i64 (gLo zs lo st i k)) ∧ wr.cell? ⟨w.heap.size + 1, 1, none⟩ = some (.int .i64 (gHi zs hi st i k)) ∧ wr.frozen? ⟨w.heap.size + 1, 0, none⟩ = false ∧ wr.frozen? ⟨w.heap.size + 1, 1, none⟩ = false ∧ Hid (HTP w wr) ∧ Keep w wr) (fun q _ _ => zs.length - (intOf q).toNat)
  case atStart => exact ⟨0, by omega, rfl, by go_simp; rfl, by go_simp; rfl, by go_simp, by go_simp, Lib.hid ⟨by go_simp, by go_simp, ⟨_, by go_simp; rfl⟩, ⟨_, by go_simp; rfl⟩⟩, ((Keep.refl w).alloc _).alloc _⟩
  case round =>
    obtain ⟨k, hk, rfl, o0, o1, f0, f1, HT, hK⟩ := hrel
    have hsz := hK.size
    have b0 := World.block_lt_of_cell? wr _ o0
    by_cases hlt : k < zs.length
    case' neg =>
      obtain rfl : k = zs.length := by omega
      obtain ⟨r0, r1, ⟨x0, c0⟩, ⟨x1, c1⟩⟩ := HT.out
      obtain ⟨x, hx⟩ : ∃ x, gL zs lo st i = x := ⟨_, rfl⟩
      obtain ⟨y, hy⟩ : ∃ y, gH zs hi st i = y := ⟨_, rfl⟩
      have HX := Lib.hid hx
      have HY := Lib.hid hy
      rw [show gLo zs lo st i zs.length = x from hx] at o0
      rw [show gHi zs hi st i zs.length = y from hy] at o1
      clear hx hy
      go_wp2_with fail
      refine bodyPost_ret (v := .agg #[.int .i64 x, .int .i64 y]) (by simp [results, Tryz.results112, go_sem, *]) rfl ⟨by rw [HX.out, HY.out], ?_⟩
      exact (hK.setCell (Nat.le_refl _) _).setCell (Nat.le_refl _) _
    obtain ⟨bz, oz, rfl, hbz, hcz⟩ := h.at_ hlt
    have cz := hK.cell hcz
    clear hcz
    have hd := gFar_bd (i := k) (j := i) (st := st) (by omega) (by omega) (by omega) (by omega)
    have HF := gFar_max k i st
    have hlo' := gLo_ge zs lo st i k
    have hhi' := gHi_le zs hi st i k
    by_cases hx : zs.getD k 0 = -9999
    · have HS := Lib.hid (And.intro (gLo_none (lo := lo) (st := st) (i := i) hx) (gHi_none (hi := hi) (st := st) (i := i) hx))
      rw [← HS.out.1] at o0
      rw [← HS.out.2] at o1
      rw [hx] at cz
      clear hx
      go_wp2_with fail
      go_roundw
      case rel => exact ⟨k + 1, by omega, by go_num, o0, o1, f0, f1, HT, hK⟩
      case measure => simp [intOf]; omega
    · have hx2 : (zs.getD k 0 != -9999) = true := bne_iff_ne.2 hx
      have hzb := sq_at HSQ.out hlt
      have HS := Lib.hid (And.intro (gLo_some (lo := lo) (st := st) (i := i) hx) (gHi_some (hi := hi) (st := st) (i := i) hx))
      have hub := And.intro (gLo_ub HSQ.out (show lo ≤ 12000 by omega) hst0 i k (by omega)) (gHi_lb HSQ.out (show -12000 ≤ hi by omega) hst0 i k (by omega))
      obtain ⟨F, hF⟩ : ∃ F, gFar k i st = F := ⟨_, rfl⟩
      have HI : Hid (k ≤ i → wrap64 (((i : Int) - (k : Int)) * st) = F) := Lib.hid (fun hki => by
        have e : ((i : Int) - (k : Int)) * st = F := by rw [← hF, ← gFar_max]; congr 1; omega
        rw [e]; exact IntWalk.wrap64_in _ (by omega))
      have HJ : Hid (i ≤ k → wrap64 (((k : Int) - (i : Int)) * st) = F) := Lib.hid (fun hki => by
        have e : ((k : Int) - (i : Int)) * st = F := by rw [← hF, ← gFar_max]; congr 1; omega
        rw [e]; exact IntWalk.wrap64_in _ (by omega))
      have HMx : Hid (wrap64 (max ((k : Int) - (i : Int)) ((i : Int) - (k : Int)) * st) = F) := Lib.hid (by rw [gFar_max, hF]; exact IntWalk.wrap64_in _ (by omega))
      rw [hF] at HS hd
      clear hx HF hF
      generalize gLo zs lo st i k = x at *
      generalize gHi zs hi st i k = y at *
      generalize zs.getD k 0 = z at *
      have s1 : IntKind.i64.wrap (z - F) = z - F := IntWalk.i64_in _ (by omega)
      have s2 : IntKind.i64.wrap (z + F) = z + F := IntWalk.i64_in _ (by omega)
      have kz : (k : Int) < (zs.length : Int) := by omega
      have k0 : (0 : Int) ≤ (k : Int) := by omega
      go_wp2_with fail
      all_goals
        first | rw [HMx.out] | rw [HI.out (by omega)] | rw [HJ.out (by omega)]
        refine wp_region_still_tail 10 (by kernel_rfl) (by kernel_rfl) ?_
        simp only [List.take_succ_cons, List.take_zero, List.drop_succ_cons, List.drop_zero]
        change wpStill _ _ wr.drew _ _ _
        refine wpStill_hideG (fun T hT => ?_)
        repeat still_step
        refine wpStill_nil ?_
        refine hT.out _ ?_
        clear hT
        change wpList _ _ _ _ _ wr.drew
        go_wp2_with fail
        all_goals
          refine @abs_world (fun wq => Code.wp _ _ _ _ wq) _ (fun wq => wq.cell? ⟨w.heap.size + 1, 0, none⟩ = some (.int .i64 (max x (z - F))) ∧ wq.cell? ⟨w.heap.size + 1, 1, none⟩ = some (.int .i64 y) ∧ wq.cell? ⟨bz, oz + k, none⟩ = some (.int .i64 z) ∧ wq.frozen? ⟨w.heap.size + 1, 0, none⟩ = false ∧ wq.frozen? ⟨w.heap.size + 1, 1, none⟩ = false ∧ Hid (HTP w wq) ∧ Keep w wq) ⟨?_, ?_, ?_, ?_, ?_, ?_, ?_⟩ ?_
          case refine_1 => first | (go_simp; done) | (go_simp; split <;> omega) | (go_simp; congr 1; omega) | (go_simp; omega)
          case refine_2 => go_simp
          case refine_3 => go_simp
          case refine_4 => go_simp
          case refine_5 => go_simp
          case refine_6 => exact Lib.hid (HT.out.put (by omega) _).drew
          case refine_7 => exact (hK.setCell (by omega) _).drew
          rintro wq ⟨p0, p1, pz, q0, q1, HT2, hK2⟩
          refine wp_region_still_tail 10 (by kernel_rfl) (by kernel_rfl) ?_
          simp only [List.take_succ_cons, List.take_zero, List.drop_succ_cons, List.drop_zero]
          change wpStill _ _ wq.drew _ _ _
          refine wpStill_hideG (fun T hT => ?_)
          repeat still_step
          refine wpStill_nil ?_
          refine hT.out _ ?_
          clear hT
          change wpList _ _ _ _ _ wq.drew
          go_wp2_with fail
          all_goals
            go_roundw
            case rel => exact ⟨k + 1, by omega, by go_num, by rw [HS.out.1]; go_simp, by rw [HS.out.2]; first | (go_simp; done) | (go_simp; split <;> omega) | (go_simp; congr 1; omega) | (go_simp; omega), by go_simp, by go_simp, Lib.hid (HT2.out.put (by omega) _).drew, (hK2.setCell (by omega) _).drew⟩
            case measure => simp [intOf]; omega
end Go.Proofs.YtnemdnidlbekbaaGreatDoor
namespace Go.Proofs.YtnemdnidlbekbaaGreatDoor
open Go.RowKit
set_option linter.unusedVariables false

/-- What FillOf answers. -/
def GpPost (zs : List Int) (lo hi st : Int) (w : World) (e : Ending) (w' : World) : Prop :=
  ∃ (a : Option Addr) (c : Nat), e = .returned (.tuple #[.slice a (gRL zs lo hi st).length c, .bool (gOk zs lo hi st)]) ∧ (gRL zs lo hi st).length ≤ c ∧ FrU w w' a (gRL zs lo hi st) ∧ Keep w w'
theorem gp_no {zs : List Int} {lo hi st : Int} {w w' : World} (h : gOk zs lo hi st = false) (a : Option Addr) (c : Nat) (k : Keep w w') : GpPost zs lo hi st w (.returned (.tuple #[.slice a 0 c, .bool false])) w' := by
  have e := gRL_no h
  refine ⟨a, c, ?_, ?_, .inl e, k⟩
  · rw [e, h]; rfl
  · rw [e]; exact Nat.zero_le _
theorem gOk_1 {zs : List Int} {lo hi st : Int} (h : gaB zs lo hi st = false) : gOk zs lo hi st = false := by rw [gOk, h]; rfl
theorem gOk_2 {zs : List Int} {lo hi st : Int} {i : Nat} (hi' : i < zs.length) (h : gH zs hi st i < gL zs lo st i) : gOk zs lo hi st = false := by rw [gOk, gAll_no hi' h, Bool.and_false]
theorem gOk_3 {zs : List Int} {lo hi st : Int} (h : gaB zs lo hi st = true) (h2 : ∀ i, i < zs.length → gL zs lo st i ≤ gH zs hi st i) : gOk zs lo hi st = true := by rw [gOk, h, gAll_yes h2]; rfl
/-- The first k ranges. -/
def gRp (zs : List Int) (lo hi st : Int) (k : Nat) : List R2 := (List.range k).map fun i => (gL zs lo st i, gH zs hi st i)
theorem gRp_len (zs : List Int) (lo hi st : Int) (k : Nat) : (gRp zs lo hi st k).length = k := by simp [gRp]
theorem gRp_succ (zs : List Int) (lo hi st : Int) (k : Nat) : gRp zs lo hi st (k + 1) = gRp zs lo hi st k ++ [(gL zs lo st k, gH zs hi st k)] := by simp [gRp, List.range_succ]
theorem gRp_all (zs : List Int) (lo hi st : Int) : gRp zs lo hi st zs.length = gRl zs lo hi st := rfl
theorem gRl_at {zs : List Int} {lo hi st : Int} {i : Nat} (h : i < zs.length) : (gRl zs lo hi st).getD i u0 = (gL zs lo st i, gH zs hi st i) := by
  simp [gRl, List.getD_eq_getElem?_getD, h]
theorem gp_own {zs : List Int} {lo hi st : Int} {w w' : World} {base n c : Nat} {x : Option Addr} (h : OwnU w' base (.slice x n c) (gRl zs lo hi st)) (hok : gOk zs lo hi st = true) (hn : n = zs.length) (hb : w.heap.size ≤ base) (k : Keep w w') : GpPost zs lo hi st w (.returned (.tuple #[.slice x n c, .bool true])) w' := by
  have e := gRL_yes hok
  subst hn
  obtain ⟨a', c', hv, hc, hR⟩ := h.slice
  injection hv with e1 _ e3
  subst e1
  subst e3
  refine ⟨x, c, ?_, ?_, ?_, k⟩
  · rw [e, hok, gRl_len]
  · rw [e]; exact hc
  · rw [e]
    rcases Nat.eq_zero_or_pos (gRl zs lo hi st).length with h0 | h0
    · exact .inl (List.eq_nil_of_length_eq_zero h0)
    · obtain ⟨g, c2, hv2, _, hg, hl, hW⟩ := h.form h0
      injection hv2 with e1 _ _
      subst e1
      exact .inr ⟨g, rfl, by omega, hl, hW⟩
theorem infoRngG : (Tryz.prog.info? 118).map (fun i => (i.zero, i.size, i.bytes)) = some (some (.agg #[.int .i64 0, .int .i64 0]), 2, 16) := by kernel_rfl
set_option maxRecDepth 100000 in
set_option maxHeartbeats 2000000 in
theorem fi_spec (a : Option Addr) (cap : Nat) (zs : List Int) (lo hi st : Int) (w : World) (h : Ls w a zs) (hm : zs.length ≤ 4611686018427387904) :
    Calls Tryz.prog 84 #[.slice a zs.length cap, .int .i64 lo, .int .i64 hi, .int .i64 st] w (GpPost zs lo hi st w) := by
  obtain ⟨i0, hi0, hz0, hz1, hz2⟩ := info_parts infoRngG
  have HG := Lib.hid (ga_spec a cap zs lo hi st w h hm)
  obtain ⟨g, hg⟩ : ∃ g, gaB zs lo hi st = g := ⟨_, rfl⟩
  have HG2 := Lib.hid hg
  rw [hg] at HG
  cases g
  · have HF := Lib.hid (gOk_1 hg)
    clear hg
    go_enter Tryz.func84, Tryz.ntmps84
    go_wp2_with (go_at_call 111; refine HG.out.mono ?_; rintro e w' ⟨rfl, rfl⟩)
    go_ret2
    exact gp_no HF.out _ _ ((Keep.refl _).alloc _)
  obtain ⟨hsq, ⟨hlo, hhi⟩, hlh, hst0, hst1⟩ := gaB_facts hg
  have hl12 := (sq_facts hsq).2.2
  have HR := Lib.hid (fun (i : Nat) (hi' : i < zs.length) W (k : Keep w W) => gr_spec a cap zs lo hi st i W (h.keep k) hg hi')
  clear hg hsq
  go_enter Tryz.func84, Tryz.ntmps84
  go_wp2_with (go_at_call 111; refine HG.out.mono ?_; rintro e w' ⟨rfl, rfl⟩)
  go_loopw [10, 11, 12] (fun u i r wr => ∃ (k : Nat) (x : Option Addr) (cx : Nat), k ≤ zs.length ∧ i = .int .i64 k ∧ u = .slice x k cx ∧ Hid (∀ j, j < k → gL zs lo st j ≤ gH zs hi st j) ∧ Hid (OwnU wr w.heap.size (.slice x k cx) (gRp zs lo hi st k)) ∧ Keep w wr) (fun _ i _ _ => zs.length - (intOf i).toNat)
  case atStart => exact ⟨0, _, _, by omega, rfl, rfl, Lib.hid (fun j hj => absurd hj (by omega)), Lib.hid (OwnU.made w), (Keep.refl w).alloc _⟩
  case round =>
    obtain ⟨k, x, cx, hk, rfl, rfl, HA, HO, hK⟩ := hrel
    have hsz := hK.size
    by_cases hlt : k < zs.length
    case' neg =>
      obtain rfl : k = zs.length := by omega
      have HF := Lib.hid (gp_own HO.out (gOk_3 HG2.out HA.out) rfl (Nat.le_refl _) hK)
      go_wp2
      go_ret2
      exact HF.out
    have HC := Lib.hid (HR.out k hlt _ hK)
    have HS := Lib.hid (gRp_succ zs lo hi st k)
    by_cases hb : gL zs lo st k ≤ gH zs hi st k
    case' neg =>
      have HF := Lib.hid (gOk_2 hlt (show gH zs hi st k < gL zs lo st k by omega))
      have d : decide (gH zs hi st k < gL zs lo st k) = true := decide_eq_true (by omega)
      generalize gL zs lo st k = p at *
      generalize gH zs hi st k = q at *
      go_wp2_with fail
      refine HC.out.mono ?_
      rintro e w1 ⟨rfl, k1⟩
      go_wp2
      go_ret2
      exact gp_no HF.out _ _ (((hK.trans k1).alloc _).alloc _)
    have HA2 : Hid (∀ j, j < k + 1 → gL zs lo st j ≤ gH zs hi st j) := Lib.hid (fun j hj => by
      by_cases e : j = k
      · rw [e]; exact hb
      · exact HA.out j (by omega))
    have d : decide (gH zs hi st k < gL zs lo st k) = false := decide_eq_false (by omega)
    generalize gL zs lo st k = p at *
    generalize gH zs hi st k = q at *
    go_wp2_with fail
    refine HC.out.mono ?_
    rintro e w1 ⟨rfl, k1⟩
    have hl := gRp_len zs lo hi st k
    have hO1 := HO.out.keep k1
    have hown : w1.ownsRow w.heap.size 118 2 (.slice x k cx) k (flatU (gRp zs lo hi st k)) := by
      have h9 := hO1
      unfold OwnU at h9
      rwa [hl] at h9
    have hK1 := hK.trans k1
    have hsz1 := hK1.size
    clear hO1 hl
    generalize gRp zs lo hi st k = L at *
    go_wp2_with (at_builtin; refine wpList_append_own _ rfl _ _ 114 rfl w.heap.size 118 i0 (.agg #[.int .i64 0, .int .i64 0]) 2 16 Tryz.underlying114 hi0 hz0 hz1 hz2 rfl (by decide) _ _ _ rfl ((hown.alloc _).alloc _) ⟨w1.heap.size + 1, 0, none⟩ 1 1 (uc (p, q)) rfl rfl ?c1a ?c2a ?c3a ?c4a ?c5a ?_)
    case c1a => exact newsU_one ⟨by first | (go_simp; done) | (go_simp; rfl), by first | (go_simp; done) | (go_simp; rfl)⟩
    case c2a => exact uc_one _
    case c3a => unfold maxLen; omega
    case c4a => omega
    case c5a => first | omega | (simp; omega)
    intro v' w4 hown' hgrow hnil
    have hrow : ∀ g', _ = some g' → w.heap.size ≤ g' := fun g' hg => (hown.lt g' hg).1
    have HN : Hid (w4.ownsRow w.heap.size 118 2 v' (k + 1) (flatU (gRp zs lo hi st (k + 1)))) := Lib.hid (by rw [HS.out, flatU_app, flatU_one]; exact hown')
    have HK2 := Lib.hid ((Below.grown ((hK1.alloc (.cells #[.int .i64 p, .int .i64 q] 118)).alloc (.cells #[.int .i64 p, .int .i64 q] 118)) hgrow ((hK1.alloc _).alloc _).size (fun q hq => (hown.lt q hq).1)) : Keep w w4)
    obtain ⟨g', c', rfl, hbg, hlg⟩ := hown'.form (by omega)
    have HN2 : Hid (OwnU w4 w.heap.size (.slice (some ⟨g', 0, none⟩) (k + 1) c') (gRp zs lo hi st (k + 1))) := Lib.hid (by unfold OwnU; rw [gRp_len]; exact HN.out)
    clear hown' hgrow hnil hown hrow HN
    go_wp2
    go_roundw
    case rel => exact ⟨k + 1, some ⟨g', 0, none⟩, c', by omega, by go_num, rfl, HA2, HN2, HK2.out⟩
    case measure => simp [intOf]; omega
end Go.Proofs.YtnemdnidlbekbaaGreatDoor
namespace Go.Proofs.YtnemdnidlbekbaaGreatDoor
open Go.RowKit
set_option linter.unusedVariables false

set_option maxHeartbeats 400000 in
theorem wid_any (a b st : Int) (w : World) (ha : -99999 ≤ a ∧ a ≤ 99999) (hb : -99999 ≤ b ∧ b ≤ 99999) (h0 : 0 ≤ st) (h1 : st ≤ 19999) :
    Calls Tryz.prog 141 #[.agg #[.int .i64 a, .int .i64 b], .int .i64 st] w fun e w' => e = .returned (.agg #[.int .i64 (a - st), .int .i64 (b + st)]) ∧ Keep w w' := by
  obtain ⟨a0, a1⟩ := ha
  obtain ⟨b0, b1⟩ := hb
  go_enter Tryz.func141, Tryz.ntmps141
  go_wp2
  refine bodyPost_ret (v := .agg #[.int .i64 (a - st), .int .i64 (b + st)]) (by simp [results, Tryz.results141, go_sem, *]) rfl ⟨rfl, ?_⟩
  exact ((Keep.refl w).alloc _).alloc _
theorem meet_yes (a b c d : Int) (w : World) (h1 : -99999 ≤ a ∧ b ≤ 99999) (h2 : -99999 ≤ c ∧ d ≤ 99999) (hab : a ≤ b) (hcd : c ≤ d) (h3 : a ≤ d ∧ c ≤ b) :
    Calls Tryz.prog 140 #[.agg #[.int .i64 a, .int .i64 b], .agg #[.int .i64 c, .int .i64 d]] w fun e w' => e = .returned (.tuple #[.agg #[.int .i64 (max a c), .int .i64 (min b d)], .bool true]) ∧ Keep w w' := by
  have e : mOk a b c d = true := by
    rw [mOk, rgOk_mk ⟨h1.1, hab, h1.2⟩, rgOk_mk ⟨h2.1, hcd, h2.2⟩, decide_eq_true h3.1, decide_eq_true h3.2]; rfl
  have h := mOk_impl a b c d w
  rw [mLo, mHi, e, if_pos rfl, if_pos rfl] at h
  exact h
/-- Below block 'base' only block P has turned. -/
structure Ot (P base : Nat) (w w' : World) : Prop where
  os : w'.os = w.os
  tape : w'.tape = w.tape
  output : w'.output = w.output
  size : w.heap.size ≤ w'.heap.size
  block : ∀ k, k < w.heap.size → k < base → k ≠ P → w'.heap[k]? = w.heap[k]?
theorem Ot.refl (P base : Nat) (w : World) : Ot P base w w := ⟨rfl, rfl, rfl, Nat.le_refl _, fun _ _ _ _ => rfl⟩
theorem Ot.trans {P base : Nat} {a b c : World} (h : Ot P base a b) (k : Ot P base b c) : Ot P base a c :=
  ⟨k.os.trans h.os, k.tape.trans h.tape, k.output.trans h.output, Nat.le_trans h.size k.size, fun i hi h1 h2 => (k.block i (Nat.lt_of_lt_of_le hi h.size) h1 h2).trans (h.block i hi h1 h2)⟩
theorem Keep.ot {P base : Nat} {w w' : World} (h : Keep w w') : Ot P base w w' := ⟨Below.os h, Below.tape h, Below.output h, Below.size h, fun i hi _ _ => Below.block h i hi⟩
theorem Ot.keep {P base : Nat} {w0 w w' : World} (h : Ot P base w w') (k : Keep w0 w) (h1 : w0.heap.size ≤ P) (h2 : w0.heap.size ≤ base) : Keep w0 w' :=
  Only.keep (B := P) (w := w0) ⟨(h.os.trans (Below.os k)), (h.tape.trans (Below.tape k)), (h.output.trans (Below.output k)), Nat.le_trans k.size h.size, fun i hi _ => (h.block i (Nat.lt_of_lt_of_le hi k.size) (by omega) (by omega)).trans (Below.block k i hi)⟩ (Keep.refl w0) h1
theorem Ot.cell {P base : Nat} {w w' : World} (h : Ot P base w w') {b o : Nat} {v : Value} (hc : w.cell? ⟨b, o, none⟩ = some v) (h1 : b < base) (h2 : b ≠ P) : w'.cell? ⟨b, o, none⟩ = some v :=
  (World.cell?_of_block (w := w) (h.block b (World.block_lt_of_cell? w _ hc) h1 h2)).trans hc
theorem Ot.still {P base : Nat} {w w' : World} (h : Ot P base w w') {b o : Nat} {v : Value} {x : Bool} (hc : w.cell? ⟨b, o, none⟩ = some v) (hf : w.frozen? ⟨b, o, none⟩ = x) (h1 : b < base) (h2 : b ≠ P) : w'.frozen? ⟨b, o, none⟩ = x :=
  (World.frozen?_of_block (w := w) (h.block b (World.block_lt_of_cell? w _ hc) h1 h2)).trans hf
theorem Ot.setCell {P base o : Nat} {a w : World} (h : Ot P base a w) (u : Value) : Ot P base a (w.setCell ⟨P, o, none⟩ u) :=
  ⟨h.os, h.tape, h.output, by have := h.size; simpa [World.setCell] using this, fun k hk hb hne => (Below.heap_setCell _ _ _ _ (by intro e; exact hne (by rw [e]))).trans (h.block k hk hb hne)⟩
theorem Ot.grown {P base : Nat} {a w w' : World} {row : Option Nat} (h : Ot P base a w) (hg : w.grownBy w' row) (hr : ∀ g, row = some g → base ≤ g) : Ot P base a w' :=
  ⟨hg.os.trans h.os, hg.tape.trans h.tape, hg.output.trans h.output, Nat.le_trans h.size hg.size, fun k hk hb hne => (hg.block k (Nat.lt_of_lt_of_le hk h.size) (fun e => by have := hr k e.symm; omega)).trans (h.block k hk hb hne)⟩
theorem step_app_ownU {P : Program} {w : World} {ops : Array Oper} {o : Oper} {a : Act} {K : Act → World → Prop} {Q : Exit → Act → World → Prop} {E : Prop} (hgd : o.guard = none) (s x : Operand) (t : TypeId)
    (ho : o.op = .call { callee := .builtin .append, args := #[s, x], argTypes := #[t, t] })
    (base : Nat) (e : TypeId) (i : TypeInfo) (z : Value) (size bytes : Nat) (ht : P.underlying t = some (.slice e)) (hi : P.info? e = some i) (hz : i.zero = some z)
    (hsize : i.size = size) (hby : i.bytes = bytes) (hzs : z.cells.size = size) (hsz : 0 < size)
    (v : Value) (n : Nat) (xs : List Value) (hs : a.eval s = v) (hown : w.ownsRow base e size v n xs)
    (ad : Addr) (m c : Nat) (news : List Value) (hx : a.eval x = .slice (some ad) m c) (hl : news.length = m * size) (hnews : ∀ j u, news[j]? = some u → w.cell? (ad.add j) = some u) (h1 : ∀ u ∈ news, u.oneCell' = true)
    (h63 : n + m ≤ maxLen) (hbytes : (n + m) * bytes ≤ 140737488355328) (hbase : base ≤ w.heap.size)
    (h : ∀ v' w', w'.ownsRow base e size v' (n + m) (xs ++ news) → w.grownBy w' v.ownBlock → K (a.put o.dst v') w') :
    if Region.wanted o (yielded ops a.tmps) = true then Oper.wp P o a w K Q else E := by
  have hw : Region.wanted o (yielded ops a.tmps) = true := by simp [Region.wanted, hgd]
  rw [if_pos hw]
  exact wp_append_own w s x t ho base e i z size bytes ht hi hz hsize hby hzs hsz v n xs hs hown ad m c news hx hl hnews h1 h63 hbytes hbase fun v' w' h2 h3 _ => h v' w' h2 h3
set_option maxRecDepth 100000 in
set_option maxHeartbeats 2000000 in
theorem push_any (P base : Nat) (v : Value) (p q : Int) (H : List R2) (w : World) (hc : w.cell? ⟨P, 0, none⟩ = some v) (hf : w.frozen? ⟨P, 0, none⟩ = false) (hO : OwnU w base v H) (hg : P < base) (hb : base ≤ w.heap.size) (hn : H.length ≤ 20) :
    Calls Tryz.prog 142 #[.pointer (some ⟨P, 0, none⟩), .agg #[.int .i64 p, .int .i64 q]] w fun e w' => e = .returned (.tuple #[]) ∧ ∃ g cap, w'.cell? ⟨P, 0, none⟩ = some (.slice (some ⟨g, 0, none⟩) (H.length + 1) cap) ∧ w'.frozen? ⟨P, 0, none⟩ = false ∧ OwnU w' base (.slice (some ⟨g, 0, none⟩) (H.length + 1) cap) (H ++ [(p, q)]) ∧ Ot P base w w' := by
  obtain ⟨i0, hi, hz0, hz1, hz2⟩ := info_parts infoRngG
  have hown : w.ownsRow base 118 2 v H.length (flatU H) := hO
  have hP := World.block_lt_of_cell? w _ hc
  have kA : Keep w (((w.alloc (.cells #[.int .i64 p, .int .i64 q] 118)).drew).alloc (.cells #[.int .i64 p, .int .i64 q] 118)) := (((Keep.refl w).alloc _).drew).alloc _
  have hOD : (((w.alloc (.cells #[.int .i64 p, .int .i64 q] 118)).drew).alloc (.cells #[.int .i64 p, .int .i64 q] 118)).ownsRow base 118 2 v H.length (flatU H) := hO.keep kA
  have hNW : ∀ j u, (uc (p, q))[j]? = some u → (((w.alloc (.cells #[.int .i64 p, .int .i64 q] 118)).drew).alloc (.cells #[.int .i64 p, .int .i64 q] 118)).cell? ((⟨w.heap.size + 1, 0, none⟩ : Addr).add j) = some u := by
    intro j u hj
    rw [Addr.add_lit, Nat.zero_add, show (⟨w.heap.size + 1, j, none⟩ : Addr) = ⟨(w.alloc (.cells #[.int .i64 p, .int .i64 q] 118)).drew.heap.size, j, none⟩ by simp, World.cell?_alloc_new, ← hj]
    simp [uc, uL, uH]
  have hBs : base ≤ (((w.alloc (.cells #[.int .i64 p, .int .i64 q] 118)).drew).alloc (.cells #[.int .i64 p, .int .i64 q] 118)).heap.size := by simp; omega
  have h63 : H.length + 1 ≤ maxLen := by unfold maxLen; omega
  have hby : (H.length + 1) * 16 ≤ 140737488355328 := by omega
  have cA := kA.cell hc
  have fA := kA.still hc hf
  have hPA : P < (((w.alloc (.cells #[.int .i64 p, .int .i64 q] 118)).drew).alloc (.cells #[.int .i64 p, .int .i64 q] 118)).heap.size := Nat.lt_of_lt_of_le hP kA.size
  have hne : some P ≠ v.ownBlock := fun e => by have := (hown.lt P e.symm).1; omega
  have HK0 : Hid (∀ (wF : World), (((w.alloc (.cells #[.int .i64 p, .int .i64 q] 118)).drew).alloc (.cells #[.int .i64 p, .int .i64 q] 118)).grownBy wF v.ownBlock → Ot P base w wF ∧ wF.cell? ⟨P, 0, none⟩ = some v ∧ wF.frozen? ⟨P, 0, none⟩ = false) := Lib.hid (fun wF hgrow =>
    ⟨Ot.grown (Keep.ot kA) hgrow (fun g hg => (hown.lt g hg).1), (hgrow.cell_far ⟨P, 0, none⟩ hPA hne).trans cA, by
      rw [World.frozen?_of_block (a := ⟨P, 0, none⟩) (hgrow.block P hPA hne)]; exact fA⟩)
  clear kA hne cA fA hown
  go_enter Tryz.func142, Tryz.ntmps142
  go_wp2_with fail
  go_region_law (go_loud (refine step_app_ownU rfl _ _ _ rfl base 118 i0 _ 2 16 Tryz.underlying114 hi hz0 hz1 hz2 rfl (by decide) v H.length (flatU H) rfl hOD ⟨w.heap.size + 1, 0, none⟩ 1 1 (uc (p, q)) rfl rfl hNW (uc_one _) h63 hby hBs ?_)
                 intro v' wF hown' hgrow
                 obtain ⟨g, cap, rfl, hbg, hlg⟩ := hown'.form (Nat.succ_pos _)
                 obtain ⟨hOt, cPF, fPF⟩ := HK0.out wF hgrow
                 have HKF := Lib.hid hOt
                 have HOF := Lib.hid hown'
                 clear hown' hgrow hOt)
  all_goals
    go_wp2
    go_end0
    have hO1 : OwnU wF base (.slice (some ⟨g, 0, none⟩) (H.length + 1) cap) (H ++ [(p, q)]) := by
      have h9 := HOF.out
      unfold OwnU
      rw [List.length_append, flatU_app, flatU_one]
      exact h9
    refine ⟨rfl, g, cap, World.cell?_setCell_same _ _ _ cPF, by rw [World.frozen?_setCell]; exact fPF, ?_, HKF.out.setCell _⟩
    exact hO1.only ((Only.refl P wF).put1 0 _) hg
set_option maxRecDepth 100000 in
set_option maxHeartbeats 2000000 in
theorem pop_any (P g n cap : Nat) (H : List R2) (w : World) (hc : w.cell? ⟨P, 0, none⟩ = some (.slice (some ⟨g, 0, none⟩) (n + 1) cap)) (hf : w.frozen? ⟨P, 0, none⟩ = false) (hR : Rr w (some ⟨g, 0, none⟩) H) (hn : H.length = n + 1) (hcap : n + 1 ≤ cap) (hn20 : n ≤ 20) :
    Calls Tryz.prog 143 #[.pointer (some ⟨P, 0, none⟩)] w fun e w' => e = .returned (.agg #[.int .i64 (uL (H.getD n u0)), .int .i64 (uH (H.getD n u0))]) ∧ w'.cell? ⟨P, 0, none⟩ = some (.slice (some ⟨g, 0, none⟩) n cap) ∧ w'.frozen? ⟨P, 0, none⟩ = false ∧ Only P w w' := by
  obtain ⟨b, off, he, hb, ⟨c0, c1⟩⟩ := hR.at_ (show n < H.length by omega)
  injection he with he
  injection he with e1 e2 _
  subst e1
  subst e2
  rw [Nat.zero_add] at c0 c1
  have hP := World.block_lt_of_cell? w _ hc
  generalize uL (H.getD n u0) = x0 at *
  generalize uH (H.getD n u0) = x1 at *
  have i0 : (0 : Int) ≤ (n : Int) := by omega
  clear hR hn
  go_enter Tryz.func143, Tryz.ntmps143
  go_wp2
  refine bodyPost_ret (v := .agg #[.int .i64 x0, .int .i64 x1]) (by simp [results, Tryz.results143, go_sem, *]) rfl ⟨rfl, ?_, ?_, ?_⟩
  · go_simp
  · go_simp
  · exact (((Only.refl P w).put1 0 _).alloc _).alloc _
end Go.Proofs.YtnemdnidlbekbaaGreatDoor
namespace Go.Proofs.YtnemdnidlbekbaaGreatDoor
open Go.RowKit
set_option linter.unusedVariables false

def fwl (zs : List Int) (lo hi st : Int) (k : Nat) : List R2 := (List.range k).map fun i => (fwL zs lo st i, fwH zs hi st i)
theorem fwl_len (zs : List Int) (lo hi st : Int) (k : Nat) : (fwl zs lo hi st k).length = k := by simp [fwl]
theorem fwl_succ (zs : List Int) (lo hi st : Int) (k : Nat) : fwl zs lo hi st (k + 1) = fwl zs lo hi st k ++ [(fwL zs lo st k, fwH zs hi st k)] := by simp [fwl, List.range_succ]
theorem fwl_at {zs : List Int} {lo hi st : Int} {i k : Nat} (h : i < k) : (fwl zs lo hi st k).getD i u0 = (fwL zs lo st i, fwH zs hi st i) := by
  simp [fwl, List.getD_eq_getElem?_getD, h]
/-- What lies in memory: the limits, the stack, the range near by. -/
structure Gst (w : World) (lo hi : Int) (v : Value) (x0 x1 : Int) (L : List R2) (wr : World) : Prop where
  l0 : wr.cell? ⟨w.heap.size, 0, none⟩ = some (.int .i64 lo)
  l1 : wr.cell? ⟨w.heap.size, 1, none⟩ = some (.int .i64 hi)
  cP : wr.cell? ⟨w.heap.size + 1, 0, none⟩ = some v
  fP : wr.frozen? ⟨w.heap.size + 1, 0, none⟩ = false
  n0 : wr.cell? ⟨w.heap.size + 2, 0, none⟩ = some (.int .i64 x0)
  n1 : wr.cell? ⟨w.heap.size + 2, 1, none⟩ = some (.int .i64 x1)
  g0 : wr.frozen? ⟨w.heap.size + 2, 0, none⟩ = false
  g1 : wr.frozen? ⟨w.heap.size + 2, 1, none⟩ = false
  own : OwnU wr (w.heap.size + 3) v L
  bs : w.heap.size + 3 ≤ wr.heap.size
  kp : Keep w wr
theorem Gst.keep {w wr w' : World} {lo hi x0 x1 : Int} {v : Value} {L : List R2} (h : Gst w lo hi v x0 x1 L wr) (k : Keep wr w') : Gst w lo hi v x0 x1 L w' :=
  ⟨k.cell h.l0, k.cell h.l1, k.cell h.cP, k.still h.cP h.fP, k.cell h.n0, k.cell h.n1, k.still h.n0 h.g0, k.still h.n1 h.g1, h.own.keep k, Nat.le_trans h.bs k.size, h.kp.trans k⟩
theorem Gst.near {w wr : World} {lo hi x0 x1 : Int} {v : Value} {L : List R2} (h : Gst w lo hi v x0 x1 L wr) (y0 y1 : Int) :
    Gst w lo hi v y0 y1 L ((wr.setCell ⟨w.heap.size + 2, 0, none⟩ (.int .i64 y0)).setCell ⟨w.heap.size + 2, 1, none⟩ (.int .i64 y1)) := by
  have ho : Only (w.heap.size + 2) wr ((wr.setCell ⟨w.heap.size + 2, 0, none⟩ (.int .i64 y0)).setCell ⟨w.heap.size + 2, 1, none⟩ (.int .i64 y1)) := ((Only.refl _ wr).put1 0 _).put1 1 _
  have hs := h.bs
  have fr : ∀ a, ((wr.setCell ⟨w.heap.size + 2, 0, none⟩ (.int .i64 y0)).setCell ⟨w.heap.size + 2, 1, none⟩ (.int .i64 y1)).frozen? a = wr.frozen? a := fun a => by rw [World.frozen?_setCell, World.frozen?_setCell]
  refine ⟨(ho.cell _ _ (by omega) (by omega)).trans h.l0, (ho.cell _ _ (by omega) (by omega)).trans h.l1, (ho.cell _ _ (by omega) (by omega)).trans h.cP, (fr _).trans h.fP, ?_, ?_, (fr _).trans h.g0, (fr _).trans h.g1, h.own.only ho (by omega), Nat.le_trans h.bs ho.size, h.kp.trans' ho (by omega)⟩
  · rw [World.cell?_setCell_other _ _ _ _ (by simp)]
    exact World.cell?_setCell_same _ _ _ h.n0
  · exact World.cell?_setCell_same _ _ _ ((World.cell?_setCell_other _ _ _ _ (by simp)).trans h.n1)
theorem Gst.ot {w wr w' : World} {lo hi x0 x1 : Int} {v v' : Value} {L L' : List R2} (h : Gst w lo hi v x0 x1 L wr) (ho : Ot (w.heap.size + 1) (w.heap.size + 3) wr w') (hc : w'.cell? ⟨w.heap.size + 1, 0, none⟩ = some v') (hf : w'.frozen? ⟨w.heap.size + 1, 0, none⟩ = false) (hO : OwnU w' (w.heap.size + 3) v' L') : Gst w lo hi v' x0 x1 L' w' :=
  ⟨ho.cell h.l0 (by omega) (by omega), ho.cell h.l1 (by omega) (by omega), hc, hf, ho.cell h.n0 (by omega) (by omega), ho.cell h.n1 (by omega) (by omega), ho.still h.n0 h.g0 (by omega) (by omega), ho.still h.n1 h.g1 (by omega) (by omega), hO, Nat.le_trans h.bs ho.size, ho.keep h.kp (by omega) (by omega)⟩
/-- The range near by, in front of day k. -/
def Nx (zs : List Int) (lo hi st : Int) (k : Nat) (x0 x1 : Int) : Prop := (k = 0 ∧ x0 = lo ∧ x1 = hi) ∨ ∃ j, k = j + 1 ∧ x0 = fwL zs lo st j ∧ x1 = fwH zs hi st j
theorem Nx.nr {zs : List Int} {lo hi st x0 x1 : Int} {k : Nat} (h : Nx zs lo hi st k x0 x1) (h0 : 0 ≤ st) : nrL zs lo st k = max lo (x0 - st) ∧ nrH zs hi st k = min hi (x1 + st) := by
  rcases h with ⟨rfl, rfl, rfl⟩ | ⟨j, rfl, rfl, rfl⟩
  · rw [nrL_zero, nrH_zero]; omega
  · exact ⟨nrL_succ zs lo st h0 j, nrH_succ zs hi st h0 j⟩
theorem Nx.bd {zs : List Int} {lo hi st x0 x1 : Int} {k : Nat} (h : Nx zs lo hi st k x0 x1) (h0 : 0 ≤ st) (hlh : lo ≤ hi) (hA : ∀ j, j < k → fitB zs lo hi st j) : lo ≤ x0 ∧ x0 ≤ x1 ∧ x1 ≤ hi := by
  rcases h with ⟨rfl, rfl, rfl⟩ | ⟨j, rfl, rfl, rfl⟩
  · omega
  · have h1 := fw_in zs lo hi st j
    have h2 := fw_ok h0 hlh j (fun i hi' => hA i (by omega))
    omega
/-- What the bounds answer. -/
def BfPost (zs : List Int) (lo hi st : Int) (w : World) (e : Ending) (w' : World) : Prop :=
  ((∃ i, i < zs.length ∧ gH zs hi st i < gL zs lo st i) ∧ e = .returned (.tuple #[.slice none 0 0, .bool false]) ∧ Keep w w') ∨
  ((∀ j, j < zs.length → fitB zs lo hi st j) ∧ ∃ (g c : Nat), e = .returned (.tuple #[.slice (some ⟨g, 0, none⟩) zs.length c, .bool true]) ∧ zs.length ≤ c ∧ Rr w' (some ⟨g, 0, none⟩) (fwl zs lo hi st zs.length) ∧ w.heap.size ≤ g ∧ Keep w w')
set_option maxRecDepth 100000 in
set_option maxHeartbeats 4000000 in
theorem bf_any (a : Option Addr) (cap : Nat) (zs : List Int) (lo hi st : Int) (w : World) (h : Ls w a zs) (hg : gaB zs lo hi st = true) :
    Calls Tryz.prog 124 #[.slice a zs.length cap, .agg #[.int .i64 lo, .int .i64 hi], .int .i64 st] w (BfPost zs lo hi st w) := by
  obtain ⟨hsq, ⟨hlo, hhi⟩, hlh, hst0, hst1⟩ := gaB_facts hg
  obtain ⟨hl1, hl12⟩ := (sq_facts hsq).2
  clear hg hsq
  go_enter Tryz.func124, Tryz.ntmps124
  go_wp2_with fail
  go_loopw [15] (fun i wr => ∃ (k : Nat) (v : Value) (x0 x1 : Int), k ≤ zs.length ∧ i = .int .i64 k ∧ Hid (Gst w lo hi v x0 x1 (fwl zs lo hi st k) wr) ∧ Hid (Nx zs lo hi st k x0 x1) ∧ Hid (∀ j, j < k → fitB zs lo hi st j)) (fun i _ => zs.length - (intOf i).toNat)
  case atStart =>
    refine ⟨0, .slice none 0 0, lo, hi, by omega, rfl, Lib.hid ⟨by go_simp, by go_simp, by go_simp, by go_simp, by go_simp, by go_simp, by go_simp, by go_simp, World.ownsRow_nil _ _ _ _, by simp, ?_⟩, Lib.hid (.inl ⟨rfl, rfl, rfl⟩), Lib.hid (fun j hj => absurd hj (by omega))⟩
    exact (((Keep.refl w).alloc _).alloc _).alloc _
  case round =>
    obtain ⟨k, v, x0, x1, hk, rfl, HG, HX, HA⟩ := hrel
    have hnr := HX.out.nr hst0
    have hbd := HX.out.bd hst0 hlh HA.out
    obtain ⟨l0, l1, cP, fP, n0, n1, g0, g1, -, hbs, hK⟩ := HG.out
    by_cases hlt : k < zs.length
    case' neg =>
      obtain rfl : k = zs.length := by omega
      have hO := HG.out.own
      obtain ⟨g, c, rfl, hc, hb, hl, hW⟩ := hO.form (by rw [fwl_len]; omega)
      rw [fwl_len] at hc cP
      have HF : Hid (BfPost zs lo hi st w (.returned (.tuple #[.slice (some ⟨g, 0, none⟩) zs.length c, .bool true])) wr) := Lib.hid (.inr ⟨HA.out, g, c, rfl, hc, hW.rr, by omega, hK⟩)
      clear hO hW HG
      go_wp2
      go_ret2
      exact HF.out
    obtain ⟨bz, oz, rfl, hbz, cz⟩ := (h.keep hK).at_ hlt
    obtain ⟨z, hz⟩ : ∃ z, zs.getD k 0 = z := ⟨_, rfl⟩
    have HZ := Lib.hid hz
    rw [hz] at cz
    clear hz
    obtain ⟨y0, hy0⟩ : ∃ y0, nrL zs lo st k = y0 := ⟨_, rfl⟩
    obtain ⟨y1, hy1⟩ : ∃ y1, nrH zs hi st k = y1 := ⟨_, rfl⟩
    have HY := Lib.hid (And.intro hy0 hy1)
    rw [hy0, hy1] at hnr
    obtain ⟨e0, e1⟩ := hnr
    have HWd := Lib.hid (fun W => wid_any x0 x1 st W ⟨by omega, by omega⟩ ⟨by omega, by omega⟩ hst0 hst1)
    have HMt := Lib.hid (fun W => meet_yes lo hi (x0 - st) (x1 + st) W ⟨by omega, by omega⟩ ⟨by omega, by omega⟩ hlh (by omega) ⟨by omega, by omega⟩)
    rw [← e0, ← e1] at HMt
    clear hy0 hy1 e0 e1
    go_wp2_with fail
    go_region_with (first
      | (go_at_call 141; refine (HWd.out _).mono ?_; rintro e w1 ⟨rfl, k1⟩; have hk1 : Keep wr w1 := ((Keep.refl wr).drewN 1).trans k1; have a0 := hk1.cell l0; have a1 := hk1.cell l1; have b0 := hk1.cell n0; have b1 := hk1.cell n1; have f0 := hk1.still n0 g0; have f1 := hk1.still n1 g1)
      | (go_at_call 140; refine (HMt.out _).mono ?_; rintro e w2 ⟨rfl, k2⟩; have hk2 : Keep wr w2 := hk1.trans k2; have d0 := k2.cell b0; have d1 := k2.cell b1; have h0 := k2.still b0 f0; have h1 := k2.still b1 f1))
    all_goals
      refine @abs_world (fun wq => Exit.then _ _ Exit.normal _ wq) _ (fun wq => Gst w lo hi v y0 y1 (fwl zs lo hi st k) wq) ((HG.out.keep hk2).near y0 y1) ?_
      intro wq hG2
      have HG2 := Lib.hid hG2
      clear l0 l1 cP fP n0 n1 g0 g1 hG2 HG HWd HMt k1 k2 hk1 hk2 a0 a1 b0 b1 f0 f1 d0 d1 h0 h1 w1 w2 cz h hK hbs
      obtain ⟨l0, l1, cP, fP, n0, n1, g0, g1, hO, hbs, hK⟩ := HG2.out
      have HO := Lib.hid hO
      clear hO
      have hL20 : (fwl zs lo hi st k).length ≤ 20 := by rw [fwl_len]; omega
      have HLn := Lib.hid (fwl_len zs lo hi st k)
      by_cases hzn : z = -9999
      · have hzz : zs.getD k 0 = -9999 := by rw [HZ.out]; exact hzn
        have e0 := fwL_none (lo := lo) (st := st) hzz
        have e1 := fwH_none (hi := hi) (st := st) hzz
        rw [HY.out.1] at e0
        rw [HY.out.2] at e1
        have HS : Hid (fwl zs lo hi st (k + 1) = fwl zs lo hi st k ++ [(y0, y1)]) := Lib.hid (by rw [fwl_succ, e0, e1])
        have HX3 : Hid (Nx zs lo hi st (k + 1) y0 y1) := Lib.hid (.inr ⟨k, rfl, e0.symm, e1.symm⟩)
        have HA3 : Hid (∀ j, j < k + 1 → fitB zs lo hi st j) := Lib.hid (fun j hj => by
          by_cases e : j = k
          · rw [e]; exact .inl hzz
          · exact HA.out j (by omega))
        subst hzn
        clear hzz e0 e1
        generalize fwl zs lo hi st k = L at *
        go_wp2_with fail
        refine (push_any (w.heap.size + 1) (w.heap.size + 3) v y0 y1 L _ cP fP HO.out (by omega) hbs hL20).mono ?_
        rintro e w4 ⟨rfl, g, cp, c4, f4, hO4, ot⟩
        have HG3 : Hid (Gst w lo hi (.slice (some ⟨g, 0, none⟩) (L.length + 1) cp) y0 y1 (fwl zs lo hi st (k + 1)) w4) := Lib.hid (by rw [HS.out]; exact HG2.out.ot ot c4 f4 hO4)
        go_wp2
        go_roundw
        case rel => exact ⟨k + 1, _, y0, y1, by omega, by go_num, HG3, HX3, HA3⟩
        case measure => simp [intOf]; omega
      have hzn2 : (z != -9999) = true := bne_iff_ne.2 hzn
      have hzz : zs.getD k 0 ≠ -9999 := by rw [HZ.out]; exact hzn
      by_cases q0 : z < y0
      · have HF : Hid (BfPost zs lo hi st w (.returned (.tuple #[.slice none 0 0, .bool false])) wq) := Lib.hid (.inl ⟨⟨k, hlt, unfit hlt (by
          rintro (e | ⟨e1, e2⟩)
          · exact hzz e
          · rw [HZ.out, HY.out.1] at e1; omega)⟩, rfl, hK⟩)
        have d0 : decide (z < y0) = true := decide_eq_true q0
        go_wp2
        go_ret2
        exact HF.out
      by_cases q1 : y1 < z
      · have HF : Hid (BfPost zs lo hi st w (.returned (.tuple #[.slice none 0 0, .bool false])) wq) := Lib.hid (.inl ⟨⟨k, hlt, unfit hlt (by
          rintro (e | ⟨e1, e2⟩)
          · exact hzz e
          · rw [HZ.out, HY.out.2] at e2; omega)⟩, rfl, hK⟩)
        have d0 : decide (z < y0) = false := decide_eq_false q0
        have d1 : decide (y1 < z) = true := decide_eq_true q1
        go_wp2
        go_ret2
        exact HF.out
      have d0 : decide (z < y0) = false := decide_eq_false q0
      have d1 : decide (y1 < z) = false := decide_eq_false q1
      have e0 := fwL_some (lo := lo) (st := st) hzz (by rw [HZ.out, HY.out.1]; omega)
      have e1 := fwH_some (hi := hi) (st := st) hzz (by rw [HZ.out, HY.out.2]; omega)
      rw [HZ.out] at e0 e1
      have HS : Hid (fwl zs lo hi st (k + 1) = fwl zs lo hi st k ++ [(z, z)]) := Lib.hid (by rw [fwl_succ, e0, e1])
      have HX3 : Hid (Nx zs lo hi st (k + 1) z z) := Lib.hid (.inr ⟨k, rfl, e0.symm, e1.symm⟩)
      have HA3 : Hid (∀ j, j < k + 1 → fitB zs lo hi st j) := Lib.hid (fun j hj => by
        by_cases e : j = k
        · rw [e]; right; rw [HZ.out, HY.out.1, HY.out.2]; omega
        · exact HA.out j (by omega))
      clear hzz e0 e1
      generalize fwl zs lo hi st k = L at *
      have HG4 := Lib.hid (HG2.out.near z z)
      obtain ⟨l0', l1', cP', fP', n0', n1', g0', g1', hO', hbs', hK'⟩ := HG4.out
      have HO' := Lib.hid hO'
      clear hO'
      go_wp2_with fail
      refine (push_any (w.heap.size + 1) (w.heap.size + 3) v z z L _ cP' fP' HO'.out (by omega) hbs' hL20).mono ?_
      rintro e w4 ⟨rfl, g, cp, c4, f4, hO4, ot⟩
      have HG3 : Hid (Gst w lo hi (.slice (some ⟨g, 0, none⟩) (L.length + 1) cp) z z (fwl zs lo hi st (k + 1)) w4) := Lib.hid (by rw [HS.out]; exact HG4.out.ot ot c4 f4 hO4)
      go_wp2
      go_roundw
      case rel => exact ⟨k + 1, _, z, z, by omega, by go_num, HG3, HX3, HA3⟩
      case measure => simp [intOf]; omega
end Go.Proofs.YtnemdnidlbekbaaGreatDoor
namespace Go.Proofs.YtnemdnidlbekbaaGreatDoor
open Go.RowKit
set_option linter.unusedVariables false

/-- What lies in memory: the stack, the answer, the range near by. -/
structure Gsl (w : World) (v : Value) (x0 x1 : Int) (R : List R2) (wr : World) : Prop where
  cP : wr.cell? ⟨w.heap.size, 0, none⟩ = some v
  fP : wr.frozen? ⟨w.heap.size, 0, none⟩ = false
  n0 : wr.cell? ⟨w.heap.size + 3, 0, none⟩ = some (.int .i64 x0)
  n1 : wr.cell? ⟨w.heap.size + 3, 1, none⟩ = some (.int .i64 x1)
  g0 : wr.frozen? ⟨w.heap.size + 3, 0, none⟩ = false
  g1 : wr.frozen? ⟨w.heap.size + 3, 1, none⟩ = false
  rw_ : WrU wr (w.heap.size + 2) R
  bs : w.heap.size + 4 ≤ wr.heap.size
  kp : Keep w wr
theorem WrU.only {B g : Nat} {w w' : World} {ys : List R2} (h : WrU w g ys) (ho : Only B w w') (hne : g ≠ B) : WrU w' g ys := fun j hj => by
  obtain ⟨h1, h2⟩ := h j hj
  have hb := World.block_lt_of_cell? w _ h1.s
  exact ⟨⟨(ho.cell g _ hb hne).trans h1.s, (ho.cell g _ hb hne).trans h1.d⟩, ⟨(ho.frozen g _ hb hne).trans h2.f0, (ho.frozen g _ hb hne).trans h2.f1⟩⟩
theorem Gsl.only {w wr w' : World} {x0 x1 : Int} {v v' : Value} {R : List R2} (h : Gsl w v x0 x1 R wr) (ho : Only w.heap.size wr w') (hc : w'.cell? ⟨w.heap.size, 0, none⟩ = some v') (hf : w'.frozen? ⟨w.heap.size, 0, none⟩ = false) : Gsl w v' x0 x1 R w' := by
  have hb := h.bs
  exact ⟨hc, hf, (ho.cell _ _ (by omega) (by omega)).trans h.n0, (ho.cell _ _ (by omega) (by omega)).trans h.n1, (ho.frozen _ _ (by omega) (by omega)).trans h.g0, (ho.frozen _ _ (by omega) (by omega)).trans h.g1, h.rw_.only ho (by omega), Nat.le_trans hb ho.size, h.kp.trans' ho (Nat.le_refl _)⟩
theorem Gsl.near {w wr : World} {x0 x1 : Int} {v : Value} {R : List R2} (h : Gsl w v x0 x1 R wr) (y0 y1 : Int) :
    Gsl w v y0 y1 R ((wr.setCell ⟨w.heap.size + 3, 0, none⟩ (.int .i64 y0)).setCell ⟨w.heap.size + 3, 1, none⟩ (.int .i64 y1)) := by
  have ho : Only (w.heap.size + 3) wr ((wr.setCell ⟨w.heap.size + 3, 0, none⟩ (.int .i64 y0)).setCell ⟨w.heap.size + 3, 1, none⟩ (.int .i64 y1)) := ((Only.refl _ wr).put1 0 _).put1 1 _
  have hs := h.bs
  have fr : ∀ a, ((wr.setCell ⟨w.heap.size + 3, 0, none⟩ (.int .i64 y0)).setCell ⟨w.heap.size + 3, 1, none⟩ (.int .i64 y1)).frozen? a = wr.frozen? a := fun a => by rw [World.frozen?_setCell, World.frozen?_setCell]
  refine ⟨(ho.cell _ _ (by omega) (by omega)).trans h.cP, (fr _).trans h.fP, ?_, ?_, (fr _).trans h.g0, (fr _).trans h.g1, h.rw_.only ho (by omega), Nat.le_trans h.bs ho.size, h.kp.trans' ho (by omega)⟩
  · rw [World.cell?_setCell_other _ _ _ _ (by simp)]
    exact World.cell?_setCell_same _ _ _ h.n0
  · exact World.cell?_setCell_same _ _ _ ((World.cell?_setCell_other _ _ _ _ (by simp)).trans h.n1)
theorem Gsl.put {w wr : World} {x0 x1 : Int} {v : Value} {R : List R2} (h : Gsl w v x0 x1 R wr) {j : Nat} (hj : j < R.length) (r : R2) : Gsl w v x0 x1 (R.set j r) (put2 wr (w.heap.size + 2) (j * 2) r) := by
  have ho : Only (w.heap.size + 2) wr (put2 wr (w.heap.size + 2) (j * 2) r) := ((Only.refl _ wr).put1 _ _).put1 _ _
  have hs := h.bs
  exact ⟨(ho.cell _ _ (by omega) (by omega)).trans h.cP, (ho.frozen _ _ (by omega) (by omega)).trans h.fP, (ho.cell _ _ (by omega) (by omega)).trans h.n0, (ho.cell _ _ (by omega) (by omega)).trans h.n1, (ho.frozen _ _ (by omega) (by omega)).trans h.g0, (ho.frozen _ _ (by omega) (by omega)).trans h.g1, h.rw_.set hj r, Nat.le_trans hs ho.size, h.kp.trans' ho (by omega)⟩
/-- The range near by, behind day k. -/
def Nb (zs : List Int) (lo hi st : Int) (k : Nat) (x0 x1 : Int) : Prop := (k = zs.length ∧ x0 = lo ∧ x1 = hi) ∨ (k < zs.length ∧ x0 = gL zs lo st k ∧ x1 = gH zs hi st k)
theorem Nb.step {zs : List Int} {lo hi st x0 x1 : Int} {j : Nat} (h : Nb zs lo hi st (j + 1) x0 x1) (h0 : 0 ≤ st) : gL zs lo st j = max (fwL zs lo st j) (x0 - st) ∧ gH zs hi st j = min (fwH zs hi st j) (x1 + st) := by
  have hb := fw_in zs lo hi st j
  rcases h with ⟨h1, rfl, rfl⟩ | ⟨h1, rfl, rfl⟩
  · rw [gL_last h1, gH_last h1]; omega
  · exact ⟨gL_prev h0 h1, gH_prev h0 h1⟩
theorem Nb.bd {zs : List Int} {lo hi st x0 x1 : Int} {j : Nat} (h : Nb zs lo hi st j x0 x1) (hlh : lo ≤ hi) (hA : ∀ i, i < zs.length → gL zs lo st i ≤ gH zs hi st i) : lo ≤ x0 ∧ x0 ≤ x1 ∧ x1 ≤ hi := by
  rcases h with ⟨h1, rfl, rfl⟩ | ⟨h1, rfl, rfl⟩
  · omega
  · have h2 := hA j h1
    have h3 : lo ≤ gL zs lo st j := gLo_ge _ _ _ _ _
    have h4 : gH zs hi st j ≤ hi := gHi_le _ _ _ _ _
    omega
theorem fwl_take (zs : List Int) (lo hi st : Int) {k n : Nat} (h : k ≤ n) : (fwl zs lo hi st n).take k = fwl zs lo hi st k := by
  rw [fwl, fwl, ← List.map_take, List.take_range, Nat.min_eq_left h]
set_option maxRecDepth 100000 in
set_option maxHeartbeats 4000000 in
theorem fl_any (g cap : Nat) (zs : List Int) (lo hi st : Int) (w : World) (hR : Rr w (some ⟨g, 0, none⟩) (fwl zs lo hi st zs.length)) (hcap : zs.length ≤ cap) (hg : gaB zs lo hi st = true) (hA : ∀ j, j < zs.length → fitB zs lo hi st j) :
    Calls Tryz.prog 125 #[.slice (some ⟨g, 0, none⟩) zs.length cap, .agg #[.int .i64 lo, .int .i64 hi], .int .i64 st] w fun e w' => e = .returned (.slice (some ⟨w.heap.size + 2, 0, none⟩) zs.length zs.length) ∧ WrU w' (w.heap.size + 2) (gRl zs lo hi st) ∧ Keep w w' ∧ w.heap.size + 2 < w'.heap.size := by
  obtain ⟨hsq, ⟨hlo, hhi⟩, hlh, hst0, hst1⟩ := gaB_facts hg
  obtain ⟨hl1, hl12⟩ := (sq_facts hsq).2
  have HG := Lib.hid (fun i (hi' : i < zs.length) => g_all (lo := lo) (hi := hi) hst0 hlh hA hi')
  have HW := Lib.hid (fun i (hi' : i < zs.length) => And.intro (fw_ok (lo := lo) (hi := hi) hst0 hlh i (fun j hj => hA j (by omega))) (fw_in zs lo hi st i))
  have hmk := fun W => run_make_ranges zs.length (by omega) W
  clear hg hsq hA
  go_enter Tryz.func125, Tryz.ntmps125
  go_wp2_with fail
  go_loopw [9] (fun q wr => ∃ (k : Nat) (x0 x1 : Int) (R : List R2), k ≤ zs.length ∧ q = .int .i64 ((k : Int) - 1) ∧ Hid (Gsl w (.slice (some ⟨g, 0, none⟩) k cap) x0 x1 R wr) ∧ Hid (Nb zs lo hi st k x0 x1) ∧ Hid (R.length = zs.length ∧ ∀ j, k ≤ j → j < zs.length → R.getD j u0 = (gL zs lo st j, gH zs hi st j))) (fun q _ => (intOf q + 1).toNat)
  case atStart =>
    refine ⟨zs.length, lo, hi, List.replicate zs.length u0, Nat.le_refl _, rfl, Lib.hid ⟨by go_simp, by go_simp, by go_simp, by go_simp, by go_simp, by go_simp, ?_, by simp, ?_⟩, Lib.hid (.inl ⟨rfl, rfl, rfl⟩), Lib.hid ⟨by simp, fun j h1 h2 => absurd h1 (by omega)⟩⟩
    · intro j hj
      have hj' : j < zs.length := by simpa using hj
      have e : (List.replicate zs.length u0).getD j u0 = u0 := by simp [List.getD_eq_getElem?_getD, hj']
      rw [e]
      exact ⟨⟨by go_simp; exact made2_at _ _ (by omega), by go_simp; exact made2_at _ _ (by omega)⟩, ⟨by go_simp, by go_simp⟩⟩
    · exact ((((Keep.refl w).alloc _).alloc _).alloc _).alloc _
  case round =>
    obtain ⟨k, x0, x1, R, hk, rfl, HS, HN, HR⟩ := hrel
    clear hmk
    have hbd := HN.out.bd hlh HG.out
    by_cases h0 : k = 0
    case' pos =>
      subst h0
      have HF : Hid (WrU wr (w.heap.size + 2) (gRl zs lo hi st) ∧ Keep w wr ∧ w.heap.size + 2 < wr.heap.size) := Lib.hid (by
        have e : R = gRl zs lo hi st := by
          refine List.ext_getElem (by rw [HR.out.1, gRl_len]) fun i h1 h2 => ?_
          have h3 := HR.out.2 i (Nat.zero_le _) (by rw [HR.out.1] at h1; exact h1)
          have h4 := gRl_at (lo := lo) (hi := hi) (st := st) (show i < zs.length by rw [HR.out.1] at h1; exact h1)
          rw [← h4] at h3
          simpa [List.getD_eq_getElem?_getD, h1, h2] using h3
        have hb := HS.out.bs
        exact ⟨e ▸ HS.out.rw_, HS.out.kp, by omega⟩)
      go_wp2
      go_ret
      exact ⟨rfl, HF.out⟩
    obtain ⟨j, rfl⟩ : ∃ j, k = j + 1 := ⟨k - 1, by omega⟩
    have hstep := HN.out.step hst0
    have hjn : j < zs.length := by omega
    obtain ⟨hw1, hw2, hw3⟩ := HW.out j hjn
    have hgj := HG.out j hjn
    have hfa := fwl_at (zs := zs) (lo := lo) (hi := hi) (st := st) (show j < j + 1 by omega)
    obtain ⟨y0, hy0⟩ : ∃ y0, gL zs lo st j = y0 := ⟨_, rfl⟩
    obtain ⟨y1, hy1⟩ : ∃ y1, gH zs hi st j = y1 := ⟨_, rfl⟩
    have HY := Lib.hid (And.intro hy0 hy1)
    rw [hy0, hy1] at hstep hgj
    obtain ⟨f0, hf0⟩ : ∃ f0, fwL zs lo st j = f0 := ⟨_, rfl⟩
    obtain ⟨f1, hf1⟩ : ∃ f1, fwH zs hi st j = f1 := ⟨_, rfl⟩
    rw [hf0, hf1] at hstep hfa
    rw [hf0] at hw1 hw2
    rw [hf1] at hw1 hw3
    obtain ⟨e0, e1⟩ := hstep
    obtain ⟨cP, fP, n0, n1, g0, g1, -, hbs, hK⟩ := HS.out
    have HWd := Lib.hid (fun W => wid_any x0 x1 st W ⟨by omega, by omega⟩ ⟨by omega, by omega⟩ hst0 hst1)
    have HMt := Lib.hid (fun W => meet_yes f0 f1 (x0 - st) (x1 + st) W ⟨by omega, by omega⟩ ⟨by omega, by omega⟩ hw1 (by omega) ⟨by omega, by omega⟩)
    rw [← e0, ← e1] at HMt
    have HPp := Lib.hid (fun W (kk : Keep wr W) => pop_any w.heap.size g j cap (fwl zs lo hi st (j + 1)) W (kk.cell cP) (kk.still cP fP) (by have h9 := ((hR.keep hK).keep kk).take (j + 1); rwa [fwl_take zs lo hi st (show j + 1 ≤ zs.length by omega)] at h9) (fwl_len _ _ _ _ _) (by omega) (by omega))
    rw [hfa] at HPp
    have HNr := Lib.hid (fun W (ho : Only w.heap.size wr W) => And.intro ((ho.cell _ _ (by omega) (by omega)).trans n0) (And.intro ((ho.cell _ _ (by omega) (by omega)).trans n1) (And.intro ((ho.frozen _ _ (by omega) (by omega)).trans g0) ((ho.frozen _ _ (by omega) (by omega)).trans g1))))
    have HRl := Lib.hid HR.out.1
    clear hfa hbd hgj e0 e1 hy0 hy1 hf0 hf1
    go_wp2_with fail
    go_region_with (first
      | (go_at_call 143; refine (HPp.out _ ((Keep.refl wr).drewN 1)).mono ?_; rintro e wB ⟨rfl, cB1, fB1, oB⟩; have hB1 : Only w.heap.size wr wB := ((Only.refl _ wr).drewN 1).trans oB; obtain ⟨p0, p1, p2, p3⟩ := HNr.out _ hB1)
      | (go_at_call 143; refine (HPp.out _ kA1).mono ?_; rintro e wB ⟨rfl, cB2, fB2, oB⟩; have hB2 : Only w.heap.size wr wB := hA1.trans oB; obtain ⟨r0, r1, r2, r3⟩ := HNr.out _ hB2)
      | (go_at_call 141; refine (HWd.out _).mono ?_; rintro e wA ⟨rfl, kA2⟩; have hA2 : Only w.heap.size wr wA := hB1.trans kA2.only; have cA2 := kA2.cell cB1; have fA2 := kA2.still cB1 fB1; obtain ⟨r0, r1, r2, r3⟩ := HNr.out _ hA2)
      | (go_at_call 141; refine (HWd.out _).mono ?_; rintro e wA ⟨rfl, kA⟩; have kA1 : Keep wr wA := ((Keep.refl wr).drewN 1).trans kA; have hA1 : Only w.heap.size wr wA := kA1.only; obtain ⟨p0, p1, p2, p3⟩ := HNr.out _ hA1)
      | (go_at_call 140; refine (HMt.out _).mono ?_; rintro e wC ⟨rfl, kC⟩; have hC : Only w.heap.size wr wC := hA2.trans kC.only; have cC := kC.cell cA2; have fC := kC.still cA2 fA2; obtain ⟨t0, t1, t2, t3⟩ := HNr.out _ hC)
      | (go_at_call 140; refine (HMt.out _).mono ?_; rintro e wC ⟨rfl, kC⟩; have hC : Only w.heap.size wr wC := hB2.trans kC.only; have cC := kC.cell cB2; have fC := kC.still cB2 fB2; obtain ⟨t0, t1, t2, t3⟩ := HNr.out _ hC))
    all_goals
      refine @abs_world (fun wq => Exit.then _ _ Exit.normal _ wq) _ (fun wq => Gsl w (.slice (some ⟨g, 0, none⟩) j cap) y0 y1 R wq) ((HS.out.only hC cC fC).near y0 y1) ?_
      intro wq hS2
      have HS2 := Lib.hid hS2
      have HFin : Hid (Nb zs lo hi st j y0 y1 ∧ ((R.set j (y0, y1)).length = zs.length ∧ ∀ i, j ≤ i → i < zs.length → (R.set j (y0, y1)).getD i u0 = (gL zs lo st i, gH zs hi st i)) ∧ Gsl w (.slice (some ⟨g, 0, none⟩) j cap) y0 y1 (R.set j (y0, y1)) (put2 wq (w.heap.size + 2) (j * 2) (y0, y1))) := Lib.hid (by
        refine ⟨.inr ⟨hjn, HY.out.1.symm, HY.out.2.symm⟩, ⟨by rw [List.length_set]; exact HRl.out, fun i h1 h2 => ?_⟩, HS2.out.put (by rw [HRl.out]; exact hjn) _⟩
        by_cases e : i = j
        · subst e
          rw [HY.out.1, HY.out.2]
          simp [List.getD_eq_getElem?_getD, show i < R.length by rw [HRl.out]; exact h2]
        · have e2 : j ≠ i := fun h => e h.symm
          rw [← HR.out.2 i (by omega) h2]
          simp [List.getD_eq_getElem?_getD, e2])
      obtain ⟨⟨q0, q1⟩, ⟨q2, q3⟩⟩ := hS2.rw_ j (by rw [HRl.out]; exact hjn)
      obtain ⟨-, -, m0, m1, -, -, -, hbs2, hK2⟩ := hS2
      generalize uL (R.getD j u0) = z0 at q0
      generalize uH (R.getD j u0) = z1 at q1
      clear cP fP n0 n1 g0 g1 HS HWd HMt HPp HNr hC cC fC t0 t1 t2 t3 r0 r1 r2 r3 p0 p1 p2 p3 hK hbs HR HN
      go_wp2
      go_roundw
      case rel => exact ⟨j, y0, y1, _, by omega, by go_num, Lib.hid HFin.out.2.2, Lib.hid HFin.out.1, Lib.hid HFin.out.2.1⟩
      case measure => first | (simp [intOf]; done) | (simp [intOf]; omega)
set_option maxRecDepth 100000 in
set_option maxHeartbeats 4000000 in
theorem fi_impl (a : Option Addr) (cap : Nat) (zs : List Int) (lo hi st : Int) (w : World) (h : Ls w a zs) (hm : zs.length ≤ 4611686018427387904) :
    Calls Tryz.prog 102 #[.slice a zs.length cap, .int .i64 lo, .int .i64 hi, .int .i64 st] w (GpPost zs lo hi st w) := by
  have HG := Lib.hid (ga_impl a cap zs lo hi st w h hm)
  obtain ⟨g, hg⟩ : ∃ g, gaB zs lo hi st = g := ⟨_, rfl⟩
  have HG2 := Lib.hid hg
  rw [hg] at HG
  cases g
  · have HF := Lib.hid (gOk_1 hg)
    clear hg
    go_enter Tryz.func102, Tryz.ntmps102
    go_wp2_with (go_at_call 123; refine HG.out.mono ?_; rintro e w' ⟨rfl, rfl⟩)
    go_ret2
    exact gp_no HF.out _ _ (Keep.refl _)
  obtain ⟨hsq, ⟨hlo, hhi⟩, hlh, hst0, hst1⟩ := gaB_facts hg
  obtain ⟨hl1, hl12⟩ := (sq_facts hsq).2
  have HB := Lib.hid (fun W (k : Keep w W) => bf_any a cap zs lo hi st W (h.keep k) hg)
  have HL := Lib.hid (fun (g c : Nat) W (hR : Rr W (some ⟨g, 0, none⟩) (fwl zs lo hi st zs.length)) (hc : zs.length ≤ c) (hA : ∀ j, j < zs.length → fitB zs lo hi st j) => fl_any g c zs lo hi st W hR hc hg hA)
  clear hg hsq
  go_enter Tryz.func102, Tryz.ntmps102
  go_wp2_with (go_at_call 123; refine HG.out.mono ?_; rintro e w' ⟨rfl, rfl⟩)
  refine (HB.out _ ((Keep.refl _).alloc _)).mono ?_
  rintro e w1 (⟨⟨i, hi', hlt⟩, rfl, k1⟩ | ⟨hA, g, c, rfl, hc, hR, hgw, k1⟩)
  · have HF := Lib.hid (gOk_2 hi' hlt)
    have kk : Keep w w1 := ((Keep.refl w).alloc _).trans k1
    go_wp2
    go_ret2
    exact gp_no HF.out _ _ kk
  · have HA := Lib.hid hA
    have HR := Lib.hid hR
    have kk : Keep w w1 := ((Keep.refl w).alloc _).trans k1
    have l0 : w1.cell? ⟨w.heap.size, 0, none⟩ = some (.int .i64 lo) := k1.cell (by go_simp)
    have l1 : w1.cell? ⟨w.heap.size, 1, none⟩ = some (.int .i64 hi) := k1.cell (by go_simp)
    have hs1 := kk.size
    clear hA hR
    go_wp2_with fail
    refine (HL.out g c _ HR.out hc HA.out).mono ?_
    rintro e w2 ⟨rfl, hW, k2, hl2⟩
    have HF : Hid (GpPost zs lo hi st w (.returned (.tuple #[.slice (some ⟨w1.heap.size + 2, 0, none⟩) zs.length zs.length, .bool true])) w2) := Lib.hid (by
      have hok : gOk zs lo hi st = true := gOk_3 HG2.out (fun i hi' => g_all hst0 hlh HA.out hi')
      have e := gRL_yes hok
      refine ⟨_, _, by rw [e, hok, gRl_len], by rw [e, gRl_len]; exact Nat.le_refl _, ?_, kk.trans k2⟩
      rw [e]
      exact .inr ⟨_, rfl, by omega, hl2, hW⟩)
    clear hW
    go_wp2
    go_ret2
    exact HF.out
end Go.Proofs.YtnemdnidlbekbaaGreatDoor
