/- Lists of readings and of weights: what is valid; the program's functions and the model's answer 'rdsB', 'wtsB'; sums of readings with weights. -/
import Derived.Test.YtkapnbfjpglblaaLs
import Derived.Test.YtkapnbfjpglblaaHt
import Derived.LoopTactic
namespace Go.Proofs.Ytkapnbfjpglblaa
open Go.RowKit
set_option linter.unusedVariables false

def rdB (x : Int) : Bool := inB x (-999) 10999
def rdsB (zs : List Int) : Bool := zs.all rdB && decide (1 ≤ zs.length ∧ zs.length ≤ 24)
def wtB (x : Int) : Bool := inB x 0 9
def posB (x : Int) : Bool := decide (0 < x)
def wtsB (ws : List Int) : Bool := ws.all wtB && ws.any posB

theorem rds_len_no {zs : List Int} (h : ¬ (1 ≤ zs.length ∧ zs.length ≤ 24)) : rdsB zs = false := by simp [rdsB, h]
theorem rds_all {zs : List Int} (h : zs.all rdB = true) (h2 : 1 ≤ zs.length ∧ zs.length ≤ 24) : rdsB zs = true := by simp only [rdsB, h, h2]; rfl
theorem rds_bad {zs : List Int} (h : zs.all rdB = false) : rdsB zs = false := by rw [rdsB, h]; rfl
theorem rds_facts {zs : List Int} (h : rdsB zs = true) : zs.all rdB = true ∧ 1 ≤ zs.length ∧ zs.length ≤ 24 := by
  simp only [rdsB, Bool.and_eq_true, decide_eq_true_eq] at h; exact ⟨h.1, h.2.1, h.2.2⟩
theorem rd_bd {x : Int} (h : rdB x = true) : -999 ≤ x ∧ x ≤ 10999 := by simp [rdB, inB] at h; omega
theorem wt_bd {x : Int} (h : wtB x = true) : 0 ≤ x ∧ x ≤ 9 := by simp [wtB, inB] at h; omega
theorem wt_no {x : Int} (h : wtB x = false) : x < 0 ∨ 9 < x := by
  by_cases hh : 0 ≤ x ∧ x ≤ 9
  · rw [wtB, inB_yes hh] at h; cases h
  · omega
theorem rd_no {x : Int} (h : rdB x = false) : x < -999 ∨ 10999 < x := by
  by_cases hh : -999 ≤ x ∧ x ≤ 10999
  · rw [rdB, inB_yes hh] at h; cases h
  · omega
theorem take_all {zs : List Int} {k : Nat} (h : ¬ k < zs.length) : zs.take k = zs := List.take_of_length_le (by omega)

set_option maxHeartbeats 400000 in
theorem rd_impl (x : Int) (w : World) :
    Calls Try.prog 50 #[.int .i64 x] w fun e w' => e = .returned (.bool (rdB x)) ∧ w = w' := by
  go_enter Try.func50, Try.ntmps50
  go_wp2
  all_goals
    go_ret
    refine ⟨retB ?_, rfl⟩
    rw [Bool.eq_iff_iff]; simp [rdB, inB]; try omega
set_option maxHeartbeats 400000 in
theorem rd_spec (x : Int) (w : World) :
    Calls Try.prog 49 #[.int .i64 x] w fun e w' => e = .returned (.bool (rdB x)) ∧ w = w' := by
  go_enter Try.func49, Try.ntmps49
  go_wp2_with (go_at_call 38; refine (l6In_any _ _ _ _).mono ?_; rintro e w' ⟨rfl, rfl⟩)
  go_ret
  exact ⟨rfl, rfl⟩
set_option maxHeartbeats 1000000 in
theorem rds_impl (a : Option Addr) (cap : Nat) (zs : List Int) (w : World) (h : Ls w a zs) (hm : zs.length ≤ 4611686018427387904) :
    Calls Try.prog 43 #[.slice a zs.length cap] w fun e w' => e = .returned (.bool (rdsB zs)) ∧ w = w' := by
  by_cases h2 : 1 ≤ zs.length ∧ zs.length ≤ 24
  · obtain ⟨h3, h4⟩ := id h2
    have HL := Lib.hid h2
    have d1 : decide ((zs.length : Int) < 1) = false := by simp; omega
    have d2 : decide (24 < (zs.length : Int)) = false := by simp; omega
    clear h2
    go_enter Try.func43, Try.ntmps43
    go_wp2_with fail
    go_loop [15] (fun i => ∃ k : Nat, k ≤ zs.length ∧ i = .int .i64 k ∧ Hid ((zs.take k).all rdB = true)) (fun i => zs.length - (intOf i).toNat)
    case atStart => exact ⟨0, by omega, rfl, Lib.hid (by simp)⟩
    case round =>
      obtain ⟨k, hk, rfl, HA⟩ := hrel
      by_cases hlt : k < zs.length
      · obtain ⟨b, off, rfl, hb, hc⟩ := h.at_ hlt
        rcases Bool.eq_false_or_eq_true (rdB (zs.getD k 0)) with hr | hr
        · have HS := Lib.hid (show (zs.take (k + 1)).all rdB = true by rw [take_snoc_all _ _ _ hlt, HA.out, hr]; rfl)
          generalize zs.getD k 0 = x at hc hr
          go_wp2_with (go_at_call 50; refine (rd_impl _ _).mono ?_; rintro e w' ⟨rfl, rfl⟩)
          go_round
          case rel => exact ⟨k + 1, by omega, by go_num, HS⟩
          case measure => simp [intOf]; omega
        · have HF := Lib.hid (rds_bad (all_not rdB zs k hlt hr))
          generalize zs.getD k 0 = x at hc hr
          go_wp2_with (go_at_call 50; refine (rd_impl _ _).mono ?_; rintro e w' ⟨rfl, rfl⟩)
          go_ret
          exact ⟨retB HF.out.symm, rfl⟩
      · have HT := Lib.hid (rds_all (by rw [← take_all hlt]; exact HA.out) HL.out)
        go_wp2
        go_ret
        exact ⟨retB HT.out.symm, rfl⟩
  · have HF := Lib.hid (rds_len_no h2)
    have hc : decide ((zs.length : Int) < 1) = true ∨ (decide ((zs.length : Int) < 1) = false ∧ decide (24 < (zs.length : Int)) = true) := by
      by_cases h0 : zs.length < 1
      · left; simp; omega
      · right; constructor <;> simp <;> omega
    clear h2
    rcases hc with hc | ⟨hc, hd⟩
    all_goals
      go_enter Try.func43, Try.ntmps43
      go_wp2
      go_ret
      exact ⟨retB HF.out.symm, rfl⟩
set_option maxHeartbeats 1000000 in
theorem rds_spec (a : Option Addr) (cap : Nat) (zs : List Int) (w : World) (h : Ls w a zs) (hm : zs.length ≤ 4611686018427387904) :
    Calls Try.prog 42 #[.slice a zs.length cap] w fun e w' => e = .returned (.bool (rdsB zs)) ∧ w = w' := by
  go_enter Try.func42, Try.ntmps42
  go_wp2_with fail
  go_loop [3] (fun i => ∃ k : Nat, k ≤ zs.length ∧ i = .int .i64 k ∧ Hid ((zs.take k).all rdB = true)) (fun i => zs.length - (intOf i).toNat)
  case atStart => exact ⟨0, by omega, rfl, Lib.hid (by simp)⟩
  case round =>
    obtain ⟨k, hk, rfl, HA⟩ := hrel
    by_cases hlt : k < zs.length
    · obtain ⟨b, off, rfl, hb, hc⟩ := h.at_ hlt
      rcases Bool.eq_false_or_eq_true (rdB (zs.getD k 0)) with hr | hr
      · have HS := Lib.hid (show (zs.take (k + 1)).all rdB = true by rw [take_snoc_all _ _ _ hlt, HA.out, hr]; rfl)
        generalize zs.getD k 0 = x at hc hr
        go_wp2_with (go_at_call 49; refine (rd_spec _ _).mono ?_; rintro e w' ⟨rfl, rfl⟩)
        go_round
        case rel => exact ⟨k + 1, by omega, by go_num, HS⟩
        case measure => simp [intOf]; omega
      · have HF := Lib.hid (rds_bad (all_not rdB zs k hlt hr))
        generalize zs.getD k 0 = x at hc hr
        go_wp2_with (go_at_call 49; refine (rd_spec _ _).mono ?_; rintro e w' ⟨rfl, rfl⟩)
        go_ret
        exact ⟨retB HF.out.symm, rfl⟩
    · have HA2 : Hid (zs.all rdB = true) := Lib.hid (by rw [← take_all hlt]; exact HA.out)
      have HT : Hid (inB (zs.length : Int) 1 24 = rdsB zs) := Lib.hid (by
        by_cases h2 : 1 ≤ zs.length ∧ zs.length ≤ 24
        · rw [rds_all HA2.out h2, inB_yes (by omega)]
        · rw [rds_len_no h2, inB_no (by omega)])
      go_wp2_with (go_at_call 38; refine (l6In_any _ _ _ _).mono ?_; rintro e w' ⟨rfl, rfl⟩)
      go_ret
      exact ⟨retB HT.out, rfl⟩
set_option maxHeartbeats 1000000 in
theorem wts_impl (a : Option Addr) (cap : Nat) (zs : List Int) (w : World) (h : Ls w a zs) (hm : zs.length ≤ 4611686018427387904) :
    Calls Try.prog 47 #[.slice a zs.length cap] w fun e w' => e = .returned (.bool (wtsB zs)) ∧ w = w' := by
  go_enter Try.func47, Try.ntmps47
  go_wp2_with fail
  go_loop [3, 8] (fun c i => ∃ (k : Nat) (b : Bool), k ≤ zs.length ∧ i = .int .i64 k ∧ c = .bool b ∧ Hid ((zs.take k).all wtB = true ∧ (zs.take k).any posB = b)) (fun _ i => zs.length - (intOf i).toNat)
  case atStart => exact ⟨0, false, by omega, rfl, rfl, Lib.hid (by simp)⟩
  case round =>
    obtain ⟨k, bb, hk, rfl, rfl, HA⟩ := hrel
    by_cases hlt : k < zs.length
    · obtain ⟨b, off, rfl, hb, hc⟩ := h.at_ hlt
      rcases Bool.eq_false_or_eq_true (wtB (zs.getD k 0)) with hr | hr
      · have HS := Lib.hid (show (zs.take (k + 1)).all wtB = true ∧ (zs.take (k + 1)).any posB = (bb || posB (zs.getD k 0)) by
          rw [take_snoc_all _ _ _ hlt, take_snoc_any _ _ _ hlt, HA.out.1, HA.out.2, hr]; exact ⟨rfl, rfl⟩)
        generalize zs.getD k 0 = x at hc hr HS
        obtain ⟨x0, x1⟩ := wt_bd hr
        have e1 : decide (x < 0) = false := by simp; omega
        have e2 : decide (9 < x) = false := by simp; omega
        clear hr
        cases bb
        all_goals
          go_wp2
          go_round
          case rel => exact ⟨k + 1, _, by omega, by go_num, rfl, Lib.hid (by have := HS.out; simpa [posB] using this)⟩
          case measure => simp [intOf]; omega
      · have HF : Hid (wtsB zs = false) := Lib.hid (by rw [wtsB, all_not wtB zs k hlt hr]; rfl)
        generalize zs.getD k 0 = x at hc hr
        have hx := wt_no hr
        clear hr
        rcases hx with hx | hx
        · have e1 : decide (x < 0) = true := by simp; omega
          go_wp2
          go_ret
          exact ⟨retB HF.out.symm, rfl⟩
        · have e1 : decide (x < 0) = false := by simp; omega
          have e2 : decide (9 < x) = true := by simp; omega
          go_wp2
          go_ret
          exact ⟨retB HF.out.symm, rfl⟩
    · have HT : Hid (wtsB zs = bb) := Lib.hid (by have := HA.out; rw [take_all hlt] at this; rw [wtsB, this.1, this.2]; rfl)
      go_wp2
      go_ret
      exact ⟨retB HT.out.symm, rfl⟩

/-- The sum of the first k readings with their weights, and that of the first k weights. -/
def wsN (zs ws : List Int) : Nat → Int
  | 0 => 0
  | k + 1 => wsN zs ws k + zs.getD k 0 * ws.getD k 0
def wtN (ws : List Int) : Nat → Int
  | 0 => 0
  | k + 1 => wtN ws k + ws.getD k 0
theorem prod_bd {x y : Int} (h0 : -999 ≤ x) (h1 : x ≤ 10999) (h2 : 0 ≤ y) (h3 : y ≤ 9) : -8991 ≤ x * y ∧ x * y ≤ 98991 := by
  have e : y = 0 ∨ y = 1 ∨ y = 2 ∨ y = 3 ∨ y = 4 ∨ y = 5 ∨ y = 6 ∨ y = 7 ∨ y = 8 ∨ y = 9 := by omega
  rcases e with rfl | rfl | rfl | rfl | rfl | rfl | rfl | rfl | rfl | rfl <;> omega
theorem wsN_bd {zs ws : List Int} (hz : zs.all rdB = true) (hw : ws.all wtB = true) : ∀ k : Nat, k ≤ zs.length → k ≤ ws.length → -8991 * (k : Int) ≤ wsN zs ws k ∧ wsN zs ws k ≤ 98991 * (k : Int) ∧ 0 ≤ wtN ws k ∧ wtN ws k ≤ 9 * (k : Int)
  | 0, _, _ => by simp [wsN, wtN]
  | k + 1, h1, h2 => by
    obtain ⟨i1, i2, i3, i4⟩ := wsN_bd hz hw k (by omega) (by omega)
    obtain ⟨z0, z1⟩ := rd_bd (all_at hz (show k < zs.length by omega))
    obtain ⟨w0, w1⟩ := wt_bd (all_at hw (show k < ws.length by omega))
    obtain ⟨p0, p1⟩ := prod_bd z0 z1 w0 w1
    simp only [wsN, wtN]
    omega
/-- .. step by step, for weights that are not known to be valid yet. -/
theorem wsN_bd' {zs ws : List Int} (hz : zs.all rdB = true) : ∀ k : Nat, k ≤ zs.length → k ≤ ws.length → (ws.take k).all wtB = true → -8991 * (k : Int) ≤ wsN zs ws k ∧ wsN zs ws k ≤ 98991 * (k : Int) ∧ 0 ≤ wtN ws k ∧ wtN ws k ≤ 9 * (k : Int)
  | 0, _, _, _ => by simp [wsN, wtN]
  | k + 1, h1, h2, h3 => by
    rw [take_snoc_all _ _ _ (by omega), Bool.and_eq_true] at h3
    obtain ⟨i1, i2, i3, i4⟩ := wsN_bd' hz k (by omega) (by omega) h3.1
    obtain ⟨z0, z1⟩ := rd_bd (all_at hz (show k < zs.length by omega))
    obtain ⟨w0, w1⟩ := wt_bd h3.2
    obtain ⟨p0, p1⟩ := prod_bd z0 z1 w0 w1
    simp only [wsN, wtN]
    omega
theorem wtN_pos {ws : List Int} (hw : ws.all wtB = true) : ∀ k : Nat, k ≤ ws.length → ((ws.take k).any posB = true → 1 ≤ wtN ws k) ∧ ((ws.take k).any posB = false → wtN ws k = 0) ∧ 0 ≤ wtN ws k
  | 0, _ => by simp [wtN]
  | k + 1, h => by
    obtain ⟨i1, i2, i3⟩ := wtN_pos hw k (by omega)
    obtain ⟨w0, w1⟩ := wt_bd (all_at hw (show k < ws.length by omega))
    rw [take_snoc_any _ _ _ (by omega)]
    simp only [wtN]
    cases h1 : (ws.take k).any posB
    · have e := i2 h1
      refine ⟨?_, ?_, by omega⟩
      · intro h2
        simp only [Bool.false_or, posB, decide_eq_true_eq] at h2
        omega
      · intro h2
        simp only [Bool.false_or, posB, decide_eq_false_iff_not] at h2
        omega
    · have e := i1 h1
      exact ⟨fun _ => by omega, fun h2 => by simp at h2, by omega⟩

def hwOk (zs ws : List Int) : Bool := rdsB zs && decide (ws.length = zs.length) && wtsB ws
def hw (zs ws : List Int) : Int := if hwOk zs ws then rq (wsN zs ws zs.length) (wtN ws zs.length) else 0
theorem hw_yes {zs ws : List Int} (h : hwOk zs ws = true) : hw zs ws = rq (wsN zs ws zs.length) (wtN ws zs.length) := by simp [hw, h]
theorem hw_no {zs ws : List Int} (h : hwOk zs ws = false) : hw zs ws = 0 := by simp [hw, h]
theorem hwOk_facts {zs ws : List Int} (h : hwOk zs ws = true) : rdsB zs = true ∧ ws.length = zs.length ∧ wtsB ws = true ∧ zs.all rdB = true ∧ (1 ≤ zs.length ∧ zs.length ≤ 24) ∧ ws.all wtB = true ∧
    (-215784 ≤ wsN zs ws zs.length ∧ wsN zs ws zs.length ≤ 2375784) ∧ (1 ≤ wtN ws zs.length ∧ wtN ws zs.length ≤ 216) := by
  simp only [hwOk, Bool.and_eq_true, decide_eq_true_eq] at h
  obtain ⟨⟨h1, h2⟩, h3⟩ := h
  obtain ⟨h4, h5, h6⟩ := rds_facts h1
  have h7 := h3
  simp only [wtsB, Bool.and_eq_true] at h7
  obtain ⟨b1, b2, b3, b4⟩ := wsN_bd h4 h7.1 zs.length (by omega) (by omega)
  obtain ⟨p1, _, _⟩ := wtN_pos h7.1 ws.length (by omega)
  have p2 := p1 (by rw [List.take_length]; exact h7.2)
  rw [h2] at p2
  exact ⟨h1, h2, h3, h4, ⟨h5, h6⟩, h7.1, ⟨by omega, by omega⟩, p2, by omega⟩
end Go.Proofs.Ytkapnbfjpglblaa
