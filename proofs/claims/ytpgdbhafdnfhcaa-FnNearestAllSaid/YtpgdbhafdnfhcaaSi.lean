/- Networks: the program and the model answer 'siB'. -/
import Derived.Test.YtpgdbhafdnfhcaaSs
import Derived.LoopTactic
import Derived.IntWalk
import Derived.Deep.QuietTactic
import Derived.BigQuiet
namespace Go.Proofs.Ytpgdbhafdnfhcaa
open Go.RowKit
set_option linter.unusedVariables false

/-- Site i is valid, and behind the one before it. -/
def stp (ts : List R3) (i : Nat) : Bool := tB (ts.getD i t0) && (decide (i = 0) || decide (tS (ts.getD (i - 1) t0) < tS (ts.getD i t0)))
def siB (ts : List R3) : Bool := (List.range ts.length).all (stp ts) && decide (ts.length ≤ 6)
theorem si_at {ts : List R3} (h : siB ts = true) {k : Nat} (hk : k < ts.length) : stp ts k = true := by
  simp only [siB, Bool.and_eq_true, List.all_eq_true, List.mem_range] at h
  exact h.1 k hk
theorem si_len {ts : List R3} (h : siB ts = true) : ts.length ≤ 6 := by
  simp only [siB, Bool.and_eq_true, decide_eq_true_eq] at h
  exact h.2
theorem si_no {ts : List R3} {k : Nat} (hk : k < ts.length) (h : stp ts k = false) : siB ts = false := by
  rcases Bool.eq_false_or_eq_true (siB ts) with h2 | h2
  · rw [si_at h2 hk] at h; cases h
  · exact h2
theorem si_long {ts : List R3} (h : 6 < ts.length) : siB ts = false := by
  simp only [siB, Bool.and_eq_false_iff]
  right; exact decide_eq_false (by omega)
theorem si_yes {ts : List R3} (h : ∀ k, k < ts.length → stp ts k = true) (h2 : ts.length ≤ 6) : siB ts = true := by
  simp only [siB, Bool.and_eq_true, List.all_eq_true, List.mem_range]
  exact ⟨h, decide_eq_true h2⟩
/-- The station before site k, or 0. -/
def bf (ts : List R3) (k : Nat) : Int := if k = 0 then 0 else tS (ts.getD (k - 1) t0)
theorem bf_next (ts : List R3) (k : Nat) : bf ts (k + 1) = tS (ts.getD k t0) := by simp [bf]
theorem stp_bf (ts : List R3) (k : Nat) : stp ts k = (tB (ts.getD k t0) && decide (bf ts k < tS (ts.getD k t0))) := by
  unfold stp bf
  by_cases h0 : k = 0
  · subst h0
    rcases Bool.eq_false_or_eq_true (tB (ts.getD 0 t0)) with h | h
    · have h1 : 1 ≤ tS (ts.getD 0 t0) := by simp [tB, inB] at h; simp; omega
      rw [h]; simp; simpa using (by omega : (0 : Int) < tS (ts.getD 0 t0))
    · rw [h]; rfl
  · simp [h0]
theorem bf_bd {ts : List R3} {k : Nat} (h : ∀ i, i < k → stp ts i = true) : 0 ≤ bf ts k ∧ bf ts k ≤ 9 := by
  unfold bf
  by_cases h0 : k = 0
  · simp [h0]
  · rw [if_neg h0]
    have := h (k - 1) (by omega)
    simp only [stp, Bool.and_eq_true] at this
    have h1 := this.1
    simp [tB, inB] at h1
    simp; omega
theorem coord_any (x : Int) (w : World) : Calls Try.prog 136 #[.int .i64 x] w fun e w' => e = .returned (.bool (inB x 0 999)) ∧ w = w' := by
  by_cases h1 : 0 ≤ x
  · by_cases h2 : x ≤ 999
    · have HF : Hid (inB x 0 999 = true) := Lib.hid (by simp [inB]; omega)
      go_enter Try.func136, Try.ntmps136
      go_wp2
      go_ret
      exact ⟨retB HF.out.symm, rfl⟩
    · have HF : Hid (inB x 0 999 = false) := Lib.hid (by simp [inB]; omega)
      go_enter Try.func136, Try.ntmps136
      go_wp2
      go_ret
      exact ⟨retB HF.out.symm, rfl⟩
  · have HF : Hid (inB x 0 999 = false) := Lib.hid (by simp [inB]; omega)
    go_enter Try.func136, Try.ntmps136
    go_wp2
    go_ret
    exact ⟨retB HF.out.symm, rfl⟩
set_option maxRecDepth 100000 in
set_option maxHeartbeats 800000 in
theorem siteV_any (s x y : Int) (w : World) : Calls Try.prog 117 #[.agg #[.int .i64 s, .int .i64 x, .int .i64 y]] w fun e w' => e = .returned (.bool (inB s 1 9 && inB x 0 999 && inB y 0 999)) ∧ Keep w w' := by
  have hs : inB s 1 9 = decide (1 ≤ s ∧ s ≤ 9) := by simp [inB]
  obtain ⟨b, hb⟩ : ∃ b, inB x 0 999 = b := ⟨_, rfl⟩
  obtain ⟨c, hc⟩ : ∃ c, inB y 0 999 = c := ⟨_, rfl⟩
  have HX := Lib.hid (coord_any x)
  have HY := Lib.hid (coord_any y)
  rw [hb] at HX
  rw [hc] at HY
  rw [hs, hb, hc]
  clear hs hb hc
  by_cases h1 : 1 ≤ s
  · by_cases h2 : s ≤ 9
    · have HE : Hid (decide (1 ≤ s ∧ s ≤ 9) = true) := Lib.hid (decide_eq_true ⟨h1, h2⟩)
      rw [HE.out]
      cases b <;> cases c
      all_goals
        go_enter Try.func117, Try.ntmps117
        go_wp2_with (go_at_call 136; first | (with_reducible refine (HX.out _).mono ?_; rintro e w2 ⟨rfl, rfl⟩) | (with_reducible refine (HY.out _).mono ?_; rintro e w2 ⟨rfl, rfl⟩))
        go_ret
        exact ⟨rfl, (Keep.refl w).alloc _⟩
    · have HE : Hid (decide (1 ≤ s ∧ s ≤ 9) = false) := Lib.hid (decide_eq_false (by omega))
      rw [HE.out]
      go_enter Try.func117, Try.ntmps117
      go_wp2
      go_ret
      exact ⟨rfl, (Keep.refl w).alloc _⟩
  · have HE : Hid (decide (1 ≤ s ∧ s ≤ 9) = false) := Lib.hid (decide_eq_false (by omega))
    rw [HE.out]
    go_enter Try.func117, Try.ntmps117
    go_wp2
    go_ret
    exact ⟨rfl, (Keep.refl w).alloc _⟩
set_option maxRecDepth 100000 in
set_option maxHeartbeats 1600000 in
theorem si_impl (a : Option Addr) (cap : Nat) (ts : List R3) (w : World) (h : Ss w a ts) (hm : ts.length ≤ 4611686018427387904) :
    Calls Try.prog 84 #[.slice a ts.length cap] w fun e w' => e = .returned (.bool (siB ts)) ∧ Keep w w' := by
  by_cases h2 : ts.length ≤ 6
  · have d1 : decide (6 < (ts.length : Int)) = false := by simp; omega
    have HL := Lib.hid h2
    go_enter Try.func84, Try.ntmps84
    go_wp2_with fail
    go_loopw [3, 11] (fun p i wr => ∃ (k : Nat) (v : Int), k ≤ ts.length ∧ i = .int .i64 k ∧ p = .int .i64 v ∧ (0 ≤ v ∧ v ≤ 9) ∧ Hid (bf ts k = v) ∧ Hid (∀ i, i < k → stp ts i = true) ∧ Keep w wr) (fun _ i _ => ts.length - (intOf i).toNat)
    case atStart => exact ⟨0, 0, by omega, rfl, rfl, by omega, Lib.hid (by simp [bf]), Lib.hid (fun i hi => absurd hi (by omega)), Keep.refl w⟩
    case round =>
      obtain ⟨k, v, hk, rfl, rfl, ⟨v0, v9⟩, HB, HA, hK⟩ := hrel
      by_cases hlt : k < ts.length
      · obtain ⟨b, off, rfl, hb, hc⟩ := (h.keep hK).at_ hlt
        obtain ⟨c0, c1, c2⟩ := hc
        have HP := Lib.hid (stp_bf ts k)
        have HN := Lib.hid (bf_next ts k)
        have HT : Hid (tB (ts.getD k t0) = (inB (tS (ts.getD k t0)) 1 9 && inB (tX (ts.getD k t0)) 0 999 && inB (tY (ts.getD k t0)) 0 999)) := Lib.hid rfl
        rw [HB.out] at HP
        generalize tS (ts.getD k t0) = s at *
        generalize tX (ts.getD k t0) = x at *
        generalize tY (ts.getD k t0) = y at *
        obtain ⟨g, hg⟩ : ∃ g, (inB s 1 9 && inB x 0 999 && inB y 0 999) = g := ⟨_, rfl⟩
        have HV := Lib.hid (siteV_any s x y)
        rw [hg] at HV
        have hsb : g = true → 1 ≤ s ∧ s ≤ 9 := fun e => by subst e; simp [inB] at hg; omega
        rw [hg] at HT
        rw [HT.out] at HP
        clear hg HT
        cases g
        · have HF := Lib.hid (si_no hlt (by rw [HP.out]; rfl))
          clear hsb HP
          go_wp2_with fail
          refine (HV.out _).mono ?_
          rintro e w1 ⟨rfl, k1⟩
          go_wp2
          go_ret
          exact ⟨retB HF.out.symm, (hK.alloc _).trans k1⟩
        · obtain ⟨s0, s9⟩ := hsb rfl
          clear hsb
          by_cases hv : v < s
          · have hnl : ¬ s ≤ v := by omega
            have HS : Hid (∀ i, i < k + 1 → stp ts i = true) := Lib.hid (fun i hi => by
              by_cases e : i < k
              · exact HA.out i e
              · obtain rfl : i = k := by omega
                rw [HP.out, decide_eq_true hv]; rfl)
            clear HP
            go_wp2_with fail
            refine (HV.out _).mono ?_
            rintro e w1 ⟨rfl, k1⟩
            have d0 := k1.cell (World.cell?_alloc_new wr #[.int .i64 s, .int .i64 x, .int .i64 y] 62 0)
            go_wp2
            go_roundw
            case rel => exact ⟨k + 1, s, by omega, by go_num, rfl, by omega, HN, HS, (hK.alloc _).trans k1⟩
            case measure => simp [intOf]; omega
          · have HF := Lib.hid (si_no hlt (by rw [HP.out, decide_eq_false hv]; rfl))
            have hnl : s ≤ v := by omega
            clear HP
            go_wp2_with fail
            refine (HV.out _).mono ?_
            rintro e w1 ⟨rfl, k1⟩
            have d0 := k1.cell (World.cell?_alloc_new wr #[.int .i64 s, .int .i64 x, .int .i64 y] 62 0)
            go_wp2
            go_ret
            exact ⟨retB HF.out.symm, (hK.alloc _).trans k1⟩
      · have HT := Lib.hid (si_yes (ts := ts) (fun i hi => HA.out i (by omega)) h2)
        go_wp2
        go_ret
        exact ⟨retB HT.out.symm, hK⟩
  · have HF := Lib.hid (si_long (ts := ts) (by omega))
    have d1 : decide (6 < (ts.length : Int)) = true := by simp; omega
    go_enter Try.func84, Try.ntmps84
    go_wp2
    go_ret
    exact ⟨retB HF.out.symm, Keep.refl w⟩
theorem litB {P : Program} {f : FuncId} {args : Array Value} {w : World} {a b : Bool} (h : a = b) (c : Calls P f args w fun e w' => e = .returned (.bool a) ∧ w = w') :
    Calls P f args w fun e w' => e = .returned (.bool b) ∧ w = w' := by subst h; exact c
theorem quietB {P : Program} {f : FuncId} {args : Array Value} {w : World} {n : Nat} {v : Value}
    (h : Calls P f args (w.drewN n) fun e w' => e = .returned v ∧ w.drewN n = w') : Calls P f args (w.drewN n) fun e w'' => e = .returned v ∧ ∃ m, w'' = w.drewN m :=
  h.mono fun _ _ ⟨he, hm⟩ => ⟨he, n, hm.symm⟩
set_option maxRecDepth 100000 in
set_option maxHeartbeats 3200000 in
theorem si_spec (a : Option Addr) (cap : Nat) (ts : List R3) (w : World) (h : Ss w a ts) (hm : ts.length ≤ 4611686018427387904) :
    Calls Try.prog 49 #[.slice a ts.length cap] w fun e w' => e = .returned (.bool (siB ts)) ∧ Keep w w' := by
  go_enter Try.func49, Try.ntmps49
  go_wp2_with fail
  go_loopw [3] (fun i wr => ∃ k : Nat, k ≤ ts.length ∧ i = .int .i64 k ∧ Hid (∀ i, i < k → stp ts i = true) ∧ Keep w wr) (fun i _ => ts.length - (intOf i).toNat)
  case atStart => exact ⟨0, by omega, rfl, Lib.hid (fun i hi => absurd hi (by omega)), Keep.refl w⟩
  case round =>
    obtain ⟨k, hk, rfl, HA, hK⟩ := hrel
    by_cases hlt : k < ts.length
    case' neg =>
      by_cases h6 : ts.length ≤ 6
      · have HT := Lib.hid (si_yes (ts := ts) (fun i hi => HA.out i (by omega)) h6)
        go_wp2
        go_ret
        exact ⟨retB (by rw [HT.out]; simp; omega), hK⟩
      · have HF := Lib.hid (si_long (ts := ts) (by omega))
        go_wp2
        go_ret
        exact ⟨retB (by rw [HF.out]; simp; omega), hK⟩
    obtain ⟨b, off, rfl, hb, hc⟩ := (h.keep hK).all (by omega)
    obtain ⟨c0, c1, c2⟩ := hc k hlt
    have hd : ∀ q, q + 1 = k → wr.cell? ⟨b, off + q * 3, none⟩ = some (.int .i64 (tS (ts.getD q t0))) := fun q hq => (hc q (by omega)).s
    have HP : Hid (stp ts k = (tB (ts.getD k t0) && (decide (k = 0) || decide (tS (ts.getD (k - 1) t0) < tS (ts.getD k t0))))) := Lib.hid rfl
    have HT : Hid (tB (ts.getD k t0) = (inB (tS (ts.getD k t0)) 1 9 && inB (tX (ts.getD k t0)) 0 999 && inB (tY (ts.getD k t0)) 0 999)) := Lib.hid rfl
    rw [HT.out] at HP
    have k0 : (0 : Int) ≤ (k : Int) := by omega
    have kz : (k : Int) < (ts.length : Int) := by omega
    clear hc HT
    generalize tS (ts.getD k t0) = s at *
    generalize tX (ts.getD k t0) = x at *
    generalize tY (ts.getD k t0) = y at *
    obtain ⟨g1, hs⟩ : ∃ g, inB s 1 9 = g := ⟨_, rfl⟩
    obtain ⟨g2, hx⟩ : ∃ g, inB x 0 999 = g := ⟨_, rfl⟩
    obtain ⟨g3, hy⟩ : ∃ g, inB y 0 999 = g := ⟨_, rfl⟩
    rw [hs, hx, hy] at HP
    cases g1
    case' false =>
      have HF := Lib.hid (si_no hlt (by rw [HP.out]; rfl))
      clear hd HP
      go_wp2_with fail
      go_quiet ((go_at_call 50; first | (with_reducible exact quietB (litB hs (l6In_any s _ _ _))) | (with_reducible exact quietB (litB hx (l6In_any x _ _ _))) | (with_reducible exact quietB (litB hy (l6In_any y _ _ _)))))
      go_wp2
      go_ret
      exact ⟨retB HF.out.symm, by first | exact hK | exact hK.drewN _⟩
    cases g2
    case' false =>
      have HF := Lib.hid (si_no hlt (by rw [HP.out]; rfl))
      clear hd HP
      go_wp2_with fail
      go_quiet ((go_at_call 50; first | (with_reducible exact quietB (litB hs (l6In_any s _ _ _))) | (with_reducible exact quietB (litB hx (l6In_any x _ _ _))) | (with_reducible exact quietB (litB hy (l6In_any y _ _ _)))))
      go_wp2
      go_ret
      exact ⟨retB HF.out.symm, by first | exact hK | exact hK.drewN _⟩
    cases g3
    case' false =>
      have HF := Lib.hid (si_no hlt (by rw [HP.out]; rfl))
      clear hd HP
      go_wp2_with fail
      go_quiet ((go_at_call 50; first | (with_reducible exact quietB (litB hs (l6In_any s _ _ _))) | (with_reducible exact quietB (litB hx (l6In_any x _ _ _))) | (with_reducible exact quietB (litB hy (l6In_any y _ _ _)))))
      go_wp2
      go_ret
      exact ⟨retB HF.out.symm, by first | exact hK | exact hK.drewN _⟩
    have hcase : k = 0 ∨ ∃ q, k = q + 1 := by
      cases k with
      | zero => exact .inl rfl
      | succ q => exact .inr ⟨q, rfl⟩
    rcases hcase with rfl | ⟨q, rfl⟩
    · have HS : Hid (∀ i, i < 0 + 1 → stp ts i = true) := Lib.hid (fun i hi => by
        obtain rfl : i = 0 := by omega
        rw [HP.out]; rfl)
      simp only [Nat.zero_mul, Nat.add_zero] at c0 c1 c2
      clear HP hd
      go_wp2_with fail
      go_quiet ((go_at_call 50; first | (with_reducible exact quietB (litB hs (l6In_any s _ _ _))) | (with_reducible exact quietB (litB hx (l6In_any x _ _ _))) | (with_reducible exact quietB (litB hy (l6In_any y _ _ _)))))
      go_wp2
      go_roundw
      case rel => exact ⟨0 + 1, by omega, by go_num, HS, by first | exact hK | exact hK.drewN _⟩
      case measure => simp [intOf]; omega
    · have dq := hd q rfl
      rw [Nat.add_sub_cancel] at HP
      have q0 : (0 : Int) ≤ (q : Int) := by omega
      have qz : (q : Int) < (ts.length : Int) := by omega
      have hq0 : decide (q + 1 = 0) = false := rfl
      rw [hq0] at HP
      clear hd hq0
      generalize tS (ts.getD q t0) = v at *
      by_cases hv : v < s
      · have hnl : ¬ s ≤ v := by omega
        have HS : Hid (∀ i, i < q + 1 + 1 → stp ts i = true) := Lib.hid (fun i hi => by
          by_cases e : i < q + 1
          · exact HA.out i e
          · obtain rfl : i = q + 1 := by omega
            rw [HP.out, decide_eq_true hv]; rfl)
        clear HP
        go_wp2_with fail
        go_quiet ((go_at_call 50; first | (with_reducible exact quietB (litB hs (l6In_any s _ _ _))) | (with_reducible exact quietB (litB hx (l6In_any x _ _ _))) | (with_reducible exact quietB (litB hy (l6In_any y _ _ _)))))
        go_wp2
        go_roundw
        case rel => exact ⟨q + 1 + 1, by omega, by go_num, HS, by first | exact hK | exact hK.drewN _⟩
        case measure => simp [intOf]; omega
      · have HF := Lib.hid (si_no hlt (by rw [HP.out, decide_eq_false hv]; rfl))
        have hnl : s ≤ v := by omega
        clear HP
        go_wp2_with fail
        go_quiet ((go_at_call 50; first | (with_reducible exact quietB (litB hs (l6In_any s _ _ _))) | (with_reducible exact quietB (litB hx (l6In_any x _ _ _))) | (with_reducible exact quietB (litB hy (l6In_any y _ _ _)))))
        go_wp2
        go_ret
        exact ⟨retB HF.out.symm, by first | exact hK | exact hK.drewN _⟩
end Go.Proofs.Ytpgdbhafdnfhcaa
