/- Values that agree: the program and the model answer 'ffV'. -/
import Derived.Test.YtmndlghadgccbabGa
namespace Go.Proofs.Ytmndlghadgccbab
open Go.RowKit
set_option linter.unusedVariables false

theorem ffD_cases (zs ds : List Int) (lo hi st : Int) (k : Nat) :
    (ds.getD k 0 < lo ∧ ffD zs ds lo hi st k = false) ∨ (lo ≤ ds.getD k 0 ∧ hi < ds.getD k 0 ∧ ffD zs ds lo hi st k = false) ∨
    (lo ≤ ds.getD k 0 ∧ ds.getD k 0 ≤ hi ∧ (zs.getD k 0 != -9999) = true ∧ (zs.getD k 0 == ds.getD k 0) = false ∧ (ds.getD k 0 == zs.getD k 0) = false ∧ ffD zs ds lo hi st k = false) ∨
    (lo ≤ ds.getD k 0 ∧ ds.getD k 0 ≤ hi ∧ zs.getD k 0 = -9999 ∧ ffD zs ds lo hi st k = (decide (k = 0) || inB (ds.getD k 0 - ds.getD (k - 1) 0) (-st) st)) ∨
    (lo ≤ ds.getD k 0 ∧ ds.getD k 0 ≤ hi ∧ (zs.getD k 0 != -9999) = true ∧ zs.getD k 0 = ds.getD k 0 ∧ ffD zs ds lo hi st k = (decide (k = 0) || inB (ds.getD k 0 - ds.getD (k - 1) 0) (-st) st)) := by
  unfold ffD
  generalize ds.getD k 0 = x
  generalize zs.getD k 0 = z
  generalize (decide (k = 0) || inB (x - ds.getD (k - 1) 0) (-st) st) = b
  by_cases h1 : x < lo
  · left; refine ⟨h1, ?_⟩
    rw [inB_no (by omega)]; rfl
  · by_cases h2 : hi < x
    · right; left; refine ⟨by omega, h2, ?_⟩
      rw [inB_no (by omega)]; rfl
    · have h3 : inB x lo hi = true := inB_yes (by omega)
      rw [h3]
      by_cases h4 : z = -9999
      · right; right; right; left
        refine ⟨by omega, by omega, h4, ?_⟩
        rw [decide_eq_true h4]; rfl
      · have h5 : (z != -9999) = true := bne_iff_ne.2 h4
        by_cases h6 : z = x
        · right; right; right; right
          refine ⟨by omega, by omega, h5, h6, ?_⟩
          rw [decide_eq_true h6, Bool.or_true]; rfl
        · right; right; left
          refine ⟨by omega, by omega, h5, beq_eq_false_iff_ne.2 h6, beq_eq_false_iff_ne.2 (fun e => h6 e.symm), ?_⟩
          rw [decide_eq_false h4, decide_eq_false h6]; rfl
theorem quietG {P : Program} {f : FuncId} {args : Array Value} {w : World} {n : Nat} {v : Value}
    (h : Calls P f args (w.drewN n) fun e w' => e = .returned v ∧ w.drewN n = w') : Calls P f args (w.drewN n) fun e w'' => e = .returned v ∧ ∃ m, w'' = w.drewN m :=
  h.mono fun _ _ ⟨he, hm⟩ => ⟨he, n, hm.symm⟩
theorem ffV_no1 {zs ds : List Int} {lo hi st : Int} (h : gaB zs lo hi st = false) : ffV zs ds lo hi st = false := by rw [ffV, h]; rfl
theorem ffV_no2 {zs ds : List Int} {lo hi st : Int} (h : ¬ ds.length = zs.length) : ffV zs ds lo hi st = false := by rw [ffV, decide_eq_false h]; simp
theorem ffV_no3 {zs ds : List Int} {lo hi st : Int} {k : Nat} (hk : k < zs.length) (h : ffD zs ds lo hi st k = false) : ffV zs ds lo hi st = false := by rw [ffV, ffN_no hk h]; simp
theorem ffV_yes {zs ds : List Int} {lo hi st : Int} (h : gaB zs lo hi st = true) (h2 : ds.length = zs.length) (h3 : ffN zs ds lo hi st zs.length = true) : ffV zs ds lo hi st = true := by rw [ffV, h, decide_eq_true h2, h3]; rfl
set_option maxRecDepth 100000 in
set_option maxHeartbeats 2000000 in
theorem ff_impl (a b : Option Addr) (c d : Nat) (zs ds : List Int) (lo hi st : Int) (w : World) (h : Ls w a zs) (h2 : Ls w b ds) (hm : zs.length ≤ 4611686018427387904) (hm2 : ds.length ≤ 4611686018427387904) :
    Calls Try.prog 17 #[.slice a zs.length c, .int .i64 lo, .int .i64 hi, .int .i64 st, .slice b ds.length d] w fun e w' => e = .returned (.bool (ffV zs ds lo hi st)) ∧ Keep w w' := by
  have HG := Lib.hid (ga_impl a c zs lo hi st w h hm)
  obtain ⟨g, hg⟩ : ∃ g, gaB zs lo hi st = g := ⟨_, rfl⟩
  have HG2 := Lib.hid hg
  rw [hg] at HG
  cases g
  · have HF := Lib.hid (ffV_no1 (ds := ds) hg)
    clear hg
    go_enter Try.func17, Try.ntmps17
    go_wp2_with (go_at_call 42; refine HG.out.mono ?_; rintro e w' ⟨rfl, rfl⟩)
    go_ret
    exact ⟨retB HF.out.symm, Keep.refl _⟩
  obtain ⟨hsq, ⟨hlo, hhi⟩, hlh, hst0, hst1⟩ := gaB_facts hg
  have hl12 := (sq_facts hsq).2.2
  clear hg hsq
  by_cases hl : ds.length = zs.length
  case' neg =>
    have HF := Lib.hid (ffV_no2 (lo := lo) (hi := hi) (st := st) hl)
    have e1 : ((ds.length : Int) != (zs.length : Int)) = true := bne_iff_ne.2 (by omega)
    go_enter Try.func17, Try.ntmps17
    go_wp2_with (go_at_call 42; refine HG.out.mono ?_; rintro e w' ⟨rfl, rfl⟩)
    go_ret
    exact ⟨retB HF.out.symm, Keep.refl _⟩
  have e1 : ((ds.length : Int) != (zs.length : Int)) = false := by simp [hl]
  have HL := Lib.hid hl
  have hl1 : ds.length ≤ zs.length := by omega
  have hl2 : zs.length ≤ ds.length := by omega
  clear hl
  go_enter Try.func17, Try.ntmps17
  go_wp2_with (go_at_call 42; refine HG.out.mono ?_; rintro e w' ⟨rfl, rfl⟩)
  go_loopw [28] (fun i wr => ∃ k : Nat, k ≤ ds.length ∧ i = .int .i64 k ∧ Hid (ffN zs ds lo hi st k = true) ∧ Keep w wr) (fun i _ => ds.length - (intOf i).toNat)
  case atStart => exact ⟨0, by omega, rfl, Lib.hid rfl, Keep.refl _⟩
  case round =>
    obtain ⟨k, hk, rfl, HA, hK⟩ := hrel
    by_cases hlt : k < ds.length
    case' neg =>
      obtain rfl : k = ds.length := by omega
      have HF := Lib.hid (ffV_yes HG2.out HL.out (by have h1 := HA.out; rw [HL.out] at h1; exact h1))
      go_wp2
      go_ret
      exact ⟨retB HF.out.symm, hK⟩
    have hlz : k < zs.length := by omega
    obtain ⟨bz, oz, rfl, _, cz⟩ := (h.keep hK).at_ hlz
    obtain ⟨bd, od, rfl, _, hcd⟩ := (h2.keep hK).all (by omega)
    have cd := hcd k hlt
    have k0 : (0 : Int) ≤ (k : Int) := by omega
    have kz : (k : Int) < (zs.length : Int) := by omega
    have kd : (k : Int) < (ds.length : Int) := by omega
    have HP : Hid (k = 0 ∨ ∃ j, k = j + 1 ∧ wr.cell? ⟨bd, od + j, none⟩ = some (.int .i64 (ds.getD j 0)) ∧ lo ≤ ds.getD j 0 ∧ ds.getD j 0 ≤ hi) := Lib.hid (by
      cases k with
      | zero => exact .inl rfl
      | succ j =>
        have hf := (ffD_facts (ffN_at HA.out (show j < j + 1 by omega))).1
        exact .inr ⟨j, rfl, hcd j (by omega), hf.1, hf.2⟩)
    have HAk : Hid (∀ h : ffD zs ds lo hi st k = true, ffN zs ds lo hi st (k + 1) = true) := Lib.hid (fun h => ffN_yes HA.out h)
    have HV0 : Hid (∀ h : ffD zs ds lo hi st k = false, ffV zs ds lo hi st = false) := Lib.hid (fun h => ffV_no3 hlz h)
    clear hcd
    rcases ffD_cases zs ds lo hi st k with ⟨x1, hf⟩ | ⟨x1, x2, hf⟩ | ⟨x1, x2, z1, z2, z3, hf⟩ | ⟨x1, x2, z1, hf⟩ | ⟨x1, x2, z1, z2, hf⟩
    · have HF := Lib.hid (HV0.out hf)
      have I0 : inB (ds.getD k 0) lo hi = false := inB_no (by omega)
      have d1 : decide (ds.getD k 0 < lo) = true := decide_eq_true x1
      clear hf
      generalize ds.getD k 0 = x at *
      generalize zs.getD k 0 = z at *
      go_wp2_with fail
      go_ret
      exact ⟨retB HF.out.symm, hK⟩
    · have HF := Lib.hid (HV0.out hf)
      have I0 : inB (ds.getD k 0) lo hi = false := inB_no (by omega)
      have d1 : decide (ds.getD k 0 < lo) = false := decide_eq_false (by omega)
      have d2 : decide (hi < ds.getD k 0) = true := decide_eq_true x2
      clear hf
      generalize ds.getD k 0 = x at *
      generalize zs.getD k 0 = z at *
      go_wp2_with fail
      go_ret
      exact ⟨retB HF.out.symm, hK⟩
    · have HF := Lib.hid (HV0.out hf)
      have I0 : inB (ds.getD k 0) lo hi = true := inB_yes (by omega)
      have d1 : decide (ds.getD k 0 < lo) = false := decide_eq_false (by omega)
      have d2 : decide (hi < ds.getD k 0) = false := decide_eq_false (by omega)
      have z4 : (zs.getD k 0 != ds.getD k 0) = true := bne_iff_ne.2 (beq_eq_false_iff_ne.1 z2)
      have z5 : (ds.getD k 0 != zs.getD k 0) = true := bne_iff_ne.2 (beq_eq_false_iff_ne.1 z3)
      clear hf
      generalize ds.getD k 0 = x at *
      generalize zs.getD k 0 = z at *
      go_wp2_with fail
      go_ret
      exact ⟨retB HF.out.symm, hK⟩
    all_goals
      have I0 : inB (ds.getD k 0) lo hi = true := inB_yes (by omega)
      have d1 : decide (ds.getD k 0 < lo) = false := decide_eq_false (by omega)
      have d2 : decide (hi < ds.getD k 0) = false := decide_eq_false (by omega)
      have HFD := Lib.hid hf
      clear hf
      first | (rw [z1] at cz; clear z1) | (rw [z2] at cz z1; clear z2)
      rcases HP.out with rfl | ⟨j, rfl, cj, j1, j2⟩
      · have HN := Lib.hid (HAk.out (by rw [HFD.out]; rfl))
        clear HFD HAk HV0 HP
        simp only [Nat.add_zero] at cd cz
        generalize ds.getD 0 0 = x at *
        go_wp2_with fail
        go_roundw
        case rel => exact ⟨0 + 1, by omega, by go_num, HN, hK⟩
        case measure => simp [intOf]; omega
      · rw [show j + 1 - 1 = j by omega] at HFD
        replace HFD : Hid (ffD zs ds lo hi st (j + 1) = inB (ds.getD (j + 1) 0 - ds.getD j 0) (-st) st) := Lib.hid (by rw [HFD.out, decide_eq_false (show ¬ j + 1 = 0 by omega)]; rfl)
        have jd : (j : Int) < (ds.length : Int) := by omega
        have j0 : (0 : Int) ≤ (j : Int) := by omega
        clear HP
        generalize ds.getD (j + 1) 0 = x at *
        generalize ds.getD j 0 = p at *
        rcases Bool.eq_false_or_eq_true (inB (x - p) (-st) st) with hin | hin
        · have HN := Lib.hid (HAk.out (by rw [HFD.out, hin]))
          have DS : decide (st < dst p x) = false := by first | (rw [dst_in, hin]; rfl) | (rw [dst_comm p x, dst_in, hin]; rfl)
          clear HFD HAk HV0
          have HD := Lib.hid (fun W => dst_any p x W (by omega) (by omega) (by omega) (by omega))
          generalize dst p x = dd at *
          go_wp2_with fail
          refine (HD.out _).mono ?_
          rintro e w' ⟨rfl, rfl⟩
          go_wp2
          go_roundw
          case rel => exact ⟨j + 1 + 1, by omega, by go_num, HN, hK⟩
          case measure => simp [intOf]; omega
        · have HF := Lib.hid (HV0.out (by rw [HFD.out, hin]))
          have DS : decide (st < dst p x) = true := by first | (rw [dst_in, hin]; rfl) | (rw [dst_comm p x, dst_in, hin]; rfl)
          clear HFD HAk HV0
          have HD := Lib.hid (fun W => dst_any p x W (by omega) (by omega) (by omega) (by omega))
          generalize dst p x = dd at *
          go_wp2_with fail
          refine (HD.out _).mono ?_
          rintro e w' ⟨rfl, rfl⟩
          go_wp2
          go_ret
          exact ⟨retB HF.out.symm, hK⟩
set_option maxRecDepth 100000 in
set_option maxHeartbeats 2000000 in
theorem ff_spec (a b : Option Addr) (c d : Nat) (zs ds : List Int) (lo hi st : Int) (w : World) (h : Ls w a zs) (h2 : Ls w b ds) (hm : zs.length ≤ 4611686018427387904) (hm2 : ds.length ≤ 4611686018427387904) :
    Calls Try.prog 18 #[.slice a zs.length c, .int .i64 lo, .int .i64 hi, .int .i64 st, .slice b ds.length d] w fun e w' => e = .returned (.bool (ffV zs ds lo hi st)) ∧ Keep w w' := by
  have HG := Lib.hid (ga_spec a c zs lo hi st w h hm)
  obtain ⟨g, hg⟩ : ∃ g, gaB zs lo hi st = g := ⟨_, rfl⟩
  have HG2 := Lib.hid hg
  rw [hg] at HG
  cases g
  · have HF := Lib.hid (ffV_no1 (ds := ds) hg)
    clear hg
    go_enter Try.func18, Try.ntmps18
    go_wp2_with (go_at_call 44; refine HG.out.mono ?_; rintro e w' ⟨rfl, rfl⟩)
    go_ret
    exact ⟨retB HF.out.symm, Keep.refl _⟩
  obtain ⟨hsq, ⟨hlo, hhi⟩, hlh, hst0, hst1⟩ := gaB_facts hg
  have hl12 := (sq_facts hsq).2.2
  clear hg hsq
  by_cases hl : ds.length = zs.length
  case' neg =>
    have HF := Lib.hid (ffV_no2 (lo := lo) (hi := hi) (st := st) hl)
    have e1 : ((ds.length : Int) != (zs.length : Int)) = true := bne_iff_ne.2 (by omega)
    go_enter Try.func18, Try.ntmps18
    go_wp2_with (go_at_call 44; refine HG.out.mono ?_; rintro e w' ⟨rfl, rfl⟩)
    go_ret
    exact ⟨retB HF.out.symm, Keep.refl _⟩
  have e1 : ((ds.length : Int) != (zs.length : Int)) = false := by simp [hl]
  have HL := Lib.hid hl
  have hl1 : ds.length ≤ zs.length := by omega
  have hl2 : zs.length ≤ ds.length := by omega
  clear hl
  go_enter Try.func18, Try.ntmps18
  go_wp2_with (go_at_call 44; refine HG.out.mono ?_; rintro e w' ⟨rfl, rfl⟩)
  go_loopw [11] (fun i wr => ∃ k : Nat, k ≤ ds.length ∧ i = .int .i64 k ∧ Hid (ffN zs ds lo hi st k = true) ∧ Keep w wr) (fun i _ => ds.length - (intOf i).toNat)
  case atStart => exact ⟨0, by omega, rfl, Lib.hid rfl, Keep.refl _⟩
  case round =>
    obtain ⟨k, hk, rfl, HA, hK⟩ := hrel
    by_cases hlt : k < ds.length
    case' neg =>
      obtain rfl : k = ds.length := by omega
      have HF := Lib.hid (ffV_yes HG2.out HL.out (by have h1 := HA.out; rw [HL.out] at h1; exact h1))
      go_wp2
      go_ret
      exact ⟨retB HF.out.symm, hK⟩
    have hlz : k < zs.length := by omega
    obtain ⟨bz, oz, rfl, _, cz⟩ := (h.keep hK).at_ hlz
    obtain ⟨bd, od, rfl, _, hcd⟩ := (h2.keep hK).all (by omega)
    have cd := hcd k hlt
    have k0 : (0 : Int) ≤ (k : Int) := by omega
    have kz : (k : Int) < (zs.length : Int) := by omega
    have kd : (k : Int) < (ds.length : Int) := by omega
    have HP : Hid (k = 0 ∨ ∃ j, k = j + 1 ∧ wr.cell? ⟨bd, od + j, none⟩ = some (.int .i64 (ds.getD j 0)) ∧ lo ≤ ds.getD j 0 ∧ ds.getD j 0 ≤ hi) := Lib.hid (by
      cases k with
      | zero => exact .inl rfl
      | succ j =>
        have hf := (ffD_facts (ffN_at HA.out (show j < j + 1 by omega))).1
        exact .inr ⟨j, rfl, hcd j (by omega), hf.1, hf.2⟩)
    have HAk : Hid (∀ h : ffD zs ds lo hi st k = true, ffN zs ds lo hi st (k + 1) = true) := Lib.hid (fun h => ffN_yes HA.out h)
    have HV0 : Hid (∀ h : ffD zs ds lo hi st k = false, ffV zs ds lo hi st = false) := Lib.hid (fun h => ffV_no3 hlz h)
    clear hcd
    rcases ffD_cases zs ds lo hi st k with ⟨x1, hf⟩ | ⟨x1, x2, hf⟩ | ⟨x1, x2, z1, z2, z3, hf⟩ | ⟨x1, x2, z1, hf⟩ | ⟨x1, x2, z1, z2, hf⟩
    · have HF := Lib.hid (HV0.out hf)
      have I0 : inB (ds.getD k 0) lo hi = false := inB_no (by omega)
      have d1 : decide (ds.getD k 0 < lo) = true := decide_eq_true x1
      clear hf
      generalize ds.getD k 0 = x at *
      generalize zs.getD k 0 = z at *
      have HI0 := Lib.hid (fun W => l6In_any x lo hi W)
      rw [I0] at HI0
      go_wp2_with fail
      go_quiet ((go_at_call 45; exact quietG (HI0.out _)))
      go_wp2
      go_ret
      exact ⟨retB HF.out.symm, hK.drewN _⟩
    · have HF := Lib.hid (HV0.out hf)
      have I0 : inB (ds.getD k 0) lo hi = false := inB_no (by omega)
      have d1 : decide (ds.getD k 0 < lo) = false := decide_eq_false (by omega)
      have d2 : decide (hi < ds.getD k 0) = true := decide_eq_true x2
      clear hf
      generalize ds.getD k 0 = x at *
      generalize zs.getD k 0 = z at *
      have HI0 := Lib.hid (fun W => l6In_any x lo hi W)
      rw [I0] at HI0
      go_wp2_with fail
      go_quiet ((go_at_call 45; exact quietG (HI0.out _)))
      go_wp2
      go_ret
      exact ⟨retB HF.out.symm, hK.drewN _⟩
    · have HF := Lib.hid (HV0.out hf)
      have I0 : inB (ds.getD k 0) lo hi = true := inB_yes (by omega)
      have d1 : decide (ds.getD k 0 < lo) = false := decide_eq_false (by omega)
      have d2 : decide (hi < ds.getD k 0) = false := decide_eq_false (by omega)
      have z4 : (zs.getD k 0 != ds.getD k 0) = true := bne_iff_ne.2 (beq_eq_false_iff_ne.1 z2)
      have z5 : (ds.getD k 0 != zs.getD k 0) = true := bne_iff_ne.2 (beq_eq_false_iff_ne.1 z3)
      clear hf
      generalize ds.getD k 0 = x at *
      generalize zs.getD k 0 = z at *
      have HI0 := Lib.hid (fun W => l6In_any x lo hi W)
      rw [I0] at HI0
      go_wp2_with fail
      go_quiet ((go_at_call 45; exact quietG (HI0.out _)))
      go_wp2
      go_ret
      exact ⟨retB HF.out.symm, hK.drewN _⟩
    all_goals
      have I0 : inB (ds.getD k 0) lo hi = true := inB_yes (by omega)
      have d1 : decide (ds.getD k 0 < lo) = false := decide_eq_false (by omega)
      have d2 : decide (hi < ds.getD k 0) = false := decide_eq_false (by omega)
      have HFD := Lib.hid hf
      clear hf
      first | (rw [z1] at cz; clear z1) | (rw [z2] at cz z1; clear z2)
      rcases HP.out with rfl | ⟨j, rfl, cj, j1, j2⟩
      · have HN := Lib.hid (HAk.out (by rw [HFD.out]; rfl))
        clear HFD HAk HV0 HP
        simp only [Nat.add_zero] at cd cz
        generalize ds.getD 0 0 = x at *
        have HI0 := Lib.hid (fun W => l6In_any x lo hi W)
        rw [I0] at HI0
        go_wp2_with fail
        go_quiet ((go_at_call 45; exact quietG (HI0.out _)))
        go_wp2
        go_roundw
        case rel => exact ⟨0 + 1, by omega, by go_num, HN, hK.drewN _⟩
        case measure => simp [intOf]; omega
      · rw [show j + 1 - 1 = j by omega] at HFD
        replace HFD : Hid (ffD zs ds lo hi st (j + 1) = inB (ds.getD (j + 1) 0 - ds.getD j 0) (-st) st) := Lib.hid (by rw [HFD.out, decide_eq_false (show ¬ j + 1 = 0 by omega)]; rfl)
        have jd : (j : Int) < (ds.length : Int) := by omega
        have j0 : (0 : Int) ≤ (j : Int) := by omega
        clear HP
        generalize ds.getD (j + 1) 0 = x at *
        generalize ds.getD j 0 = p at *
        rcases Bool.eq_false_or_eq_true (inB (x - p) (-st) st) with hin | hin
        · have HN := Lib.hid (HAk.out (by rw [HFD.out, hin]))
          have DS : decide (st < dst p x) = false := by first | (rw [dst_in, hin]; rfl) | (rw [dst_comm p x, dst_in, hin]; rfl)
          clear HFD HAk HV0
          have HI0 := Lib.hid (fun W => l6In_any x lo hi W)
          rw [I0] at HI0
          have HI1 := Lib.hid (fun W => l6In_any (x - p) (-st) st W)
          rw [hin] at HI1
          go_wp2_with fail
          go_quiet ((go_at_call 45; first | (with_reducible exact quietG (HI0.out _)) | (with_reducible exact quietG (HI1.out _))))
          go_wp2
          go_roundw
          case rel => exact ⟨j + 1 + 1, by omega, by go_num, HN, hK.drewN _⟩
          case measure => simp [intOf]; omega
        · have HF := Lib.hid (HV0.out (by rw [HFD.out, hin]))
          have DS : decide (st < dst p x) = true := by first | (rw [dst_in, hin]; rfl) | (rw [dst_comm p x, dst_in, hin]; rfl)
          clear HFD HAk HV0
          have HI0 := Lib.hid (fun W => l6In_any x lo hi W)
          rw [I0] at HI0
          have HI1 := Lib.hid (fun W => l6In_any (x - p) (-st) st W)
          rw [hin] at HI1
          go_wp2_with fail
          go_quiet ((go_at_call 45; first | (with_reducible exact quietG (HI0.out _)) | (with_reducible exact quietG (HI1.out _))))
          go_wp2
          go_ret
          exact ⟨retB HF.out.symm, hK.drewN _⟩
end Go.Proofs.Ytmndlghadgccbab
