/- Means of readings with weights: the model. -/
import Derived.Test.YtkapnbfjpglblaaHw
namespace Go.Proofs.Ytkapnbfjpglblaa
open Go.RowKit
set_option linter.unusedVariables false

theorem hm_yes {zs : List Int} (h : hmOk zs = true) : hm zs = rq (hmS zs) 4 := by simp [hm, h]
theorem hm_no {zs : List Int} (h : hmOk zs = false) : hm zs = 0 := by simp [hm, h]
theorem hmOk_facts {zs : List Int} (h : hmOk zs = true) : rdsB zs = true ∧ zs.length = 3 ∧ (-999 ≤ zs.getD 0 0 ∧ zs.getD 0 0 ≤ 10999) ∧ (-999 ≤ zs.getD 1 0 ∧ zs.getD 1 0 ≤ 10999) ∧ (-999 ≤ zs.getD 2 0 ∧ zs.getD 2 0 ≤ 10999) := by
  simp only [hmOk, Bool.and_eq_true, decide_eq_true_eq] at h
  have h4 := (rds_facts h.1).1
  exact ⟨h.1, h.2, rd_bd (all_at h4 (by omega)), rd_bd (all_at h4 (by omega)), rd_bd (all_at h4 (by omega))⟩
theorem three {zs : List Int} (h : zs.length = 3) : ∃ x y z, zs = [x, y, z] ∧ zs.getD 0 0 = x ∧ zs.getD 1 0 = y ∧ zs.getD 2 0 = z := by
  match zs, h with
  | [x, y, z], _ => exact ⟨x, y, z, rfl, rfl, rfl, rfl⟩
theorem Ls.three {w : World} {a : Option Addr} {x y z : Int} (h : Ls w a [x, y, z]) : ∃ b off, a = some ⟨b, off, none⟩ ∧ b < w.heap.size ∧ w.cell? ⟨b, off, none⟩ = some (.int .i64 x) ∧ w.cell? ⟨b, off + 1, none⟩ = some (.int .i64 y) ∧ w.cell? ⟨b, off + 2, none⟩ = some (.int .i64 z) := by
  obtain ⟨b, off, ha, hb, hc⟩ := h.all (by simp)
  exact ⟨b, off, ha, hb, hc 0 (by simp), hc 1 (by simp), hc 2 (by simp)⟩

def HmPost (zs : List Int) (w : World) (e : Ending) (w' : World) : Prop := e = .returned (.tuple #[.int .i64 (hm zs), .bool (hmOk zs)]) ∧ Keep w w'

set_option maxHeartbeats 1000000 in
theorem hm_spec (a : Option Addr) (c : Nat) (zs : List Int) (w : World) (hz : Ls w a zs) (hm' : zs.length ≤ 4611686018427387904) :
    Calls Try.prog 25 #[.slice a zs.length c] w (HmPost zs w) := by
  rcases Bool.eq_false_or_eq_true (hmOk zs) with h | h
  · obtain ⟨h1, h2, ⟨x0, x1⟩, ⟨y0, y1⟩, z0, z1⟩ := hmOk_facts h
    have HV : Hid (hm zs = rq (hmS zs) 4 ∧ hmOk zs = true) := Lib.hid ⟨hm_yes h, h⟩
    have HR := Lib.hid (rds_spec a c zs w hz hm')
    obtain ⟨x, y, z, rfl, ex, ey, ez⟩ := three h2
    have HS : Hid (hmS [x, y, z] = x + y + 2 * z) := Lib.hid rfl
    simp only [List.getD_cons_zero, List.getD_cons_succ] at x0 x1 y0 y1 z0 z1
    obtain ⟨b, off, rfl, hb, c0, c1, c2⟩ := hz.three
    have s1 : IntKind.i64.wrap (x + y) = x + y := IntWalk.i64_in _ (by omega)
    have s2 : IntKind.i64.wrap (2 * z) = 2 * z := IntWalk.i64_in _ (by omega)
    have s3 : IntKind.i64.wrap (x + y + 2 * z) = x + y + 2 * z := IntWalk.i64_in _ (by omega)
    have HQ := fun w => Lib.hid (l4r_any (x + y + 2 * z) 4 w (by omega) (by omega) (by omega) (by omega))
    clear h ex ey ez hm'
    go_enter Try.func25, Try.ntmps25
    go_wp2_with (go_at_call 42; refine HR.out.mono ?_; rintro e w' ⟨he, rfl⟩; rw [h1] at he; subst he)
    go_quiet ((go_at_call 40; exact Calls.quiet_of_same ((HQ _).out.mono fun _ _ h => ⟨h.1, h.2.symm⟩)))
    go_wp2
    go_ret2
    exact ⟨ret2 (by rw [HV.out.1, HS.out]) HV.out.2.symm, (Keep.refl w).drewN _⟩
  · have H := Lib.hid h
    rcases Bool.eq_false_or_eq_true (rdsB zs) with h1 | h1
    · have e3 : ((zs.length : Int) != 3) = true := by
        have : zs.length ≠ 3 := by intro h3; simp [hmOk, h1, h3] at h
        simp; omega
      clear h
      go_enter Try.func25, Try.ntmps25
      go_wp2_with (go_at_call 42; refine (rds_spec _ _ zs _ hz hm').mono ?_; rintro e w' ⟨he, rfl⟩; rw [h1] at he; subst he)
      go_ret2
      exact ⟨ret2 (hm_no H.out).symm H.out.symm, Keep.refl _⟩
    · clear h
      go_enter Try.func25, Try.ntmps25
      go_wp2_with (go_at_call 42; refine (rds_spec _ _ zs _ hz hm').mono ?_; rintro e w' ⟨he, rfl⟩; rw [h1] at he; subst he)
      go_ret2
      exact ⟨ret2 (hm_no H.out).symm H.out.symm, Keep.refl _⟩
theorem wts_no_any {ws : List Int} (h : ws.any posB = false) : wtsB ws = false := by rw [wtsB, h, Bool.and_false]
theorem wts_yes {ws : List Int} (h : ws.all wtB = true) (h2 : ws.any posB = true) : wtsB ws = true := by rw [wtsB, h, h2]; rfl
theorem wtN_all {ws : List Int} (h : ws.all wtB = true) : (ws.any posB = true ∧ (wtN ws ws.length == 0) = false) ∨ (ws.any posB = false ∧ (wtN ws ws.length == 0) = true) := by
  obtain ⟨p1, p2, _⟩ := wtN_pos h ws.length (by omega)
  rw [List.take_length] at p1 p2
  cases hp : ws.any posB
  · right; exact ⟨rfl, by simp [p2 hp]⟩
  · left; refine ⟨rfl, ?_⟩; have := p1 hp; simp; omega

set_option maxRecDepth 100000 in
set_option maxHeartbeats 4000000 in
theorem hw_spec (a b : Option Addr) (c d : Nat) (zs ws : List Int) (w : World) (hz : Ls w a zs) (hw' : Ls w b ws) (hm : zs.length ≤ 4611686018427387904) (hm2 : ws.length ≤ 4611686018427387904) :
    Calls Try.prog 31 #[.slice a zs.length c, .slice b ws.length d] w (HwPost zs ws w) := by
  rcases Bool.eq_false_or_eq_true (rdsB zs) with h1 | h1
  · by_cases h2 : ws.length = zs.length
    · have e3 : ((ws.length : Int) != (zs.length : Int)) = false := by simp; omega
      obtain ⟨hall, l1, l2⟩ := rds_facts h1
      have HA := Lib.hid hall
      have H1 := Lib.hid h1
      have H2 := Lib.hid h2
      clear hall h2
      go_enter Try.func31, Try.ntmps31
      go_wp2_with (go_at_call 42; refine (rds_spec _ _ zs _ hz hm).mono ?_; rintro e w' ⟨he, rfl⟩; rw [h1] at he; subst he)
      go_loopw [6, 7, 8] (fun s t i wr => ∃ (k n : Nat), k ≤ zs.length ∧ i = .int .i64 k ∧ s = .int .i64 (wsN zs ws k) ∧ t = .int .i64 (wtN ws k) ∧ Hid ((ws.take k).all wtB = true) ∧ wr = w.drewN n) (fun _ _ i _ => zs.length - (intOf i).toNat)
      case atStart => exact ⟨0, 0, by omega, rfl, rfl, rfl, Lib.hid (by simp), rfl⟩
      case round =>
        obtain ⟨k, n, hk, rfl, rfl, rfl, HT, rfl⟩ := hrel
        obtain ⟨s0, s1, s2, s3⟩ := wsN_bd' (ws := ws) HA.out k hk (by have := H2.out; omega) HT.out
        by_cases hlt : k < zs.length
        · have hltw : k < ws.length := by have := H2.out; omega
          obtain ⟨bz, oz, rfl, _, cz⟩ := hz.at_ hlt
          obtain ⟨bw, ow, rfl, _, cw⟩ := hw'.at_ hltw
          obtain ⟨x0, x1⟩ := rd_bd (all_at HA.out hlt)
          rcases Bool.eq_false_or_eq_true (wtB (ws.getD k 0)) with hr | hr
          · obtain ⟨y0, y1⟩ := wt_bd hr
            have hr' : inB (ws.getD k 0) 0 9 = true := hr
            obtain ⟨p0, p1⟩ := prod_bd x0 x1 y0 y1
            have HS : Hid (wsN zs ws (k + 1) = wsN zs ws k + ws.getD k 0 * zs.getD k 0 ∧ wtN ws (k + 1) = wtN ws k + ws.getD k 0) := Lib.hid ⟨by rw [Int.mul_comm]; rfl, rfl⟩
            have HT2 := Lib.hid (show (ws.take (k + 1)).all wtB = true by rw [take_snoc_all _ _ _ hltw, HT.out, hr]; rfl)
            rw [Int.mul_comm] at p0 p1
            clear hr
            generalize zs.getD k 0 = x at cz x0 x1 p0 p1 HS
            generalize ws.getD k 0 = y at cw y0 y1 p0 p1 HS hr'
            generalize wsN zs ws k = s at s0 s1 HS
            generalize wtN ws k = t at s2 s3 HS
            have k0 : (0 : Int) ≤ (k : Int) := by omega
            have k1 : (k : Int) < (zs.length : Int) := by omega
            have k2 : (k : Int) < (ws.length : Int) := by omega
            have q1 : IntKind.i64.wrap (y * x) = y * x := IntWalk.i64_in _ (by omega)
            have q2 : IntKind.i64.wrap (s + y * x) = s + y * x := IntWalk.i64_in _ (by omega)
            go_wp2_with (go_at_call 38; refine (l6In_any _ _ _ _).mono ?_; rintro e w' ⟨rfl, rfl⟩)
            go_quiet (fail)
            go_wp2
            go_roundw
            case rel => exact ⟨k + 1, _, by omega, by go_num, by rw [HS.out.1], by rw [HS.out.2], HT2, rfl⟩
            case measure => simp [intOf]; omega
          · have hr' : inB (ws.getD k 0) 0 9 = false := hr
            have HF : Hid (hwOk zs ws = false) := Lib.hid (hw_bad3 (by rw [wtsB, all_not wtB ws k hltw hr]; rfl))
            clear hr
            generalize ws.getD k 0 = y at cw hr'
            go_wp2_with (go_at_call 38; refine (l6In_any _ _ _ _).mono ?_; rintro e w' ⟨rfl, rfl⟩)
            go_ret2
            exact hw_post_no HF.out ((Keep.refl w).drewN _)
        · have hke : k = zs.length := by omega
          have hall : ws.all wtB = true := by rw [← take_all (show ¬ k < ws.length by have := H2.out; omega)]; exact HT.out
          rcases wtN_all hall with ⟨u1, u2⟩ | ⟨u1, u2⟩
          · have HO := Lib.hid (hw_good H1.out H2.out (wts_yes hall u1))
            rw [H2.out, ← hke] at u2
            have HV := Lib.hid (hw_yes HO.out)
            rw [← hke] at HV
            have u3 : 1 ≤ wtN ws k := by simp at u2; omega
            clear hall u1
            generalize wsN zs ws k = s at s0 s1 HV
            generalize wtN ws k = t at s2 s3 HV u2 u3
            go_wp2_with (go_at_call 40; refine (l4r_any s t _ u3 (by omega) (by omega) (by omega)).mono ?_; rintro e w' ⟨rfl, rfl⟩)
            go_ret2
            exact ⟨ret2 HV.out.symm HO.out.symm, (Keep.refl w).drewN _⟩
          · have HF : Hid (hwOk zs ws = false) := Lib.hid (hw_bad3 (wts_no_any u1))
            rw [H2.out, ← hke] at u2
            clear hall u1
            generalize wsN zs ws k = s at s0 s1
            generalize wtN ws k = t at s2 s3 u2
            go_wp2
            go_ret2
            exact hw_post_no HF.out ((Keep.refl w).drewN _)
    · have e3 : ((ws.length : Int) != (zs.length : Int)) = true := by simp; omega
      have H := Lib.hid (hw_bad2 (zs := zs) (ws := ws) h2)
      clear h2
      go_enter Try.func31, Try.ntmps31
      go_wp2_with (go_at_call 42; refine (rds_spec _ _ zs _ hz hm).mono ?_; rintro e w' ⟨he, rfl⟩; rw [h1] at he; subst he)
      go_ret2
      exact hw_post_no H.out (Keep.refl _)
  · have H := Lib.hid (hw_bad1 (ws := ws) h1)
    go_enter Try.func31, Try.ntmps31
    go_wp2_with (go_at_call 42; refine (rds_spec _ _ zs _ hz hm).mono ?_; rintro e w' ⟨he, rfl⟩; rw [h1] at he; subst he)
    go_ret2
    exact hw_post_no H.out (Keep.refl _)
end Go.Proofs.Ytkapnbfjpglblaa
