/- Means of readings with weights: the program's functions, whose sums are kept by two closures, and the model's answer 'hwOk', 'hw'. -/
import Derived.Test.YtkapnbfjpglblaaHl
import Derived.Deep.QuietTactic
import Derived.BigQuiet
import Derived.Outline
namespace Go.Proofs.Ytkapnbfjpglblaa
open Go.RowKit
set_option linter.unusedVariables false

/-- The two boxes of the closures: the sum t and the number m. -/
structure Boxes (w : World) (T M : Nat) (t m : Int) : Prop where
  ne : T ≠ M
  ct : w.cell? ⟨T, 0, none⟩ = some (.int .i64 t)
  cm : w.cell? ⟨M, 0, none⟩ = some (.int .i64 m)
  ft : w.frozen? ⟨T, 0, none⟩ = false
  fm : w.frozen? ⟨M, 0, none⟩ = false
theorem Boxes.keep {w w' : World} {T M : Nat} {t m : Int} (h : Boxes w T M t m) (k : Keep w w') : Boxes w' T M t m :=
  ⟨h.ne, k.cell h.ct, k.cell h.cm, k.still h.ct h.ft, k.still h.cm h.fm⟩
theorem Boxes.lt {w : World} {T M : Nat} {t m : Int} (h : Boxes w T M t m) : T < w.heap.size ∧ M < w.heap.size :=
  ⟨World.block_lt_of_cell? w _ h.ct, World.block_lt_of_cell? w _ h.cm⟩
/-- What a call of 'take' turns. -/
def Only2 (T M : Nat) (w w' : World) : Prop := ∀ a : World, Keep a w → a.heap.size ≤ T → a.heap.size ≤ M → Keep a w'

set_option maxHeartbeats 400000 in
theorem keep_any (w : World) :
    Calls Try.prog 44 #[] w fun e w' => ∃ T M : Nat, e = .returned (.tuple #[.func (.func 51) #[] #[.pointer (some ⟨T, 0, none⟩), .pointer (some ⟨M, 0, none⟩)], .func (.func 52) #[] #[.pointer (some ⟨T, 0, none⟩), .pointer (some ⟨M, 0, none⟩)]]) ∧
      w.heap.size ≤ T ∧ w.heap.size ≤ M ∧ Boxes w' T M 0 0 ∧ Keep w w' := by
  go_enter Try.func44, Try.ntmps44
  go_wp2
  go_ret2
  refine ⟨w.heap.size, w.heap.size + 1, rfl, Nat.le_refl _, by omega, ⟨by omega, by go_simp, by go_simp, by go_simp, by go_simp⟩, ?_⟩
  exact ((Keep.refl w).alloc _).alloc _
set_option maxHeartbeats 400000 in
theorem take_any (x y : Int) (T M : Nat) (t m : Int) (w : World) (h : Boxes w T M t m) (p0 : -10000000 ≤ x * y) (p1 : x * y ≤ 10000000) (t0 : -10000000 ≤ t) (t1 : t ≤ 10000000) (m0 : 0 ≤ m) (m1 : m ≤ 10000) (y0 : 0 ≤ y) (y1 : y ≤ 9) (x0 : -10000000 ≤ x) (x1 : x ≤ 10000000) :
    Calls Try.prog 51 #[.int .i64 x, .int .i64 y, .pointer (some ⟨T, 0, none⟩), .pointer (some ⟨M, 0, none⟩)] w fun e w' => e = .returned (.tuple #[]) ∧ Boxes w' T M (t + x * y) (m + y) ∧ Only2 T M w w' := by
  obtain ⟨hne, ct, cm, ft, fm⟩ := h
  have hne' : M ≠ T := fun e => hne e.symm
  go_enter Try.func51, Try.ntmps51
  go_wp2
  go_end0
  refine ⟨rfl, ⟨hne, ?_, ?_, ?_, ?_⟩, fun a k hT hM => ?_⟩
  all_goals first | (go_simp; done) | exact (k.setCell hT _).setCell hM _
set_option maxHeartbeats 400000 in
theorem mean_any (T M : Nat) (t m : Int) (w : World) (h : Boxes w T M t m) (t0 : -3000000 ≤ t) (t1 : t ≤ 3000000) (m0 : 1 ≤ m) (m1 : m ≤ 2000) :
    Calls Try.prog 52 #[.pointer (some ⟨T, 0, none⟩), .pointer (some ⟨M, 0, none⟩)] w fun e w' => e = .returned (.int .i64 (rq t m)) ∧ w = w' := by
  obtain ⟨hne, ct, cm, ft, fm⟩ := h
  go_enter Try.func52, Try.ntmps52
  go_wp2_with (go_at_call 39; refine (rq_impl t m _ m0 m1 t0 t1).mono ?_; rintro e w' ⟨rfl, rfl⟩)
  go_ret
  exact ⟨rfl, rfl⟩

theorem hw_bad1 {zs ws : List Int} (h : rdsB zs = false) : hwOk zs ws = false := by simp [hwOk, h]
theorem hw_bad2 {zs ws : List Int} (h : ws.length ≠ zs.length) : hwOk zs ws = false := by simp [hwOk, h]
theorem hw_bad3 {zs ws : List Int} (h : wtsB ws = false) : hwOk zs ws = false := by simp [hwOk, h]
theorem hw_good {zs ws : List Int} (h1 : rdsB zs = true) (h2 : ws.length = zs.length) (h3 : wtsB ws = true) : hwOk zs ws = true := by simp [hwOk, h1, h2, h3]

def HwPost (zs ws : List Int) (w : World) (e : Ending) (w' : World) : Prop := e = .returned (.tuple #[.int .i64 (hw zs ws), .bool (hwOk zs ws)]) ∧ Keep w w'
theorem hw_post_no {zs ws : List Int} {w w' : World} (h : hwOk zs ws = false) (k : Keep w w') : HwPost zs ws w (.returned (.tuple #[.int .i64 0, .bool false])) w' := by
  refine ⟨?_, k⟩; rw [h, hw_no h]

set_option maxHeartbeats 2000000 in
theorem hw_impl_yes (a b : Option Addr) (c d : Nat) (zs ws : List Int) (w : World) (hz : Ls w a zs) (hw' : Ls w b ws) (h : hwOk zs ws = true) :
    Calls Try.prog 30 #[.slice a zs.length c, .slice b ws.length d] w (HwPost zs ws w) := by
  obtain ⟨h1, h2, h3, h4, ⟨h5, h6⟩, h7, ⟨h8, h9⟩, h10, h11⟩ := hwOk_facts h
  have H := Lib.hid h
  have H2 := Lib.hid h2
  have H47 := Lib.hid (And.intro h4 h7)
  have e2 : decide ((ws.length : Int) = (zs.length : Int)) = true := by simp; omega
  have e3 : ((ws.length : Int) != (zs.length : Int)) = false := by simp; omega
  have e4 : (ws.length != zs.length) = false := by simp; omega
  have hlw : ws.length ≤ 24 := by omega
  clear h h2 h4 h7
  go_enter Try.func30, Try.ntmps30
  go_wp2_with (first | (go_at_call 43; refine (rds_impl _ _ zs _ hz (by omega)).mono ?_; rintro e w' ⟨he, rfl⟩; rw [h1] at he; subst he) | (go_at_call 47; refine (wts_impl _ _ ws _ hw' (by omega)).mono ?_; rintro e w' ⟨he, rfl⟩; rw [h3] at he; subst he) | (go_at_call 44; refine (keep_any _).mono ?_; rintro e w1 ⟨T, M, rfl, hT, hM, hB, hK⟩))
  have hz1 := hz.keep hK
  have hw1 := hw'.keep hK
  go_loopw [31] (fun i wr => ∃ k : Nat, k ≤ zs.length ∧ i = .int .i64 k ∧ Hid (Boxes wr T M (wsN zs ws k) (wtN ws k)) ∧ Keep w wr) (fun i _ => zs.length - (intOf i).toNat)
  case atStart => exact ⟨0, by omega, rfl, Lib.hid hB, hK⟩
  case round =>
    obtain ⟨k, hk, rfl, HB, hKr⟩ := hrel
    by_cases hlt : k < zs.length
    · have hltw : k < ws.length := by have := H2.out; omega
      obtain ⟨bz, oz, rfl, _, cz⟩ := (hz.keep hKr).at_ hlt
      obtain ⟨bw, ow, rfl, _, cw⟩ := (hw'.keep hKr).at_ hltw
      obtain ⟨x0, x1⟩ := rd_bd (all_at H47.out.1 hlt)
      obtain ⟨y0, y1⟩ := wt_bd (all_at H47.out.2 hltw)
      obtain ⟨p0, p1⟩ := prod_bd x0 x1 y0 y1
      obtain ⟨s0, s1, s2, s3⟩ := wsN_bd H47.out.1 H47.out.2 k hk (by omega)
      have HS : Hid (wsN zs ws (k + 1) = wsN zs ws k + zs.getD k 0 * ws.getD k 0 ∧ wtN ws (k + 1) = wtN ws k + ws.getD k 0) := Lib.hid ⟨rfl, rfl⟩
      generalize zs.getD k 0 = x at cz x0 x1 p0 p1 HS
      generalize ws.getD k 0 = y at cw y0 y1 p0 p1 HS
      generalize wsN zs ws k = s at HB s0 s1 HS
      generalize wtN ws k = t at HB s2 s3 HS
      go_wp2_with (go_at_call 51; refine (take_any x y T M s t _ HB.out (by omega) (by omega) (by omega) (by omega) (by omega) (by omega) y0 y1 (by omega) (by omega)).mono ?_; rintro e w2 ⟨rfl, hB2, hO2⟩)
      go_roundw
      case rel => exact ⟨k + 1, by omega, by go_num, Lib.hid (by rw [HS.out.1, HS.out.2]; exact hB2), hO2 _ hKr hT hM⟩
      case measure => simp [intOf]; omega
    · obtain rfl : k = zs.length := by omega
      have HV := Lib.hid (hw_yes H.out)
      generalize wsN zs ws zs.length = s at HB h8 h9 HV
      generalize wtN ws zs.length = t at HB h10 h11 HV
      go_wp2_with (go_at_call 52; refine (mean_any T M s t _ HB.out (by omega) (by omega) (by omega) (by omega)).mono ?_; rintro e w2 ⟨rfl, rfl⟩)
      go_ret2
      exact ⟨ret2 HV.out.symm H.out.symm, hKr⟩
set_option maxHeartbeats 1000000 in
theorem hw_impl_no (a b : Option Addr) (c d : Nat) (zs ws : List Int) (w : World) (hz : Ls w a zs) (hw' : Ls w b ws) (hm : zs.length ≤ 4611686018427387904) (hm2 : ws.length ≤ 4611686018427387904) (h : hwOk zs ws = false) :
    Calls Try.prog 30 #[.slice a zs.length c, .slice b ws.length d] w (HwPost zs ws w) := by
  have H := Lib.hid h
  have hc : (rdsB zs = false) ∨ (rdsB zs = true ∧ (ws.length != zs.length) = true) ∨ (rdsB zs = true ∧ (ws.length != zs.length) = false ∧ wtsB ws = false) := by
    cases h1 : rdsB zs
    · simp
    · cases h3 : wtsB ws <;> by_cases h2 : ws.length = zs.length <;> simp [h2]
      exact absurd (hw_good h1 h2 h3) (by rw [h]; simp)
  clear h
  rcases hc with h1 | ⟨h1, h2⟩ | ⟨h1, h2, h3⟩
  · go_enter Try.func30, Try.ntmps30
    go_wp2_with (go_at_call 43; refine (rds_impl _ _ zs _ hz hm).mono ?_; rintro e w' ⟨he, rfl⟩; rw [h1] at he; subst he)
    go_ret2
    exact hw_post_no H.out (Keep.refl _)
  · have e3 : ((ws.length : Int) != (zs.length : Int)) = true := by simp at h2 ⊢; omega
    go_enter Try.func30, Try.ntmps30
    go_wp2_with (go_at_call 43; refine (rds_impl _ _ zs _ hz hm).mono ?_; rintro e w' ⟨he, rfl⟩; rw [h1] at he; subst he)
    go_ret2
    exact hw_post_no H.out (Keep.refl _)
  · have e3 : ((ws.length : Int) != (zs.length : Int)) = false := by simp at h2 ⊢; omega
    go_enter Try.func30, Try.ntmps30
    go_wp2_with (first | (go_at_call 43; refine (rds_impl _ _ zs _ hz hm).mono ?_; rintro e w' ⟨he, rfl⟩; rw [h1] at he; subst he) | (go_at_call 47; refine (wts_impl _ _ ws _ hw' hm2).mono ?_; rintro e w' ⟨he, rfl⟩; rw [h3] at he; subst he))
    go_ret2
    exact hw_post_no H.out (Keep.refl _)
theorem hw_impl (a b : Option Addr) (c d : Nat) (zs ws : List Int) (w : World) (hz : Ls w a zs) (hw' : Ls w b ws) (hm : zs.length ≤ 4611686018427387904) (hm2 : ws.length ≤ 4611686018427387904) :
    Calls Try.prog 30 #[.slice a zs.length c, .slice b ws.length d] w (HwPost zs ws w) := by
  rcases Bool.eq_false_or_eq_true (hwOk zs ws) with h | h
  · exact hw_impl_yes a b c d zs ws w hz hw' h
  · exact hw_impl_no a b c d zs ws w hz hw' hm hm2 h
def hmOk (zs : List Int) : Bool := rdsB zs && decide (zs.length = 3)
def hmS (zs : List Int) : Int := zs.getD 0 0 + zs.getD 1 0 + 2 * zs.getD 2 0
def hm (zs : List Int) : Int := if hmOk zs then rq (hmS zs) 4 else 0
theorem hm_is (zs : List Int) : hwOk zs [1, 1, 2] = hmOk zs ∧ hw zs [1, 1, 2] = hm zs := by
  have e : hwOk zs [1, 1, 2] = hmOk zs := by
    have h3 : wtsB [1, 1, 2] = true := by decide
    simp only [hwOk, hmOk, h3, Bool.and_true]
    congr 1
    simp only [List.length_cons, List.length_nil]
    rw [Bool.eq_iff_iff]; simp; omega
  refine ⟨e, ?_⟩
  rw [hw, hm, e]
  by_cases h : hmOk zs = true
  · rw [if_pos h, if_pos h]
    have hl : zs.length = 3 := by simp [hmOk] at h; exact h.2
    rw [hl]
    have e1 : wsN zs [1, 1, 2] 3 = hmS zs := by simp only [wsN, hmS]; simp [List.getD]; omega
    have e2 : wtN [1, 1, 2] 3 = 4 := by decide
    rw [e1, e2]
  · rw [if_neg h, if_neg h]
set_option maxHeartbeats 1000000 in
theorem hm_impl (a : Option Addr) (c : Nat) (zs : List Int) (w : World) (hz : Ls w a zs) (hm' : zs.length ≤ 4611686018427387904) :
    Calls Try.prog 24 #[.slice a zs.length c] w fun e w' => e = .returned (.tuple #[.int .i64 (hm zs), .bool (hmOk zs)]) ∧ Keep w w' := by
  have hn := Ls.new [1, 1, 2] (Keep.refl (w.alloc (.cells #[.int .i64 1, .int .i64 1, .int .i64 2] 3)))
  go_enter Try.func24, Try.ntmps24
  go_wp2_with fail
  refine (hw_impl a _ c 3 zs [1, 1, 2] _ (hz.alloc _) hn hm' (by simp)).mono ?_
  rintro e w1 ⟨he, hK⟩
  rw [(hm_is zs).1, (hm_is zs).2] at he
  subst he
  go_wp2
  go_ret2
  exact ⟨rfl, ((Keep.refl w).alloc _).trans hK⟩
end Go.Proofs.Ytkapnbfjpglblaa
