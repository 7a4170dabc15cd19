/- Differences: the program and the model answer 'dfB', 'dfL'. -/
import Derived.Test.YtkiibklenpncpaaDf
import Derived.Test.YtkiibklenpncpaaSq
import Derived.Test.YtkiibklenpncpaaOi
import Derived.Test.YtkiibklenpncpaaTi
import Derived.Test.YtkiibklenpncpaaLw
import Derived.Test.YtkiibklenpncpaaApp
import Derived.Deep.RegionLaw
import Derived.LoopTactic
import Derived.IntWalk
namespace Go.Proofs.Ytkiibklenpncpaa
open Go.RowKit
set_option linter.unusedVariables false

theorem part_setL {L : List Int} {k n : Nat} (hn : L.length = n) (hk : k < n) : (L.take k ++ List.replicate (n - k) 0).set k (L.getD k 0) = L.take (k + 1) ++ List.replicate (n - (k + 1)) 0 := by
  subst hn; exact part_set L k hk
theorem part_len {L : List Int} {k n : Nat} (hn : L.length = n) (hk : k ≤ n) : (L.take k ++ List.replicate (n - k) 0).length = n := by
  simp; omega
theorem part_all {L : List Int} {n : Nat} (hn : L.length = n) : L.take n ++ List.replicate (n - n) 0 = L := by
  subst hn; simp
/-- A made slice that has been filled. -/
theorem nwb_made {L : List Int} {b : Bool} {w w' : World} {g n c : Nat} (h : Wr w' g L) (hn : n = L.length) (hb : b = true) (hc : n ≤ c) (hg : w.heap.size ≤ g) (hl : g < w'.heap.size) (k : Keep w w') : NwB L b w (.returned (.tuple #[.slice (some ⟨g, 0, none⟩) n c, .bool true])) w' := by
  subst hn; subst hb
  exact ⟨_, c, rfl, hc, .inr ⟨g, rfl, hg, hl, h⟩, k⟩
theorem FrB_of {L : List Int} {b : Bool} {w w' : World} {e : Ending} (h : NwB L b w e w') : ∃ (a : Option Addr) (c : Nat), e = .returned (.tuple #[.slice a L.length c, .bool b]) ∧ Fresh w w' a L ∧ Keep w w' := by
  obtain ⟨a, c, he, _, hF, k⟩ := h
  exact ⟨a, c, he, hF, k⟩
set_option maxHeartbeats 400000 in
theorem dv_any (d : Int) (w : World) :
    Calls Try.prog 76 #[.int .i64 d] w fun e w' => e = .returned (.bool (inB d (-9998) 9998)) ∧ w = w' := by
  go_enter Try.func76, Try.ntmps76
  go_wp2
  all_goals
    go_ret
    refine ⟨retB ?_, rfl⟩
    rw [Bool.eq_iff_iff]; simp [inB]; try omega
set_option maxRecDepth 100000 in
set_option maxHeartbeats 4000000 in
theorem df_impl (a : Option Addr) (cap : Nat) (zs : List Int) (w : World) (h : Ls w a zs) (hm : zs.length ≤ 1048576) :
    Calls Try.prog 40 #[.slice a zs.length cap] w (NwB (dfL zs) (dfB zs) w) := by
  have HN0 : ∀ (hb : dfB zs = false) W, Keep w W → NwB (dfL zs) (dfB zs) w (.returned (.tuple #[.slice none 0 0, .bool false])) W := fun hb W k => nwb_no (dfL_no hb) hb _ _ k
  have HN := Lib.hid HN0
  clear HN0
  have HQ := Lib.hid (sqv_impl a cap zs w h (by omega))
  rcases Bool.eq_false_or_eq_true (sqB zs) with hs | hs
  case' inr =>
    have HB := Lib.hid (dfB_sq hs)
    rw [hs] at HQ
    clear hs
    go_enter Try.func40, Try.ntmps40
    go_wp2_with fail
    refine HQ.out.mono ?_
    rintro e w1 ⟨rfl, rfl⟩
    go_wp2
    go_ret2
    exact HN.out HB.out _ (Keep.refl _)
  rw [hs] at HQ
  have hl := (sq_facts hs).2
  by_cases h2 : zs.length < 2
  · have HB := Lib.hid (dfB_one h2)
    have d2 : decide ((zs.length : Int) < 2) = true := decide_eq_true (by omega)
    have d3 : decide (zs.length < 2) = true := decide_eq_true h2
    clear hs
    go_enter Try.func40, Try.ntmps40
    go_wp2_with fail
    refine HQ.out.mono ?_
    rintro e w1 ⟨rfl, rfl⟩
    go_wp2
    go_ret2
    exact HN.out HB.out _ (Keep.refl _)
  have d2 : decide ((zs.length : Int) < 2) = false := decide_eq_false (by omega)
  have d3 : decide (zs.length < 2) = false := decide_eq_false h2
  obtain ⟨n, hn⟩ : ∃ n, zs.length - 1 = n := ⟨_, rfl⟩
  have e1 : (zs.length : Int) - 1 = (n : Int) := by omega
  have HBad := Lib.hid (fun (k : Nat) (hk : k + 1 < zs.length) (h : dfOk (zs.getD k 0) (zs.getD (k + 1) 0) = false) => dfB_bad hk h)
  have HGood := Lib.hid (fun (h : ∀ k, k + 1 < zs.length → dfOk (zs.getD k 0) (zs.getD (k + 1) 0) = true) => dfB_mk hs (by omega) h)
  have HAt := Lib.hid (fun (k : Nat) (hk : k < zs.length) => sq_at hs hk)
  have HLn : Hid ((dfl zs).length = n) := Lib.hid (by rw [dfl_len, hn])
  have hmk := fun W => run_make_row' (P := Try.prog) 27 3 (.int .i64 0) 8 Try.underlying27 infoIntO rfl .i64 .i64 n (by omega) (by omega) W
  clear hs hn
  go_enter Try.func40, Try.ntmps40
  go_wp2_with fail
  refine HQ.out.mono ?_
  rintro e w1 ⟨rfl, rfl⟩
  go_wp2_with fail
  go_loopw [22] (fun i wr => ∃ k : Nat, k ≤ n ∧ i = .int .i64 k ∧ Hid (Wr wr w.heap.size ((dfl zs).take k ++ List.replicate (n - k) 0)) ∧ Hid (∀ j, j < k → dfOk (zs.getD j 0) (zs.getD (j + 1) 0) = true) ∧ w.heap.size < wr.heap.size ∧ Keep w wr) (fun i _ => n - (intOf i).toNat)
  case atStart =>
    refine ⟨0, by omega, rfl, Lib.hid ?_, Lib.hid (fun j hj => by omega), by simp, (Keep.refl w).alloc _⟩
    intro j hj
    have hj' : j < n := by simpa using hj
    refine ⟨(World.cell?_alloc_new w _ _ j).trans ?_, World.frozen?_alloc_at _ _ _ _ rfl⟩
    rw [made_at _ _ hj']
    simp [List.getD_eq_getElem?_getD, hj']
  case round =>
    obtain ⟨k, hk, rfl, HW, HA, hlw, hK⟩ := hrel
    clear hmk
    have k0 : (0 : Int) ≤ (k : Int) := by omega
    by_cases hlt : k < n
    · obtain ⟨b, off, rfl, hb, hc⟩ := (h.keep hK).all (by omega)
      have c0 := hc k (by omega)
      obtain ⟨m, hm1⟩ : ∃ m, k + 1 = m := ⟨_, rfl⟩
      have c1 : wr.cell? ⟨b, off + m, none⟩ = some (.int .i64 (zs.getD (k + 1) 0)) := by rw [← hm1]; exact hc (k + 1) (by omega)
      have kw1 : IntKind.i64.wrap ((k : Int) + 1) = (m : Int) := by rw [show (k : Int) + 1 = (m : Int) by omega]; exact IntWalk.i64_in _ ⟨by omega, by omega⟩
      have m0 : (0 : Int) ≤ (m : Int) := by omega
      have mz : (m : Int) < (zs.length : Int) := by omega
      have b0 := HAt.out k (by omega)
      have b1 := HAt.out (k + 1) (by omega)
      obtain ⟨w1, w2⟩ := HW.out k (by rw [part_len HLn.out hk]; exact hlt)
      have hP := part_setL HLn.out hlt
      have HV := Lib.hid (dfl_at (zs := zs) (k := k) (by omega))
      have HBk := Lib.hid (HBad.out k (by omega))
      have kz : (k : Int) < (n : Int) := by omega
      have kz1 : (k : Int) < (zs.length : Int) := by omega
      have kz2 : (k : Int) + 1 < (zs.length : Int) := by omega
      clear hc
      have HC := Lib.hid (df_cases (zs.getD k 0) (zs.getD (k + 1) 0))
      have HA2 : Hid (dfOk (zs.getD k 0) (zs.getD (k + 1) 0) = true → ∀ j, j < k + 1 → dfOk (zs.getD j 0) (zs.getD (j + 1) 0) = true) := Lib.hid (fun e j hj => by
        by_cases ej : j = k
        · rw [ej]; exact e
        · exact HA.out j (by omega))
      have HWs := Lib.hid (HW.out.set (k := k) (by rw [part_len HLn.out hk]; exact hlt))
      obtain ⟨y0, hy0⟩ : ∃ y0, ((dfl zs).take k ++ List.replicate (n - k) 0).getD k 0 = y0 := ⟨_, rfl⟩
      rw [hy0] at w1
      have HP2 : Hid (∀ v, dfv (zs.getD k 0) (zs.getD (k + 1) 0) = v → ((dfl zs).take k ++ List.replicate (n - k) 0).set k v = (dfl zs).take (k + 1) ++ List.replicate (n - (k + 1)) 0) := Lib.hid (fun v hv => by
        rw [← hv, ← HV.out]; exact hP)
      have HM := Lib.hid hm1
      clear hP hy0 HV hm1
      generalize zs.getD k 0 = x at *
      generalize zs.getD (k + 1) 0 = y at *
      rcases HC.out with ⟨q1, q2, q3⟩ | ⟨q0, q1, q2, q3⟩ | ⟨q0, q1, q4, q5, q2, q3⟩ | ⟨q0, q1, q4, q3⟩
      · have HWn := HWs.out (-9999)
        rw [HP2.out _ q2] at HWn
        replace HWn := Lib.hid HWn
        have HAn := Lib.hid (HA2.out q3)
        subst q1
        clear HC HA2 HBk HP2 HWs q2 q3
        go_wp2_with fail
        go_quiet (fail)
        go_wp2
        go_roundw
        case rel => exact ⟨k + 1, by omega, by have := HM.out; go_num, Lib.hid (by exact HWn.out), HAn, by simpa [World.setCell] using hlw, (hK.drewN _).setCell (Nat.le_refl _) _⟩
        case measure => have := HM.out; simp [intOf]; omega
      · have HWn := HWs.out (-9999)
        rw [HP2.out _ q2] at HWn
        replace HWn := Lib.hid HWn
        have HAn := Lib.hid (HA2.out q3)
        subst q1
        have x9 : (x == -9999) = false := beq_eq_false_iff_ne.2 q0
        clear HC HA2 HBk HP2 HWs q2 q3 q0
        go_wp2_with fail
        go_quiet (fail)
        go_wp2
        go_roundw
        case rel => exact ⟨k + 1, by omega, by have := HM.out; go_num, Lib.hid (by exact HWn.out), HAn, by simpa [World.setCell] using hlw, (hK.drewN _).setCell (Nat.le_refl _) _⟩
        case measure => have := HM.out; simp [intOf]; omega
      · have HWn := HWs.out (y - x)
        rw [HP2.out _ q2] at HWn
        replace HWn := Lib.hid HWn
        have HAn := Lib.hid (HA2.out q3)
        have x9 : (x == -9999) = false := beq_eq_false_iff_ne.2 q0
        have y9 : (y == -9999) = false := beq_eq_false_iff_ne.2 q1
        have HD := Lib.hid (fun W => dv_any (y - x) W)
        rw [inB_yes ⟨q4, q5⟩] at HD
        clear HC HA2 HBk HP2 HWs q2 q3 q0 q1
        go_wp2_with fail
        go_quiet (fail)
        go_wp2_with fail
        refine (HD.out _).mono ?_
        rintro e w3 ⟨rfl, rfl⟩
        go_wp2
        go_roundw
        case rel => exact ⟨k + 1, by omega, by have := HM.out; go_num, Lib.hid (by exact HWn.out), HAn, by simpa [World.setCell] using hlw, (hK.drewN _).setCell (Nat.le_refl _) _⟩
        case measure => have := HM.out; simp [intOf]; omega
      · have HBn := Lib.hid (HBk.out q3)
        have x9 : (x == -9999) = false := beq_eq_false_iff_ne.2 q0
        have y9 : (y == -9999) = false := beq_eq_false_iff_ne.2 q1
        have HD := Lib.hid (fun W => dv_any (y - x) W)
        rw [inB_no q4] at HD
        clear HC HA2 HBk HP2 HWs q3 q0 q1
        go_wp2_with fail
        go_quiet (fail)
        go_wp2_with fail
        refine (HD.out _).mono ?_
        rintro e w3 ⟨rfl, rfl⟩
        go_wp2
        go_ret2
        exact HN.out HBn.out _ (hK.drewN _)
    · obtain rfl : k = n := by omega
      have HWf : Hid (Wr wr w.heap.size (dfl zs)) := Lib.hid (by have h1 := HW.out; rw [part_all HLn.out] at h1; exact h1)
      have HB := Lib.hid (HGood.out fun j hj => HA.out j (by omega))
      have HY := Lib.hid (dfL_yes HB.out)
      go_wp2
      go_ret2
      rw [HY.out]
      exact nwb_made HWf.out HLn.out.symm HB.out (Nat.le_refl _) (Nat.le_refl _) hlw hK
end Go.Proofs.Ytkiibklenpncpaa
