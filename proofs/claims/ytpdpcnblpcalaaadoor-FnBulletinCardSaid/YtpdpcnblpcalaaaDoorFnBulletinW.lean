/- P59: a text of a series is read. -/
import Derived.Test.YtpdpcnblpcalaaaDoorMvgkgegoab
import Derived.Test.YtpdpcnblpcalaaaDoorDrBt
import Derived.Test.YtpdpcnblpcalaaaDoorFr
namespace Go.Proofs.YtpdpcnblpcalaaaDoor
open Go.RowKit
set_option linter.unusedVariables false

set_option maxRecDepth 1000000 in
set_option maxHeartbeats 6400000 in
theorem walk_FnBulletin (a0 : Option Addr) (len0 cap0 : Nat) (z0 : List Int) (w : World) (w0 : IsRow .u8 w a0 len0 cap0 z0) (T : TabsE w) :
    Calls Tryd.prog 3 #[.slice a0 len0 cap0] w fun e w' => e = .returned (.bool true) ∧ Below w.heap.size w w' := by
  have ha := code_of_row w0
  obtain ⟨hl0, hm0⟩ := ha.1
  unfold maxLen at hm0
  clear w0
  by_cases h : len0 ≤ 1048576
  case' neg =>
    have hd : decide (1048576 < (len0 : Int)) = true := by simp; omega
    go_enter Tryd.func3, Tryd.ntmps3
    go_wp2
    go_ret
    exact ⟨rfl, Below.refl _ _⟩
  have hd : decide (1048576 < (len0 : Int)) = false := by simp; omega
  go_enter Tryd.func3, Tryd.ntmps3
  have HT := Lib.hid T
  clear T
  go_wp2_with fail
  refine (drawBulletinText a0 len0 cap0 _ ha).mono ?_
  rintro e w1 ⟨s, t, f, a, c, zs, rfl, hf, hl13, hlc, hB, hL, k1⟩
  clear ha hB
  go_wp2_with fail
  refine (bt_impl a c s t f zs _ (HT.out.1.keep k1) hL (by omega) (by omega)).mono ?_
  rintro e w2 ⟨rfl, k2⟩
  go_wp2_with fail
  refine (bt_spec a c s t f zs _ (hL.keep k2) (by omega) hf).mono ?_
  rintro e w3 ⟨rfl, k3⟩
  have K3 : Keep w w3 := (k1.trans k2).trans k3
  have HL3 := Lib.hid ((hL.keep k2).keep k3)
  clear k1 k2 k3 hL
  rcases Bool.eq_false_or_eq_true (btOk s t f zs) with hok | hok
  case' inr =>
    rw [btT_no hok]
    clear hok
    go_wp2
    go_ret
    exact ⟨rfl, K3⟩
  obtain ⟨u1, u2⟩ := btT_size hok
  have hBt : Bt (btT s t f zs) s t f zs := ⟨hok, by rw [btT_yes hok]⟩
  generalize btT s t f zs = u at *
  have hu1 : ¬ u.toList = [] := fun e => by
    have h9 : u.data.toList = [] := by rw [← Lib.toList_data]; exact e
    have h8 : u.size = u.data.toList.length := (Array.length_toList).symm
    rw [h8, h9] at u1; exact absurd u1 (by decide)
  have hu2 : u.toList.isEmpty = false := List.isEmpty_eq_false_iff.2 hu1
  obtain ⟨rs, b, hl, _, hB, _, hone⟩ := bp_one u
  obtain ⟨hb, hrs⟩ := hB s t f zs hBt
  subst hb
  have H2 := Lib.hid (fun W (hT : TabsE W) => (bp_impl u W hT (by omega)).mono (hone W))
  have HG := Lib.hid (fun W (hT : TabsE W) => bg_bt hBt W hT (by omega))
  have HT3 := Lib.hid (HT.out.keep K3)
  have HRS := Lib.hid hrs
  have hl2 := (btOk_facts hok).2.2.2.1
  clear hone hB hok hrs hBt HT
  go_wp2_with fail
  refine (H2.out _ HT3.out).mono ?_
  rintro e w4 ⟨p4, q4, rfl, hq4, hF4, k4⟩
  have HX := Lib.hid hF4.rs
  have HT4 := Lib.hid (HT3.out.keep k4)
  have HL4 := Lib.hid (HL3.out.keep k4)
  have K4 := K3.trans k4
  clear hF4 H2 HT3 HL3 k4 K3
  go_wp2_with fail
  go_loopw [11, 12] (fun n i wr => ∃ k m : Nat, k ≤ zs.length ∧ i = .int .i64 k ∧ n = .int .i64 m ∧ Hid (m = (bvR s t f zs k).length) ∧ Keep w4 wr) (fun _ i _ => zs.length - (RowKit.intOf i).toNat)
  case atStart => exact ⟨0, 0, by omega, rfl, rfl, Lib.hid rfl, Keep.refl _⟩
  case round =>
    obtain ⟨k, m, hk, rfl, rfl, HM, hK⟩ := hrel
    by_cases hlt : k < zs.length
    · obtain ⟨b, off, hae, hb, hcc⟩ := (HL4.out.keep hK).all (by omega)
      have cz := hcc k hlt
      have HA := Lib.hid (fun (hy : zs.getD k 0 ≠ -9999) => bvR_at (s := s) (t := t) (f := f) hlt hy)
      have HS := Lib.hid (fun (hy : zs.getD k 0 = -9999) => bvR_skip (s := s) (t := t) (f := f) hy)
      generalize zs.getD k 0 = z at *
      clear hcc
      subst hae
      by_cases hz : z = -9999
      · have hzd : (z != -9999) = false := by simp [hz]
        replace HS := Lib.hid (HS.out hz)
        clear HA hz
        go_wp2
        go_roundw
        case rel => exact ⟨k + 1, m, by omega, by go_num, rfl, Lib.hid (by rw [HS.out]; exact HM.out), hK⟩
        case measure => simp [RowKit.intOf]; omega
      · have hzd : (z != -9999) = true := by simp [hz]
        obtain ⟨A1, A2, A3⟩ := HA.out hz
        rw [← HM.out, ← HRS.out] at A1 A2
        obtain ⟨b2, o2, rfl, hb2, hc2⟩ := (HX.out.keep hK).at_ A1
        rw [A2] at hc2
        obtain ⟨d0, d1, d2, d3⟩ := hc2
        simp only [rS, rD, rK, rV] at d0 d1 d2 d3
        have HM2 : Hid (m + 1 = (bvR s t f zs (k + 1)).length) := Lib.hid (by rw [A3, HM.out])
        have g1 : ((m : Int) < (rs.length : Int)) := by omega
        have g2 : decide ((rs.length : Int) ≤ (m : Int)) = false := decide_eq_false (by omega)
        have g3 : ¬ ((rs.length : Int) ≤ (m : Int)) := by omega
        have g4 : ¬ (rs.length ≤ m) := by omega
        have hfk : IntKind.i64.wrap (f + (k : Int)) = f + (k : Int) := IntWalk.i64_in _ (by omega)
        clear HA HS A2 A3 hz
        go_wp2_with fail
        go_quiet (fail)
        go_wp2
        go_roundw
        case rel => exact ⟨k + 1, m + 1, by omega, by go_num, by go_num, HM2, hK.drewN _⟩
        case measure => simp [RowKit.intOf]; omega
    · obtain rfl : k = zs.length := by omega
      have HT9 := Lib.hid (HT4.out.keep hK)
      have HE : Hid (m = rs.length) := Lib.hid (by rw [HM.out, HRS.out])
      have ge1 : ((m : Int) == (rs.length : Int)) = true := by rw [HE.out]; simp
      have ge2 : (m : Int) = (rs.length : Int) := by rw [HE.out]
      clear HM HE
      go_wp2_with fail
      refine (HG.out _ HT9.out).mono ?_
      rintro e w6 ⟨rfl, k6⟩
      go_wp2
      go_ret
      exact ⟨rfl, (K4.trans hK).trans k6⟩
end Go.Proofs.YtpdpcnblpcalaaaDoor
