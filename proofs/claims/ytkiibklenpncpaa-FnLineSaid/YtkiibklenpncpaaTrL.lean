/- Lines: the program and the model answer 'liB', 'liL'. -/
import Derived.Test.YtkiibklenpncpaaTrD
namespace Go.Proofs.Ytkiibklenpncpaa
open Go.RowKit
set_option linter.unusedVariables false

theorem mul_bdL {a b A B : Int} (ha : -A ≤ a ∧ a ≤ A) (hb : -B ≤ b ∧ b ≤ B) : -(A * B) ≤ a * b ∧ a * b ≤ A * B := by
  have hA : 0 ≤ A := by omega
  have hB : 0 ≤ B := by omega
  have h1 : (a * b).natAbs ≤ (A * B).natAbs := by
    rw [Int.natAbs_mul, Int.natAbs_mul]
    exact Nat.mul_le_mul (by omega) (by omega)
  have h2 : 0 ≤ A * B := Int.mul_nonneg hA hB
  omega
set_option maxRecDepth 100000 in
set_option maxHeartbeats 4000000 in
theorem li_impl (f s dy : Int) (w : World) :
    Calls Try.prog 36 #[.int .i64 f, .int .i64 s, .int .i64 dy] w (NwB (liL f s dy) (liB f s dy) w) := by
  have HN0 : ∀ (hb : liB f s dy = false) (x : Option Addr) W, Keep w W → NwB (liL f s dy) (liB f s dy) w (.returned (.tuple #[.slice x 0 0, .bool false])) W := fun hb x W k => nwb_no (liL_no hb) hb _ _ k
  have HN := Lib.hid HN0
  clear HN0
  have HD := Lib.hid (fun W => dv_any s W)
  rcases inB_cases s (-9998) 9998 with ⟨hs, s0, s1⟩ | ⟨hs, s0⟩
  case' inr =>
    have HB := Lib.hid (liB_arg (f := f) (s := s) (d := dy) (by omega))
    rw [hs] at HD
    clear hs s0
    go_enter Try.func36, Try.ntmps36
    go_wp2_with fail
    refine (HD.out _).mono ?_
    rintro e w1 ⟨rfl, rfl⟩
    go_wp2
    go_ret2
    exact HN.out HB.out _ _ (Keep.refl w)
  rw [hs] at HD
  by_cases hd1 : dy < 1
  · have HB := Lib.hid (liB_arg (f := f) (s := s) (d := dy) (by omega))
    have d1 : decide (dy < 1) = true := decide_eq_true hd1
    go_enter Try.func36, Try.ntmps36
    go_wp2_with fail
    refine (HD.out _).mono ?_
    rintro e w1 ⟨rfl, rfl⟩
    go_wp2
    go_ret2
    exact HN.out HB.out _ _ (Keep.refl w)
  have d1 : decide (dy < 1) = false := decide_eq_false hd1
  by_cases hd2 : 12 < dy
  · have HB := Lib.hid (liB_arg (f := f) (s := s) (d := dy) (by omega))
    have d2 : decide (12 < dy) = true := decide_eq_true hd2
    go_enter Try.func36, Try.ntmps36
    go_wp2_with fail
    refine (HD.out _).mono ?_
    rintro e w1 ⟨rfl, rfl⟩
    go_wp2
    go_ret2
    exact HN.out HB.out _ _ (Keep.refl w)
  obtain ⟨n, rfl⟩ := Int.eq_ofNat_of_zero_le (show 0 ≤ dy by omega)
  have d1' : decide (n < 1) = false := decide_eq_false (by omega)
  have d2 : decide (12 < (n : Int)) = false := decide_eq_false hd2
  have d2' : decide (12 < n) = false := decide_eq_false (by omega)
  have HLn : Hid ((lil f s n).length = n) := Lib.hid (lil_len f s n)
  have HBad := Lib.hid (fun (k : Nat) (hk : k < n) (h : f + (k : Int) * s < -999 ∨ 10999 < f + (k : Int) * s) => liB_bad (f := f) (s := s) (d := (n : Int)) (i := k) (by omega) h)
  have HGood := Lib.hid (fun (h : ∀ i, i < n → -999 ≤ f + (i : Int) * s ∧ f + (i : Int) * s ≤ 10999) => liB_mk (f := f) (s := s) (n := n) ⟨s0, s1⟩ (by omega) h)
  have hmk := fun W => run_make_row' (P := Try.prog) 27 3 (.int .i64 0) 8 Try.underlying27 infoIntO rfl .i64 .i64 n (by omega) (by omega) W
  have hn12 : n ≤ 12 := by omega
  clear hd1 hd2 hs
  go_enter Try.func36, Try.ntmps36
  go_wp2_with fail
  refine (HD.out _).mono ?_
  rintro e w1 ⟨rfl, rfl⟩
  go_wp2_with fail
  go_loopw [9, 27] (fun v i wr => ∃ (k : Nat) (y : Int), k ≤ n ∧ i = .int .i64 k ∧ v = .int .i64 y ∧ Hid (f + (k : Int) * s = y) ∧ Hid (Wr wr w.heap.size ((lil f s n).take k ++ List.replicate (n - k) 0)) ∧ Hid (∀ j, j < k → -999 ≤ f + (j : Int) * s ∧ f + (j : Int) * s ≤ 10999) ∧ w.heap.size < wr.heap.size ∧ Keep w wr) (fun _ i _ => n - (intOf i).toNat)
  case atStart =>
    refine ⟨0, f, by omega, rfl, rfl, Lib.hid (by simp), Lib.hid ?_, Lib.hid (fun j hj => by omega), by simp, (Keep.refl w).alloc _⟩
    intro j hj
    have hj' : j < n := by simpa using hj
    refine ⟨(World.cell?_alloc_new w _ _ j).trans ?_, World.frozen?_alloc_at _ _ _ _ rfl⟩
    rw [made_at _ _ hj']
    simp [List.getD_eq_getElem?_getD, hj']
  case round =>
    obtain ⟨k, y, hk, rfl, rfl, HY, HW, HA, hlw, hK⟩ := hrel
    clear hmk
    have k0 : (0 : Int) ≤ (k : Int) := by omega
    by_cases hlt : k < n
    · have kz : (k : Int) < (n : Int) := by omega
      have HR := Lib.hid (fun W => rd_impl y W)
      rcases Bool.eq_false_or_eq_true (rdB y) with hr | hr
      · have hy := rd_bd hr
        rw [hr] at HR
        have hP := part_setL HLn.out hlt
        rw [lil_at hlt, HY.out] at hP
        have HWn := Lib.hid (HW.out.set (k := k) (v := y) (by rw [part_len HLn.out hk]; exact hlt))
        rw [hP] at HWn
        obtain ⟨w1, w2⟩ := HW.out k (by rw [part_len HLn.out hk]; exact hlt)
        obtain ⟨y0, hy0⟩ : ∃ y0, ((lil f s n).take k ++ List.replicate (n - k) 0).getD k 0 = y0 := ⟨_, rfl⟩
        rw [hy0] at w1
        have HY2 : Hid (f + ((k + 1 : Nat) : Int) * s = y + s) := Lib.hid (by rw [← HY.out, show (((k + 1 : Nat)) : Int) = (k : Int) + 1 by omega, Int.add_mul]; omega)
        have HA2 : Hid (∀ j, j < k + 1 → -999 ≤ f + (j : Int) * s ∧ f + (j : Int) * s ≤ 10999) := Lib.hid (fun j hj => by
          by_cases e : j = k
          · rw [e, HY.out]; exact hy
          · exact HA.out j (by omega))
        clear hP hy0 hr
        go_wp2_with fail
        refine (HR.out _).mono ?_
        rintro e w3 ⟨rfl, rfl⟩
        go_wp2
        go_roundw
        case rel => exact ⟨k + 1, y + s, by omega, by go_num, by go_num, HY2, Lib.hid (by exact HWn.out), HA2, by simpa [World.setCell] using hlw, hK.setCell (Nat.le_refl _) _⟩
        case measure => simp [intOf]; omega
      · have HBn := Lib.hid (HBad.out k hlt (by rw [HY.out]; exact rd_no hr))
        rw [hr] at HR
        clear hr
        go_wp2_with fail
        refine (HR.out _).mono ?_
        rintro e w3 ⟨rfl, rfl⟩
        go_wp2
        go_ret2
        exact HN.out HBn.out _ _ hK
    · obtain rfl : k = n := by omega
      have HWf : Hid (Wr wr w.heap.size (lil f s k)) := Lib.hid (by have h1 := HW.out; rw [part_all HLn.out] at h1; exact h1)
      have HB := Lib.hid (HGood.out HA.out)
      have HV := Lib.hid (liL_yes HB.out)
      go_wp2
      go_ret2
      rw [HV.out]
      exact nwb_made HWf.out HLn.out.symm HB.out (Nat.le_refl _) (Nat.le_refl _) hlw hK
set_option maxRecDepth 100000 in
set_option maxHeartbeats 4000000 in
theorem li_spec (f s dy : Int) (w : World) :
    Calls Try.prog 37 #[.int .i64 f, .int .i64 s, .int .i64 dy] w (NwB (liL f s dy) (liB f s dy) w) := by
  obtain ⟨i0, hi0, hz0, hz1, hz2⟩ := info_parts infoIntO
  have HN0 : ∀ (hb : liB f s dy = false) (x : Option Addr) W, Keep w W → NwB (liL f s dy) (liB f s dy) w (.returned (.tuple #[.slice x 0 0, .bool false])) W := fun hb x W k => nwb_no (liL_no hb) hb _ _ k
  have HN := Lib.hid HN0
  clear HN0
  have HI1 := Lib.hid (fun W => l6In_any f (-999) 10999 W)
  have HI2 := Lib.hid (fun W => l6In_any s (-9998) 9998 W)
  have HI3 := Lib.hid (fun W => l6In_any dy 1 12 W)
  rcases inB_cases f (-999) 10999 with ⟨hf, f0, f1⟩ | ⟨hf, f0⟩
  case' inr =>
    have HB : Hid (liB f s dy = false) := Lib.hid (by
      by_cases hd : dy < 1
      · exact liB_arg (by omega)
      · exact liB_bad (i := 0) (by omega) (by simpa using f0))
    rw [hf] at HI1
    clear hf f0
    go_enter Try.func37, Try.ntmps37
    go_wp2_with fail
    refine (HI1.out _).mono ?_
    rintro e w1 ⟨rfl, rfl⟩
    go_wp2
    go_ret2
    exact HN.out HB.out _ _ ((Keep.refl w).alloc _)
  rw [hf] at HI1
  rcases inB_cases s (-9998) 9998 with ⟨hs, s0, s1⟩ | ⟨hs, s0⟩
  case' inr =>
    have HB := Lib.hid (liB_arg (f := f) (s := s) (d := dy) (by omega))
    rw [hs] at HI2
    clear hs s0
    go_enter Try.func37, Try.ntmps37
    go_wp2_with fail
    refine (HI1.out _).mono ?_
    rintro e w1 ⟨rfl, rfl⟩
    go_wp2_with fail
    refine (HI2.out _).mono ?_
    rintro e w1 ⟨rfl, rfl⟩
    go_wp2
    go_ret2
    exact HN.out HB.out _ _ ((Keep.refl w).alloc _)
  rw [hs] at HI2
  rcases inB_cases dy 1 12 with ⟨hd, d0, d1⟩ | ⟨hd, d0⟩
  case' inr =>
    have HB := Lib.hid (liB_arg (f := f) (s := s) (d := dy) (by omega))
    rw [hd] at HI3
    clear hd d0
    go_enter Try.func37, Try.ntmps37
    go_wp2_with fail
    refine (HI1.out _).mono ?_
    rintro e w1 ⟨rfl, rfl⟩
    go_wp2_with fail
    refine (HI2.out _).mono ?_
    rintro e w1 ⟨rfl, rfl⟩
    go_wp2_with fail
    refine (HI3.out _).mono ?_
    rintro e w1 ⟨rfl, rfl⟩
    go_wp2
    go_ret2
    exact HN.out HB.out _ _ ((Keep.refl w).alloc _)
  rw [hd] at HI3
  obtain ⟨n, rfl⟩ := Int.eq_ofNat_of_zero_le (show 0 ≤ dy by omega)
  have HLn : Hid ((lil f s n).length = n) := Lib.hid (lil_len f s n)
  have HBad := Lib.hid (fun (k : Nat) (hk : k < n) (h : f + (k : Int) * s < -999 ∨ 10999 < f + (k : Int) * s) => liB_bad (f := f) (s := s) (d := (n : Int)) (i := k) (by omega) h)
  have HGood := Lib.hid (fun (h : ∀ i, i < n → -999 ≤ f + (i : Int) * s ∧ f + (i : Int) * s ≤ 10999) => liB_mk (f := f) (s := s) (n := n) ⟨s0, s1⟩ (by omega) h)
  have hn12 : n ≤ 12 := by omega
  clear hd hf hs d0 d1
  go_enter Try.func37, Try.ntmps37
  go_wp2_with fail
  refine (HI1.out _).mono ?_
  rintro e w1 ⟨rfl, rfl⟩
  go_wp2_with fail
  refine (HI2.out _).mono ?_
  rintro e w1 ⟨rfl, rfl⟩
  go_wp2_with fail
  refine (HI3.out _).mono ?_
  rintro e w1 ⟨rfl, rfl⟩
  go_wp2_with fail
  go_loopw [8, 9] (fun u i wr => ∃ (k g c : Nat), k ≤ n ∧ i = .int .i64 k ∧ u = .slice (some ⟨g, 0, none⟩) k c ∧ Hid (wr.ownsRow w.heap.size 3 1 (.slice (some ⟨g, 0, none⟩) k c) k (((lil f s n).take k).map (Value.int .i64))) ∧ Hid (∀ j, j < k → -999 ≤ f + (j : Int) * s ∧ f + (j : Int) * s ≤ 10999) ∧ Keep w wr) (fun _ i _ => n - (intOf i).toNat)
  case atStart => exact ⟨0, w.heap.size, 0, by omega, rfl, rfl, Lib.hid (World.ownsRow_made w #[] 0 (Nat.le_refl _) (by unfold maxLen; omega) rfl), Lib.hid (fun j hj => by omega), (Keep.refl w).alloc _⟩
  case round =>
    obtain ⟨k, g, cc, hk, rfl, rfl, HW, HA, hK⟩ := hrel
    have hsz := hK.size
    have k0 : (0 : Int) ≤ (k : Int) := by omega
    by_cases hlt : k < n
    · have kz : (k : Int) < (n : Int) := by omega
      have zb := mul_bdL (A := 12) (B := 9998) (a := (k : Int)) (b := s) (by omega) (by omega)
      obtain ⟨z, hz⟩ : ∃ z, (k : Int) * s = z := ⟨_, rfl⟩
      obtain ⟨y, hy⟩ : ∃ y, f + z = y := ⟨_, rfl⟩
      rw [hz] at zb
      have HY : Hid (f + (k : Int) * s = y) := Lib.hid (by rw [hz, hy])
      have W1 : IntKind.i64.wrap ((k : Int) * s) = z := by rw [hz]; exact IntWalk.i64_in _ ⟨by omega, by omega⟩
      have W2 : IntKind.i64.wrap (f + z) = y := by rw [hy]; exact IntWalk.i64_in _ ⟨by omega, by omega⟩
      have HI := Lib.hid (fun W => l6In_any y (-999) 10999 W)
      rcases inB_cases y (-999) 10999 with ⟨hr, y0, y1⟩ | ⟨hr, y0⟩
      · rw [hr] at HI
        have HS := Lib.hid (lil_snoc (f := f) (s := s) hlt)
        rw [HY.out] at HS
        have HA2 : Hid (∀ j, j < k + 1 → -999 ≤ f + (j : Int) * s ∧ f + (j : Int) * s ≤ 10999) := Lib.hid (fun j hj => by
          by_cases e : j = k
          · rw [e, HY.out]; exact ⟨y0, y1⟩
          · exact HA.out j (by omega))
        obtain ⟨L, hL⟩ : ∃ L, (lil f s n).take k = L := ⟨_, rfl⟩
        rw [hL] at HW HS
        clear hL hr
        have HEnd : Hid (∀ (w9 : World) (v' : Value), w9.ownsRow w.heap.size 3 1 v' (k + 1) (L.map (Value.int .i64) ++ [.int .i64 y]) → ∃ g' c', v' = .slice (some ⟨g', 0, none⟩) (k + 1) c' ∧ Hid (w9.ownsRow w.heap.size 3 1 (.slice (some ⟨g', 0, none⟩) (k + 1) c') (k + 1) (((lil f s n).take (k + 1)).map (Value.int .i64)))) := Lib.hid (fun w9 v' ho => by
          obtain ⟨g', c', hv, hbg, hlg⟩ := ho.form (by omega)
          subst hv
          exact ⟨g', c', rfl, Lib.hid (by rw [HS.out]; simpa using ho)⟩)
        go_wp2_with fail
        refine (HI.out _).mono ?_
        rintro e w3 ⟨rfl, rfl⟩
        have hown : wr.ownsRow w.heap.size 3 1 _ _ _ := HW.out
        go_wp2_with (at_builtin; refine wpList_append_own _ rfl _ _ 27 rfl w.heap.size 3 i0 (.int .i64 0) 1 8 Try.underlying27 hi0 hz0 hz1 hz2 rfl (by decide) _ _ _ rfl (hown.alloc _) ⟨wr.heap.size, 0, none⟩ 1 1 [.int .i64 y] rfl rfl ?c1a ?c2a ?c3a ?c4a ?c5a ?_)
        try case c1a =>
          intro j u hj
          match j, hj with
          | 0, hj => simp at hj; subst hj; simp [Addr.add]
        case c2a => first | rfl | (intro u hu; simp at hu; subst hu; rfl)
        case c3a => unfold maxLen; omega
        case c4a => omega
        case c5a => first | omega | (simp; omega)
        intro v' w9 hown' hgrow hnil
        have HK2 : Hid (Keep w w9) := Lib.hid (Below.grown (hK.alloc (.cells #[.int .i64 y] 3)) hgrow (hK.alloc (.cells #[.int .i64 y] 3)).size (fun q hq => (hown.lt q hq).1))
        clear hgrow hnil hown
        obtain ⟨g', c', rfl, HN2⟩ := HEnd.out w9 v' hown'
        clear hown'
        go_wp2
        go_roundw
        case rel => exact ⟨k + 1, g', c', by omega, by go_num, rfl, HN2, HA2, HK2.out⟩
        case measure => simp [intOf]; omega
      · have HBn := Lib.hid (HBad.out k hlt (by rw [HY.out]; exact y0))
        rw [hr] at HI
        clear hr
        go_wp2_with fail
        refine (HI.out _).mono ?_
        rintro e w3 ⟨rfl, rfl⟩
        go_wp2
        go_ret2
        exact HN.out HBn.out _ _ (hK.alloc _)
    · obtain rfl : k = n := by omega
      have HB := Lib.hid (HGood.out HA.out)
      have HV := Lib.hid (liL_yes HB.out)
      have HF : Hid (OwI wr w.heap.size (.slice (some ⟨g, 0, none⟩) k cc) (lil f s k)) := Lib.hid (by
        have h1 := HW.out
        rw [List.take_of_length_le (by rw [HLn.out]; exact Nat.le_refl _)] at h1
        unfold OwI
        rw [HLn.out]; exact h1)
      go_wp2
      go_ret2
      rw [HV.out]
      exact nwb_own HF.out HB.out (Nat.le_refl _) hK
end Go.Proofs.Ytkiibklenpncpaa
