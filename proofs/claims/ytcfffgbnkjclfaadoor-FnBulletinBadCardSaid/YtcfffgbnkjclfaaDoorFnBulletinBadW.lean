/- P60: only valid series have a text. -/
import Derived.Test.YtcfffgbnkjclfaaDoorDrBt
import Derived.Test.YtcfffgbnkjclfaaDoorBj
import Derived.Test.YtcfffgbnkjclfaaDoorFr
import Derived.LoopTactic
import Derived.IntWalk
namespace Go.Proofs.YtcfffgbnkjclfaaDoor
open Go.RowKit
set_option linter.unusedVariables false

theorem bt_and {s t f : Int} {zs : List Int} (h : btOk s t f zs = true) : btA s t f zs = true ∧ btB s t f zs.length = true := by
  rw [btOk, Bool.and_eq_true] at h; exact h
theorem bt_all {s t f : Int} {zs : List Int} (h : btOk s t f zs = true) : ∀ k, k < zs.length → btV s t f zs k = true := fun k hk =>
  List.all_eq_true.1 (bt_and h).1 k (List.mem_range.2 hk)
theorem bt_parts {s t f : Int} {n : Nat} : btB s t f n = true ↔ ((1 ≤ t ∧ t ≤ 3) ∧ (1 ≤ s ∧ s ≤ 9) ∧ (0 ≤ f ∧ f ≤ 999) ∧ (1 ≤ n ∧ n ≤ 12) ∧ f + (n : Int) - 1 ≤ 999) := by
  simp only [btB, saB, kOk, inB, Bool.and_eq_true, decide_eq_true_eq]
  omega
theorem btAll_succ (s t f : Int) (zs : List Int) (k : Nat) : (List.range (k + 1)).all (btV s t f zs) = ((List.range k).all (btV s t f zs) && btV s t f zs k) := by
  rw [List.range_succ, List.all_append]; simp
set_option maxRecDepth 100000 in
set_option maxHeartbeats 6400000 in
theorem walk_FnBulletinBad (a0 : Option Addr) (len0 cap0 : Nat) (z0 : List Int) (w : World) (w0 : IsRow .u8 w a0 len0 cap0 z0) (T : Tabs w) :
    Calls Tryd.prog 4 #[.slice a0 len0 cap0] w fun e w' => e = .returned (.bool true) ∧ Below w.heap.size w w' := by
  have ha := code_of_row w0
  obtain ⟨hl0, hm0⟩ := ha.1
  unfold maxLen at hm0
  clear w0
  by_cases h : len0 ≤ 1048576
  case' neg =>
    have hd : decide (1048576 < (len0 : Int)) = true := by simp; omega
    go_enter Tryd.func4, Tryd.ntmps4
    go_wp2
    go_ret
    exact ⟨rfl, Below.refl _ _⟩
  have hd : decide (1048576 < (len0 : Int)) = false := by simp; omega
  go_enter Tryd.func4, Tryd.ntmps4
  have HT := Lib.hid T
  clear T
  go_wp2_with fail
  refine (drawBulletinText a0 len0 cap0 _ ha).mono ?_
  rintro e w1 ⟨s, t, f, a, c, zs, rfl, hf, hl13, hlc, hB, hL, k1⟩
  clear ha hB
  go_wp2_with fail
  refine (bt_impl a c s t f zs _ (HT.out.keep k1) hL (by omega) hf).mono ?_
  rintro e w2 ⟨rfl, k2⟩
  go_wp2_with fail
  refine (bt_spec a c s t f zs _ (hL.keep k2) (by omega) hf).mono ?_
  rintro e w3 ⟨rfl, k3⟩
  have K3 : Keep w w3 := (k1.trans k2).trans k3
  have HL3 := Lib.hid ((hL.keep k2).keep k3)
  have hfk : IntKind.i64.wrap (f + (zs.length : Int)) = f + (zs.length : Int) := IntWalk.i64_in _ (by omega)
  have hfk1 : IntKind.i64.wrap (f + (zs.length : Int) - 1) = f + (zs.length : Int) - 1 := IntWalk.i64_in _ (by omega)
  clear k1 k2 k3 hL
  rcases Bool.eq_false_or_eq_true (btOk s t f zs) with hok | hok
  · obtain ⟨u1, u2⟩ := btT_size hok
    obtain ⟨g1, g2, g3, g4, g5⟩ := bt_parts.1 (bt_and hok).2
    have HALL := Lib.hid (bt_all hok)
    clear hok
    generalize btT s t f zs = u at *
    have hu1 : ¬ u.toList = [] := fun e => by
      have h9 : u.data.toList = [] := by rw [← Lib.toList_data]; exact e
      have h8 : u.size = u.data.toList.length := (Array.length_toList).symm
      rw [h8, h9] at u1; exact absurd u1 (by decide)
    have y0 : (0 : Int) < (zs.length : Int) := by omega
    have y0d : decide ((0 : Int) < (zs.length : Int)) = true := decide_eq_true y0
    have y1 : (zs.length : Int) ≤ 12 := by omega
    have y1d : decide ((zs.length : Int) ≤ 12) = true := decide_eq_true y1
    have y2 : 0 ≤ f := by omega
    have y2d : decide (0 ≤ f) = true := decide_eq_true y2
    have y3 : f + (zs.length : Int) - 1 ≤ 999 := by omega
    have y3d : decide (f + (zs.length : Int) - 1 ≤ 999) = true := decide_eq_true y3
    have y4 : 1 ≤ s := by omega
    have y4d : decide (1 ≤ s) = true := decide_eq_true y4
    have y5 : s ≤ 9 := by omega
    have y5d : decide (s ≤ 9) = true := decide_eq_true y5
    have y6 : 1 ≤ t := by omega
    have y6d : decide (1 ≤ t) = true := decide_eq_true y6
    have y7 : t ≤ 3 := by omega
    have y7d : decide (t ≤ 3) = true := decide_eq_true y7
    go_wp2_with fail
    go_loopw [9, 10] (fun v i wr => ∃ k : Nat, k ≤ zs.length ∧ i = .int .i64 k ∧ v = .bool true ∧ Keep w3 wr) (fun _ i _ => zs.length - (RowKit.intOf i).toNat)
    case atStart => exact ⟨0, by omega, rfl, rfl, Keep.refl _⟩
    case round =>
      obtain ⟨k, hk, rfl, rfl, hK⟩ := hrel
      by_cases hlt : k < zs.length
      case' neg =>
        obtain rfl : k = zs.length := by omega
        go_wp2
        go_ret
        exact ⟨retB (by first | rfl | decide | (simp [hu1]; done)), K3.trans hK⟩
      obtain ⟨b, off, hae, hb, hc⟩ := (HL3.out.keep hK).all (by omega)
      have cz := hc k hlt
      subst hae
      have HV : Hid (btV s t f zs k = (decide (zs.getD k 0 = -9999) || rOk s (f + (k : Int)) t (zs.getD k 0))) := Lib.hid rfl
      have HAS := Lib.hid (btAll_succ s t f zs k)
      generalize zs.getD k 0 = z at *
      have hfk2 : IntKind.i64.wrap (f + (k : Int)) = f + (k : Int) := IntWalk.i64_in _ (by omega)
      clear hc
      by_cases hz : z = -9999
      · have hzd : (z == -9999) = true := beq_iff_eq.2 hz
        have HZ : Hid (btV s t f zs k = true) := Lib.hid (by rw [HV.out, decide_eq_true hz]; rfl)
        clear hz HV
        go_wp2
        go_roundw
        case rel => exact ⟨k + 1, by omega, by go_num, rfl, hK⟩
        case measure => simp [RowKit.intOf]; omega
      · have hzd : (z == -9999) = false := beq_eq_false_iff_ne.2 hz
        have HZ : Hid (btV s t f zs k = rOk s (f + (k : Int)) t z) := Lib.hid (by rw [HV.out, decide_eq_false hz]; rfl)
        have HRV := Lib.hid (fun W => rv_impl s (f + (k : Int)) t z W)
        rw [← HZ.out] at HRV
        rw [HALL.out k hlt] at HRV
        clear hz HV
        go_wp2_with fail
        refine (HRV.out _).mono ?_
        rintro e w4 ⟨rfl, k4⟩
        go_wp2
        go_roundw
        case rel => exact ⟨k + 1, by omega, by go_num, rfl, hK.trans k4⟩
        case measure => simp [RowKit.intOf]; omega
  · rw [btT_no hok]
    rcases Bool.eq_false_or_eq_true (btB s t f zs.length) with hbb | hbb
    · obtain ⟨g1, g2, g3, g4, g5⟩ := bt_parts.1 hbb
      have HAF : Hid ((List.range zs.length).all (btV s t f zs) = false) := Lib.hid (by rw [btOk, hbb] at hok; simpa [btA] using hok)
      clear hok hbb
      have y0 : (0 : Int) < (zs.length : Int) := by omega
      have y0d : decide ((0 : Int) < (zs.length : Int)) = true := decide_eq_true y0
      have y1 : (zs.length : Int) ≤ 12 := by omega
      have y1d : decide ((zs.length : Int) ≤ 12) = true := decide_eq_true y1
      have y2 : 0 ≤ f := by omega
      have y2d : decide (0 ≤ f) = true := decide_eq_true y2
      have y3 : f + (zs.length : Int) - 1 ≤ 999 := by omega
      have y3d : decide (f + (zs.length : Int) - 1 ≤ 999) = true := decide_eq_true y3
      have y4 : 1 ≤ s := by omega
      have y4d : decide (1 ≤ s) = true := decide_eq_true y4
      have y5 : s ≤ 9 := by omega
      have y5d : decide (s ≤ 9) = true := decide_eq_true y5
      have y6 : 1 ≤ t := by omega
      have y6d : decide (1 ≤ t) = true := decide_eq_true y6
      have y7 : t ≤ 3 := by omega
      have y7d : decide (t ≤ 3) = true := decide_eq_true y7
      go_wp2_with fail
      go_loopw [9, 10] (fun v i wr => ∃ k : Nat, k ≤ zs.length ∧ i = .int .i64 k ∧ v = .bool ((List.range k).all (btV s t f zs)) ∧ Keep w3 wr) (fun _ i _ => zs.length - (RowKit.intOf i).toNat)
      case atStart => exact ⟨0, by omega, rfl, by simp, Keep.refl _⟩
      case round =>
        obtain ⟨k, hk, rfl, rfl, hK⟩ := hrel
        by_cases hlt : k < zs.length
        case' neg =>
          obtain rfl : k = zs.length := by omega
          have HE : Hid ((List.range zs.length).all (btV s t f zs) = false) := HAF
          rw [HE.out]
          go_wp2
          go_ret
          exact ⟨retB (by first | rfl | decide), K3.trans hK⟩
        obtain ⟨q, hq⟩ : ∃ q, (List.range k).all (btV s t f zs) = q := ⟨_, rfl⟩
        have HQ := Lib.hid hq
        rw [hq]
        clear hq
        cases q
        · go_wp2
          go_roundw
          case rel => exact ⟨k + 1, by omega, by go_num, by rw [btAll_succ, HQ.out]; rfl, hK⟩
          case measure => simp [RowKit.intOf]; omega
        obtain ⟨b, off, hae, hb, hc⟩ := (HL3.out.keep hK).all (by omega)
        have cz := hc k hlt
        subst hae
        have HV : Hid (btV s t f zs k = (decide (zs.getD k 0 = -9999) || rOk s (f + (k : Int)) t (zs.getD k 0))) := Lib.hid rfl
        have HAS := Lib.hid (btAll_succ s t f zs k)
        generalize zs.getD k 0 = z at *
        have hfk2 : IntKind.i64.wrap (f + (k : Int)) = f + (k : Int) := IntWalk.i64_in _ (by omega)
        clear hc
        by_cases hz : z = -9999
        · have hzd : (z == -9999) = true := beq_iff_eq.2 hz
          have HZ : Hid (btV s t f zs k = true) := Lib.hid (by rw [HV.out, decide_eq_true hz]; rfl)
          clear hz HV
          go_wp2
          go_roundw
          case rel => exact ⟨k + 1, by omega, by go_num, by rw [HAS.out, HQ.out, HZ.out]; rfl, hK⟩
          case measure => simp [RowKit.intOf]; omega
        · have hzd : (z == -9999) = false := beq_eq_false_iff_ne.2 hz
          have HZ : Hid (btV s t f zs k = rOk s (f + (k : Int)) t z) := Lib.hid (by rw [HV.out, decide_eq_false hz]; rfl)
          have HRV := Lib.hid (fun W => rv_impl s (f + (k : Int)) t z W)
          rw [← HZ.out] at HRV
          skip
          clear hz HV
          go_wp2_with fail
          refine (HRV.out _).mono ?_
          rintro e w4 ⟨rfl, k4⟩
          go_wp2
          go_roundw
          case rel => exact ⟨k + 1, by omega, by go_num, by rw [HAS.out, HQ.out]; first | rfl | (simp; done), hK.trans k4⟩
          case measure => simp [RowKit.intOf]; omega
    · have hno := fun h9 => Bool.false_ne_true (hbb.symm.trans (bt_parts.2 h9))
      clear hok hbb
      by_cases x0 : (0 : Int) < (zs.length : Int)
      case' neg =>
        clear hno
        have y0 : ¬ ((0 : Int) < (zs.length : Int)) := by omega
        have y0d : decide ((0 : Int) < (zs.length : Int)) = false := decide_eq_false y0
        go_wp2_with fail
        go_loopw [9, 10] (fun v i wr => ∃ k : Nat, k ≤ zs.length ∧ i = .int .i64 k ∧ v = .bool false ∧ Keep w3 wr) (fun _ i _ => zs.length - (RowKit.intOf i).toNat)
        case atStart => exact ⟨0, by omega, rfl, rfl, Keep.refl _⟩
        case round =>
          obtain ⟨k, hk, rfl, rfl, hK⟩ := hrel
          by_cases hlt : k < zs.length
          case' neg =>
            obtain rfl : k = zs.length := by omega
            go_wp2
            go_ret
            exact ⟨retB (by first | rfl | decide), K3.trans hK⟩
          go_wp2
          go_roundw
          case rel => exact ⟨k + 1, by omega, by go_num, rfl, hK⟩
          case measure => simp [RowKit.intOf]; omega
      have y0 : (0 : Int) < (zs.length : Int) := by omega
      have y0d : decide ((0 : Int) < (zs.length : Int)) = true := decide_eq_true y0
      by_cases x1 : (zs.length : Int) ≤ 12
      case' neg =>
        clear hno
        have y1 : ¬ ((zs.length : Int) ≤ 12) := by omega
        have y1d : decide ((zs.length : Int) ≤ 12) = false := decide_eq_false y1
        go_wp2_with fail
        go_loopw [9, 10] (fun v i wr => ∃ k : Nat, k ≤ zs.length ∧ i = .int .i64 k ∧ v = .bool false ∧ Keep w3 wr) (fun _ i _ => zs.length - (RowKit.intOf i).toNat)
        case atStart => exact ⟨0, by omega, rfl, rfl, Keep.refl _⟩
        case round =>
          obtain ⟨k, hk, rfl, rfl, hK⟩ := hrel
          by_cases hlt : k < zs.length
          case' neg =>
            obtain rfl : k = zs.length := by omega
            go_wp2
            go_ret
            exact ⟨retB (by first | rfl | decide), K3.trans hK⟩
          go_wp2
          go_roundw
          case rel => exact ⟨k + 1, by omega, by go_num, rfl, hK⟩
          case measure => simp [RowKit.intOf]; omega
      have y1 : (zs.length : Int) ≤ 12 := by omega
      have y1d : decide ((zs.length : Int) ≤ 12) = true := decide_eq_true y1
      by_cases x2 : 0 ≤ f
      case' neg =>
        clear hno
        have y2 : ¬ (0 ≤ f) := by omega
        have y2d : decide (0 ≤ f) = false := decide_eq_false y2
        go_wp2_with fail
        go_loopw [9, 10] (fun v i wr => ∃ k : Nat, k ≤ zs.length ∧ i = .int .i64 k ∧ v = .bool false ∧ Keep w3 wr) (fun _ i _ => zs.length - (RowKit.intOf i).toNat)
        case atStart => exact ⟨0, by omega, rfl, rfl, Keep.refl _⟩
        case round =>
          obtain ⟨k, hk, rfl, rfl, hK⟩ := hrel
          by_cases hlt : k < zs.length
          case' neg =>
            obtain rfl : k = zs.length := by omega
            go_wp2
            go_ret
            exact ⟨retB (by first | rfl | decide), K3.trans hK⟩
          go_wp2
          go_roundw
          case rel => exact ⟨k + 1, by omega, by go_num, rfl, hK⟩
          case measure => simp [RowKit.intOf]; omega
      have y2 : 0 ≤ f := by omega
      have y2d : decide (0 ≤ f) = true := decide_eq_true y2
      by_cases x3 : f + (zs.length : Int) - 1 ≤ 999
      case' neg =>
        clear hno
        have y3 : ¬ (f + (zs.length : Int) - 1 ≤ 999) := by omega
        have y3d : decide (f + (zs.length : Int) - 1 ≤ 999) = false := decide_eq_false y3
        go_wp2_with fail
        go_loopw [9, 10] (fun v i wr => ∃ k : Nat, k ≤ zs.length ∧ i = .int .i64 k ∧ v = .bool false ∧ Keep w3 wr) (fun _ i _ => zs.length - (RowKit.intOf i).toNat)
        case atStart => exact ⟨0, by omega, rfl, rfl, Keep.refl _⟩
        case round =>
          obtain ⟨k, hk, rfl, rfl, hK⟩ := hrel
          by_cases hlt : k < zs.length
          case' neg =>
            obtain rfl : k = zs.length := by omega
            go_wp2
            go_ret
            exact ⟨retB (by first | rfl | decide), K3.trans hK⟩
          go_wp2
          go_roundw
          case rel => exact ⟨k + 1, by omega, by go_num, rfl, hK⟩
          case measure => simp [RowKit.intOf]; omega
      have y3 : f + (zs.length : Int) - 1 ≤ 999 := by omega
      have y3d : decide (f + (zs.length : Int) - 1 ≤ 999) = true := decide_eq_true y3
      by_cases x4 : 1 ≤ s
      case' neg =>
        clear hno
        have y4 : ¬ (1 ≤ s) := by omega
        have y4d : decide (1 ≤ s) = false := decide_eq_false y4
        go_wp2_with fail
        go_loopw [9, 10] (fun v i wr => ∃ k : Nat, k ≤ zs.length ∧ i = .int .i64 k ∧ v = .bool false ∧ Keep w3 wr) (fun _ i _ => zs.length - (RowKit.intOf i).toNat)
        case atStart => exact ⟨0, by omega, rfl, rfl, Keep.refl _⟩
        case round =>
          obtain ⟨k, hk, rfl, rfl, hK⟩ := hrel
          by_cases hlt : k < zs.length
          case' neg =>
            obtain rfl : k = zs.length := by omega
            go_wp2
            go_ret
            exact ⟨retB (by first | rfl | decide), K3.trans hK⟩
          go_wp2
          go_roundw
          case rel => exact ⟨k + 1, by omega, by go_num, rfl, hK⟩
          case measure => simp [RowKit.intOf]; omega
      have y4 : 1 ≤ s := by omega
      have y4d : decide (1 ≤ s) = true := decide_eq_true y4
      by_cases x5 : s ≤ 9
      case' neg =>
        clear hno
        have y5 : ¬ (s ≤ 9) := by omega
        have y5d : decide (s ≤ 9) = false := decide_eq_false y5
        go_wp2_with fail
        go_loopw [9, 10] (fun v i wr => ∃ k : Nat, k ≤ zs.length ∧ i = .int .i64 k ∧ v = .bool false ∧ Keep w3 wr) (fun _ i _ => zs.length - (RowKit.intOf i).toNat)
        case atStart => exact ⟨0, by omega, rfl, rfl, Keep.refl _⟩
        case round =>
          obtain ⟨k, hk, rfl, rfl, hK⟩ := hrel
          by_cases hlt : k < zs.length
          case' neg =>
            obtain rfl : k = zs.length := by omega
            go_wp2
            go_ret
            exact ⟨retB (by first | rfl | decide), K3.trans hK⟩
          go_wp2
          go_roundw
          case rel => exact ⟨k + 1, by omega, by go_num, rfl, hK⟩
          case measure => simp [RowKit.intOf]; omega
      have y5 : s ≤ 9 := by omega
      have y5d : decide (s ≤ 9) = true := decide_eq_true y5
      by_cases x6 : 1 ≤ t
      case' neg =>
        clear hno
        have y6 : ¬ (1 ≤ t) := by omega
        have y6d : decide (1 ≤ t) = false := decide_eq_false y6
        go_wp2_with fail
        go_loopw [9, 10] (fun v i wr => ∃ k : Nat, k ≤ zs.length ∧ i = .int .i64 k ∧ v = .bool false ∧ Keep w3 wr) (fun _ i _ => zs.length - (RowKit.intOf i).toNat)
        case atStart => exact ⟨0, by omega, rfl, rfl, Keep.refl _⟩
        case round =>
          obtain ⟨k, hk, rfl, rfl, hK⟩ := hrel
          by_cases hlt : k < zs.length
          case' neg =>
            obtain rfl : k = zs.length := by omega
            go_wp2
            go_ret
            exact ⟨retB (by first | rfl | decide), K3.trans hK⟩
          go_wp2
          go_roundw
          case rel => exact ⟨k + 1, by omega, by go_num, rfl, hK⟩
          case measure => simp [RowKit.intOf]; omega
      have y6 : 1 ≤ t := by omega
      have y6d : decide (1 ≤ t) = true := decide_eq_true y6
      by_cases x7 : t ≤ 3
      case' neg =>
        clear hno
        have y7 : ¬ (t ≤ 3) := by omega
        have y7d : decide (t ≤ 3) = false := decide_eq_false y7
        go_wp2_with fail
        go_loopw [9, 10] (fun v i wr => ∃ k : Nat, k ≤ zs.length ∧ i = .int .i64 k ∧ v = .bool false ∧ Keep w3 wr) (fun _ i _ => zs.length - (RowKit.intOf i).toNat)
        case atStart => exact ⟨0, by omega, rfl, rfl, Keep.refl _⟩
        case round =>
          obtain ⟨k, hk, rfl, rfl, hK⟩ := hrel
          by_cases hlt : k < zs.length
          case' neg =>
            obtain rfl : k = zs.length := by omega
            go_wp2
            go_ret
            exact ⟨retB (by first | rfl | decide), K3.trans hK⟩
          go_wp2
          go_roundw
          case rel => exact ⟨k + 1, by omega, by go_num, rfl, hK⟩
          case measure => simp [RowKit.intOf]; omega
      have y7 : t ≤ 3 := by omega
      have y7d : decide (t ≤ 3) = true := decide_eq_true y7
      exact absurd ⟨⟨x6, x7⟩, ⟨x4, x5⟩, by omega, by omega, by omega⟩ hno
end Go.Proofs.YtcfffgbnkjclfaaDoor
