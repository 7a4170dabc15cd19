/- Texts of series, first days without bounds: both sides answer 'btT'. -/
import Derived.Test.YtpdpcnblpcalaaaDoorBj
namespace Go.Proofs.YtpdpcnblpcalaaaDoor
open Go.RowKit
set_option linter.unusedVariables false

theorem btOk_out {s t f : Int} {zs : List Int} (hf : inB f 0 999 = false) : btOk s t f zs = false := by
  rw [btOk, btB, saB, hf]; simp
set_option maxRecDepth 100000 in
set_option maxHeartbeats 3200000 in
theorem bo_wide (a : Option Addr) (c : Nat) (s t f : Int) (zs : List Int) (w : World) (h : Ls w a zs) (hm : zs.length ≤ 1048576) (hf : inB f 0 999 = false) :
    Calls Tryd.prog 23 #[.int .i64 s, .int .i64 t, .int .i64 f, .slice a zs.length c] w fun e w' => e = .returned (.bool false) ∧ Keep w w' := by
  go_enter Tryd.func23, Tryd.ntmps23
  go_wp2_with fail
  go_loopw [9] (fun i wr => ∃ k : Nat, k ≤ zs.length ∧ i = .int .i64 k ∧ Keep w wr) (fun i _ => zs.length - (RowKit.intOf i).toNat)
  case atStart => exact ⟨0, by omega, rfl, Keep.refl _⟩
  case round =>
    obtain ⟨k, hk, rfl, hK⟩ := hrel
    by_cases hlt : k < zs.length
    · obtain ⟨b, off, hae, hb, hc⟩ := (h.keep hK).all (by omega)
      have cz := hc k hlt
      subst hae
      generalize zs.getD k 0 = z at *
      clear hc
      by_cases hz : z = -9999
      · have hzd : (z != -9999) = false := by simp [hz]
        clear hz
        go_wp2
        go_roundw
        case rel => exact ⟨k + 1, by omega, by go_num, hK⟩
        case measure => simp [RowKit.intOf]; omega
      · have hzd : (z != -9999) = true := by simp [hz]
        clear hz
        go_wp2_with fail
        refine (rv_spec _ _ _ _ _).mono ?_
        rintro e w1 ⟨rfl, k1⟩
        have hK1 : Keep w w1 := hK.trans k1
        generalize rOk _ _ _ _ = r
        cases r
        · go_wp2
          go_ret
          exact ⟨rfl, hK1⟩
        · go_wp2
          go_roundw
          case rel => exact ⟨k + 1, by omega, by go_num, hK1⟩
          case measure => simp [RowKit.intOf]; omega
    · obtain rfl : k = zs.length := by omega
      have hb1 : kOk t = true ∨ kOk t = false := by cases kOk t <;> simp
      have hb2 : inB s 1 9 = true ∨ inB s 1 9 = false := by cases inB s 1 9 <;> simp
      clear hk hlt
      go_wp2_with fail
      refine (kl_spec _ _).mono ?_
      rintro e w1 ⟨rfl, rfl⟩
      rcases hb1 with hb1 | hb1
      case' inr =>
        rw [hb1]
        go_wp2
        go_ret
        exact ⟨rfl, hK⟩
      rw [hb1]
      go_wp2_with fail
      refine (l6In_any _ _ _ _).mono ?_
      rintro e w1 ⟨rfl, rfl⟩
      rcases hb2 with hb2 | hb2
      case' inr =>
        rw [hb2]
        go_wp2
        go_ret
        exact ⟨rfl, hK⟩
      rw [hb2]
      go_wp2_with fail
      refine (l6In_any _ _ _ _).mono ?_
      rintro e w1 ⟨rfl, rfl⟩
      rw [hf]
      go_wp2
      go_ret
      exact ⟨rfl, hK⟩
set_option maxHeartbeats 3200000 in
theorem bt_spec' (a : Option Addr) (c : Nat) (s t f : Int) (zs : List Int) (w : World) (h : Ls w a zs) (hm : zs.length ≤ 1048576) :
    Calls Tryd.prog 8 #[.int .i64 s, .int .i64 t, .int .i64 f, .slice a zs.length c] w fun e w' => e = .returned (.string (btT s t f zs)) ∧ Keep w w' := by
  rcases Bool.eq_false_or_eq_true (inB f 0 999) with hf | hf
  · exact bt_spec a c s t f zs w h hm (by simp [inB] at hf; omega)
  · have HB := Lib.hid (bo_wide a c s t f zs w h hm hf)
    have HT := Lib.hid (btT_no (btOk_out (s := s) (t := t) (zs := zs) hf))
    clear hf
    go_enter Tryd.func8, Tryd.ntmps8
    go_wp2_with fail
    refine HB.out.mono ?_
    rintro e w1 ⟨rfl, k1⟩
    go_wp2
    go_ret
    exact ⟨retS HT.out.symm, k1⟩
set_option maxHeartbeats 3200000 in
theorem bv_wide (a : Option Addr) (c : Nat) (s t f : Int) (zs : List Int) (w : World) (hf : inB f 0 999 = false) :
    Calls Tryd.prog 21 #[.agg #[.int .i64 s, .int .i64 t, .int .i64 f, .slice a zs.length c]] w fun e w' => e = .returned (.bool false) ∧ Keep w w' := by
  have HSA := Lib.hid (fun W => sa_impl s t f zs.length W)
  have e1 : saB s t f zs.length = false := by rw [saB, hf]; simp
  rw [e1] at HSA
  have H0 := World.cell?_alloc_new w #[.int .i64 s, .int .i64 t, .int .i64 f, .slice a zs.length c] 44 0
  have H1 := World.cell?_alloc_new w #[.int .i64 s, .int .i64 t, .int .i64 f, .slice a zs.length c] 44 1
  have H2 := World.cell?_alloc_new w #[.int .i64 s, .int .i64 t, .int .i64 f, .slice a zs.length c] 44 2
  have H3 := World.cell?_alloc_new w #[.int .i64 s, .int .i64 t, .int .i64 f, .slice a zs.length c] 44 3
  clear e1 hf
  go_enter Tryd.func21, Tryd.ntmps21
  go_wp2_with fail
  refine (HSA.out _).mono ?_
  rintro e w1 ⟨rfl, rfl⟩
  go_wp2
  go_ret
  exact ⟨rfl, (Keep.refl w).alloc _⟩
set_option maxHeartbeats 3200000 in
theorem bt_impl' (a : Option Addr) (c : Nat) (s t f : Int) (zs : List Int) (w : World) (T : Tabs w) (h : Ls w a zs) (hm : zs.length ≤ 1048576) :
    Calls Tryd.prog 7 #[.int .i64 s, .int .i64 t, .int .i64 f, .slice a zs.length c] w fun e w' => e = .returned (.string (btT s t f zs)) ∧ Keep w w' := by
  rcases Bool.eq_false_or_eq_true (inB f 0 999) with hf | hf
  · exact bt_impl a c s t f zs w T h hm (by simp [inB] at hf; omega)
  · obtain ⟨w1, hw1⟩ : ∃ w1, w1 = w.alloc (.cells #[.int .i64 s, .int .i64 t, .int .i64 f, .slice a zs.length c] 44) := ⟨_, rfl⟩
    have K1 : Keep w w1 := by rw [hw1]; exact (Keep.refl w).alloc _
    have HB := Lib.hid (bv_wide a c s t f zs w1 hf)
    have HT := Lib.hid (btT_no (btOk_out (s := s) (t := t) (zs := zs) hf))
    have K1w := Lib.hid K1
    clear hf T h K1
    go_enter Tryd.func7, Tryd.ntmps7
    go_wp2_with fail
    rw [← hw1]
    refine HB.out.mono ?_
    rintro e w2 ⟨rfl, k1⟩
    clear hw1
    go_wp2
    go_ret
    exact ⟨retS HT.out.symm, K1w.out.trans k1⟩
end Go.Proofs.YtpdpcnblpcalaaaDoor
