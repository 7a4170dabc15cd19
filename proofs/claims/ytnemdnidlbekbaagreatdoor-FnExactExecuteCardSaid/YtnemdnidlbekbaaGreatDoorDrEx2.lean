/- How a script is drawn: it is short. -/
import Derived.Test.YtnemdnidlbekbaaGreatDoorDrEm
import Derived.LoopTactic
namespace Go.Proofs.YtnemdnidlbekbaaGreatDoor
open Go.RowKit
set_option linter.unusedVariables false

set_option maxRecDepth 100000 in
set_option maxHeartbeats 4000000 in
theorem drawExecute (a : Option Addr) (len cap : Nat) (w : World) (ha : CodeArg w a len cap) :
    Calls Tryz.prog 12 #[.slice a len cap] w fun e w' => ∃ t : ByteArray, e = .returned (.string t) ∧ t.size ≤ 100000 ∧ Keep w w' := by
  have hMany := Lib.hid (fun (s : ByteArray) (n : Nat) W (hs : s.size ≤ 100) (hn : n ≤ 100) => many_any s n W hs hn)
  go_enter Tryz.func12, Tryz.ntmps12
  go_wp2_with fail
  refine (open_any a len cap _ ha).mono ?_
  rintro e w1 ⟨rfl, hr, hb, _⟩
  have kb : Keep w w1 := hb
  go_wp2_with fail
  refine (pick_any _ 0 16 _ (by omega) (by omega) hr).mono ?_
  rintro e w2 ⟨z, rfl, z0, z1, hr2, ho2, _⟩
  obtain ⟨n, rfl⟩ := Int.eq_ofNat_of_zero_le z0
  have k2 : Keep w w2 := ho2.keep kb (Nat.le_refl _)
  have HR2 := Lib.hid hr2
  clear hr hb kb ho2 ha hr2
  go_wp2_with fail
  go_loopw [4, 6] (fun o i wr => ∃ (k : Nat) (t : ByteArray) (q : Nat), k ≤ n ∧ i = .int .i64 k ∧ o = .string t ∧ t.size ≤ 61 * k ∧ q ≤ 1 + 21 * k ∧ Hid (Rd wr w.heap.size q) ∧ Keep w wr) (fun _ i _ => n - (intOf i).toNat)
  case atStart => exact ⟨0, ⟨#[]⟩, 1, by omega, rfl, rfl, by decide, by omega, HR2, k2⟩
  case round =>
    obtain ⟨k, t, q, hk, rfl, rfl, hts, hq, HR, hK⟩ := hrel
    clear HR2 k2
    by_cases hlt : k < n
    · have p1 : (k : Int) < (n : Int) := by omega
      have HD := Lib.hid (drawLineZ w.heap.size q wr (by omega) HR.out)
      go_wp2_with fail
      refine HD.out.mono ?_
      rintro e w3 ⟨u, q2, rfl, hus, hq2, hr3, ho3⟩
      have k3 : Keep w w3 := ho3.keep hK (Nat.le_refl _)
      have HR3 := Lib.hid hr3
      have t1 : ¬ 9223372036854775807 < t.size + u.size := by omega
      have t2 : ¬ 9223372036854775807 < t.size + u.size + 1 := by omega
      clear hr3 ho3
      go_wp2
      go_roundw
      case rel => exact ⟨k + 1, _, q2, by omega, by go_num, rfl, by rw [ByteArray.size_append, ByteArray.size_append]; show t.size + u.size + 1 ≤ _; omega, by omega, HR3, k3⟩
      case measure => simp [intOf]; omega
    · obtain rfl : k = n := by omega
      have hPk := Lib.hid (fun W m (hm : (1 : Int) ≤ m) q' (hq' : q' ≤ 900000) (hR : Rd W w.heap.size q') => pick_any w.heap.size q' m W hm (by omega) hR)
      have hLast : Hid (∀ (t : ByteArray) (q' : Nat) (W : World), q' ≤ 1000 → t.size ≤ 20000 → Rd W w.heap.size q' → Keep w W → Calls Tryz.prog 19 #[.pointer (some ⟨w.heap.size, 0, none⟩)] W (LdPost w.heap.size q' W)) := Lib.hid (fun t q' W h1 _ h3 _ => drawLineZ w.heap.size q' W (by omega) h3)
      go_wp2_with fail
      refine (hPk.out _ 24 (by omega) q (by omega) HR.out).mono ?_
      rintro e w3 ⟨y, rfl, y0, y1, hr3, ho3, _⟩
      have k3 : Keep w w3 := ho3.keep hK (Nat.le_refl _)
      by_cases hy0 : y = 0
      · subst hy0
        go_wp2_with fail
        refine (hPk.out _ 4 (by omega) (q + 1) (by omega) hr3).mono ?_
        rintro e w4 ⟨x, rfl, x0, x1, hr4, ho4, _⟩
        have k4 : Keep w w4 := ho4.keep k3 (Nat.le_refl _)
        obtain ⟨xn, rfl⟩ := Int.eq_ofNat_of_zero_le x0
        obtain ⟨j, hj⟩ : ∃ j : Nat, 64 + (xn : Int) = (j : Int) := ⟨64 + xn, by omega⟩
        have hj2 : j ≤ 100 := by omega
        have hw : IntKind.i64.wrap (64 + (xn : Int)) = (j : Int) := by rw [hj]; exact IntWalk.i64_in _ (by omega)
        replace hj := Lib.hid hj
        go_wp2_with fail
        refine (hMany.out _ j w4 (by decide) hj2).mono ?_
        rintro e w5 ⟨⟨u, rfl, hus⟩, rfl⟩
        have t1 : ¬ 9223372036854775807 < t.size + u.size := by omega
        have t2 : (t ++ u).size ≤ 20000 := by rw [ByteArray.size_append]; omega
        generalize hT : t ++ u = T at *
        go_wp2_with fail
        refine (hPk.out _ 8 (by omega) (q + 2) (by omega) hr4).mono ?_
        rintro e w6 ⟨v, rfl, v0, v1, hr6, ho6, _⟩
        have k6 : Keep w w6 := ho6.keep k4 (Nat.le_refl _)
        by_cases hv : v = 0
        · subst hv
          go_wp2_with fail
          refine (hLast.out T (q + 3) w6 (by omega) t2 hr6 k6).mono ?_
          rintro e w7 ⟨l, q7, rfl, hls, _, _, ho7⟩
          have k7 : Keep w w7 := ho7.keep k6 (Nat.le_refl _)
          have t3 : ¬ 9223372036854775807 < T.size + l.size := by omega
          go_wp2
          go_ret
          exact ⟨_, rfl, by rw [ByteArray.size_append]; omega, k7⟩
        · have hv0 : (v == 0) = false := by simpa using hv
          go_wp2
          go_ret
          exact ⟨_, rfl, by omega, k6⟩
      · have hy0' : (y == 0) = false := by simpa using hy0
        by_cases hy1 : y = 1
        · subst hy1
          go_wp2_with fail
          refine (hMany.out _ 42 w3 (by decide) (by omega)).mono ?_
          rintro e w5 ⟨⟨u, rfl, hus⟩, rfl⟩
          have t1 : ¬ 9223372036854775807 < u.size + 8 := by omega
          go_wp2_with fail
          refine (hPk.out _ 8 (by omega) (q + 1) (by omega) hr3).mono ?_
          rintro e w6 ⟨v, rfl, v0, v1, hr6, ho6, _⟩
          have k6 : Keep w w6 := ho6.keep k3 (Nat.le_refl _)
          by_cases hv : v = 0
          · subst hv
            go_wp2_with fail
            refine (hLast.out u (q + 2) w6 (by omega) (by omega) hr6 k6).mono ?_
            rintro e w7 ⟨l, q7, rfl, hls, _, _, ho7⟩
            have k7 : Keep w w7 := ho7.keep k6 (Nat.le_refl _)
            have t3 : ¬ 9223372036854775807 < u.size + 8 + l.size := by omega
            go_wp2
            go_ret
            exact ⟨_, rfl, by rw [ByteArray.size_append, ByteArray.size_append]; show u.size + 8 + l.size ≤ _; omega, k7⟩
          · have hv0 : (v == 0) = false := by simpa using hv
            go_wp2
            go_ret
            exact ⟨_, rfl, by rw [ByteArray.size_append]; show u.size + 8 ≤ _; omega, k6⟩
        · have hy1' : (y == 1) = false := by simpa using hy1
          go_wp2_with fail
          refine (hPk.out _ 8 (by omega) (q + 1) (by omega) hr3).mono ?_
          rintro e w6 ⟨v, rfl, v0, v1, hr6, ho6, _⟩
          have k6 : Keep w w6 := ho6.keep k3 (Nat.le_refl _)
          by_cases hv : v = 0
          · subst hv
            go_wp2_with fail
            refine (hLast.out t (q + 2) w6 (by omega) (by omega) hr6 k6).mono ?_
            rintro e w7 ⟨l, q7, rfl, hls, _, _, ho7⟩
            have k7 : Keep w w7 := ho7.keep k6 (Nat.le_refl _)
            have t3 : ¬ 9223372036854775807 < t.size + l.size := by omega
            go_wp2
            go_ret
            exact ⟨_, rfl, by rw [ByteArray.size_append]; omega, k7⟩
          · have hv0 : (v == 0) = false := by simpa using hv
            go_wp2
            go_ret
            exact ⟨_, rfl, by omega, k6⟩
end Go.Proofs.YtnemdnidlbekbaaGreatDoor
