/- slices.SortFunc of keys: the library's contract, laid at this program by hand, and what it says of a row of keys. -/
import Derived.Shelf.SlSortCmp.WholeK
import Derived.Test.YtamdfdbhkmgflaaKa
namespace Go.Proofs.Ytamdfdbhkmgflaa
open Go.Shelf Go.RowKit
set_option linter.unusedVariables false

def ksRen : Go.Shelf.Ren := ⟨fun | 6 => 43 | 15 => 53 | 14 => 52 | 28 => 65 | 29 => 66 | 20 => 57 | 21 => 58 | 22 => 59 | 23 => 60 | 24 => 61 | 25 => 62 | 26 => 63 | 27 => 64 | 46 => 68 | 47 => 69 | 48 => 70 | 49 => 71 | 50 => 72 | 57 => 73 | n => n, fun | 22 => 26 | 24 => 33 | 25 => 76 | 3 => 3 | 39 => 85 | 0 => 0 | 53 => 99 | 55 => 101 | 4 => 4 | 46 => 92 | 45 => 91 | 50 => 96 | 5 => 5 | 9 => 9 | 66 => 103 | 70 => 107 | 76 => 109 | 77 => 110 | n => n, fun | n => n⟩
theorem ksLay : SlLaysF0.n6 Try.prog ksRen := {
  mixed := by kernel_rfl
  f6 := ⟨Try.f43.name, by kernel_rfl, Try.func43.trans (congrArg some (by kernel_rfl))⟩
  f14 := ⟨Try.f52.name, by kernel_rfl, Try.func52.trans (congrArg some (by kernel_rfl))⟩
  f15 := Try.func53.trans (congrArg some (by kernel_rfl))
  f20 := ⟨Try.f57.name, by kernel_rfl, Try.func57.trans (congrArg some (by kernel_rfl))⟩
  f21 := ⟨Try.f58.name, by kernel_rfl, Try.func58.trans (congrArg some (by kernel_rfl))⟩
  f22 := ⟨Try.f59.name, by kernel_rfl, Try.func59.trans (congrArg some (by kernel_rfl))⟩
  f23 := ⟨Try.f60.name, by kernel_rfl, Try.func60.trans (congrArg some (by kernel_rfl))⟩
  f24 := ⟨Try.f61.name, by kernel_rfl, Try.func61.trans (congrArg some (by kernel_rfl))⟩
  f25 := ⟨Try.f62.name, by kernel_rfl, Try.func62.trans (congrArg some (by kernel_rfl))⟩
  f26 := ⟨Try.f63.name, by kernel_rfl, Try.func63.trans (congrArg some (by kernel_rfl))⟩
  f27 := ⟨Try.f64.name, by kernel_rfl, Try.func64.trans (congrArg some (by kernel_rfl))⟩
  f28 := Try.func65.trans (congrArg some (by kernel_rfl))
  f29 := Try.func66.trans (congrArg some (by kernel_rfl))
  f46 := ⟨Try.f68.name, by kernel_rfl, Try.func68.trans (congrArg some (by kernel_rfl))⟩
  f47 := Try.func69.trans (congrArg some (by kernel_rfl))
  f48 := Try.func70.trans (congrArg some (by kernel_rfl))
  f49 := ⟨Try.f71.name, by kernel_rfl, Try.func71.trans (congrArg some (by kernel_rfl))⟩
  f50 := ⟨Try.f72.name, by kernel_rfl, Try.func72.trans (congrArg some (by kernel_rfl))⟩
  f57 := ⟨Try.f73.name, by kernel_rfl, Try.func73.trans (congrArg some (by kernel_rfl))⟩
  t0 := Try.underlying0
  a0 := Try.isAgg0
  z0 := Try.sizeOf0
  v0 := Try.zeroValue0
  t3 := Try.underlying3
  a3 := Try.isAgg3
  z3 := Try.sizeOf3
  v3 := Try.zeroValue3
  t4 := Try.underlying4
  a4 := Try.isAgg4
  z4 := Try.sizeOf4
  v4 := Try.zeroValue4
  t5 := Try.underlying5
  a5 := Try.isAgg5
  z5 := Try.sizeOf5
  v5 := Try.zeroValue5
  t9 := Try.underlying9
  a9 := Try.isAgg9
  z9 := Try.sizeOf9
  v9 := Try.zeroValue9
  t22 := Try.underlying26
  a22 := Try.isAgg26
  z22 := Try.sizeOf26
  v22 := Try.zeroValue26
  t25 := Try.underlying76
  a25 := Try.isAgg76
  z25 := Try.sizeOf76
  v25 := Try.zeroValue76
  t39 := Try.underlying85
  a39 := Try.isAgg85
  z39 := Try.sizeOf85
  v39 := Try.zeroValue85
  t45 := Try.underlying91
  a45 := Try.isAgg91
  z45 := Try.sizeOf91
  v45 := Try.zeroValue91
  t46 := Try.underlying92
  a46 := Try.isAgg92
  z46 := Try.sizeOf92
  v46 := Try.zeroValue92
  t50 := Try.underlying96
  a50 := Try.isAgg96
  z50 := Try.sizeOf96
  v50 := Try.zeroValue96
  t53 := Try.underlying99
  a53 := Try.isAgg99
  z53 := Try.sizeOf99
  v53 := Try.zeroValue99
  t55 := Try.underlying101
  a55 := Try.isAgg101
  z55 := Try.sizeOf101
  v55 := Try.zeroValue101
  t66 := Try.underlying103
  a66 := Try.isAgg103
  z66 := Try.sizeOf103
  v66 := Try.zeroValue103
  t70 := Try.underlying107
  a70 := Try.isAgg107
  z70 := Try.sizeOf107
  v70 := Try.zeroValue107
  t76 := Try.underlying109
  a76 := Try.isAgg109
  z76 := Try.sizeOf109
  v76 := Try.zeroValue109
  t77 := Try.underlying110
  a77 := Try.isAgg110
  z77 := Try.sizeOf110
  v77 := Try.zeroValue110
}
theorem isNaN_any (x : Int) (w : World) : Calls Try.prog 67 #[.int .i64 x] w fun e w' => e = .returned (.bool false) ∧ w = w' := by
  go_enter Try.func67, Try.ntmps67
  go_wp2
  go_ret
  exact ⟨by simp, rfl⟩
/-- The comparison of two numbers. -/
def cI (x y : Int) : Int := if x < y then -1 else if y < x then 1 else 0
theorem cmp_any (x y : Int) (w : World) : Calls Try.prog 55 #[.int .i64 x, .int .i64 y] w fun e w' => e = .returned (.int .i64 (cI x y)) ∧ w = w' := by
  have HI : Hid (∀ z (w : World), Calls Try.prog 67 #[.int .i64 z] w fun e w' => e = .returned (.bool false) ∧ w = w') := Lib.hid isNaN_any
  by_cases h1 : x < y
  · have e : cI x y = -1 := by simp [cI, h1]
    rw [e]
    go_enter Try.func55, Try.ntmps55
    go_wp2_with (go_at_call 67; refine (HI.out _ _).mono ?_; rintro e w' ⟨rfl, rfl⟩)
    go_ret
    exact ⟨rfl, rfl⟩
  · by_cases h2 : y < x
    · have e : cI x y = 1 := by simp [cI, h1, h2]
      rw [e]
      go_enter Try.func55, Try.ntmps55
      go_wp2_with (go_at_call 67; refine (HI.out _ _).mono ?_; rintro e w' ⟨rfl, rfl⟩)
      go_ret
      exact ⟨rfl, rfl⟩
    · have e : cI x y = 0 := by simp [cI, h1, h2]
      rw [e]
      go_enter Try.func55, Try.ntmps55
      go_wp2_with (go_at_call 67; refine (HI.out _ _).mono ?_; rintro e w' ⟨rfl, rfl⟩)
      go_ret
      exact ⟨rfl, rfl⟩
/-- The first of three numbers that is not zero. -/
def orI (x y z : Int) : Int := if x = 0 then (if y = 0 then z else y) else x
theorem or_any (g : Nat) (x y z : Int) (w : World) (c0 : w.cell? ⟨g, 0, none⟩ = some (.int .i64 x)) (c1 : w.cell? ⟨g, 1, none⟩ = some (.int .i64 y)) (c2 : w.cell? ⟨g, 2, none⟩ = some (.int .i64 z)) :
    Calls Try.prog 54 #[.slice (some ⟨g, 0, none⟩) 3 3] w fun e w' => e = .returned (.int .i64 (orI x y z)) ∧ w = w' := by
  go_enter Try.func54, Try.ntmps54
  go_wp2_with fail
  go_loop [8] (fun i => i = .int .i64 0 ∨ (i = .int .i64 1 ∧ Hid (x = 0)) ∨ (i = .int .i64 2 ∧ Hid (x = 0 ∧ y = 0)) ∨ (i = .int .i64 3 ∧ Hid (x = 0 ∧ y = 0 ∧ z = 0))) (fun i => 3 - (intOf i).toNat)
  case atStart => exact .inl rfl
  case round =>
    rcases hrel with rfl | ⟨rfl, H⟩ | ⟨rfl, H⟩ | ⟨rfl, H⟩
    · by_cases hx : x = 0
      · have HX := Lib.hid hx
        rw [hx] at c0
        clear hx
        go_wp2
        go_round
        case rel => exact .inr (.inl ⟨rfl, HX⟩)
        case measure => simp [intOf]
      · have E : Hid (orI x y z = x) := Lib.hid (by simp [orI, hx])
        go_wp2
        go_ret
        exact ⟨by rw [E.out]; rfl, rfl⟩
    · by_cases hx : y = 0
      · have HX := Lib.hid hx
        rw [hx] at c1
        clear hx
        go_wp2
        go_round
        case rel => exact .inr (.inr (.inl ⟨rfl, Lib.hid ⟨H.out, HX.out⟩⟩))
        case measure => simp [intOf]
      · have E : Hid (orI x y z = y) := Lib.hid (by simp [orI, hx, H.out])
        go_wp2
        go_ret
        exact ⟨by rw [E.out]; rfl, rfl⟩
    · by_cases hx : z = 0
      · have HX := Lib.hid hx
        rw [hx] at c2
        clear hx
        go_wp2
        go_round
        case rel => exact .inr (.inr (.inr ⟨rfl, Lib.hid ⟨H.out.1, H.out.2, HX.out⟩⟩))
        case measure => simp [intOf]
      · have E : Hid (orI x y z = z) := Lib.hid (by simp [orI, H.out.1, H.out.2])
        go_wp2
        go_ret
        exact ⟨by rw [E.out]; rfl, rfl⟩
    · have E : Hid (orI x y z = 0) := Lib.hid (by simp [orI, H.out.1, H.out.2.1, H.out.2.2])
      go_wp2
      go_ret
      exact ⟨by rw [E.out]; rfl, rfl⟩
/-- The comparison of two keys: station, kind, day. -/
def ck (a b : K3) : Int := orI (cI (kS a) (kS b)) (cI (kT a) (kT b)) (cI (kD a) (kD b))
theorem ck_lt (a b : K3) : ltOf ck a b = klt a b := by
  rw [Bool.eq_iff_iff, klt_iff]
  unfold ltOf ck orI cI
  rw [decide_eq_true_eq]
  by_cases h1 : kS a < kS b
  · simp [h1]
  · by_cases h2 : kS b < kS a
    · simp [h1, h2]; omega
    · have e1 : kS a = kS b := by omega
      by_cases h3 : kT a < kT b
      · simp [h3, e1]
      · by_cases h4 : kT b < kT a
        · simp [h3, h4, e1]; omega
        · have e2 : kT a = kT b := by omega
          by_cases h5 : kD a < kD b
          · simp [h5, e1, e2]
          · by_cases h6 : kD b < kD a
            · simp [h5, h6, e1, e2]
            · simp [h5, h6, e1, e2]
theorem ck_swo : Go.Sort.SWO (ltOf ck) where
  irrefl x := by rw [ck_lt]; exact klt_irr x
  trans x y z h1 h2 := by rw [ck_lt] at *; exact klt_trans h1 h2
  ntrans x y z h1 h2 := by rw [ck_lt, klt_no] at *; omega
end Go.Proofs.Ytamdfdbhkmgflaa
