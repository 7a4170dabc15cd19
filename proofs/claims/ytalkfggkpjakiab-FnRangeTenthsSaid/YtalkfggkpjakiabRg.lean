/- Ranges: each function of the program and its model answer what the plain functions here say. -/
import Derived.Test.YtalkfggkpjakiabRv
import Derived.Test.YtalkfggkpjakiabKeep
import Derived.Lib.Hide
namespace Go.Proofs.Ytalkfggkpjakiab
open Go.RowKit
set_option linter.unusedVariables false

def rgOk (lo hi : Int) : Bool := inB lo (-99999) 99999 && inB hi lo 99999

set_option maxHeartbeats 400000 in
theorem rgMeth (lo hi : Int) (w : World) :
    Calls Try.prog 40 #[.agg #[.int .i64 lo, .int .i64 hi]] w fun e w' => e = .returned (.bool (rgOk lo hi)) ∧ Keep w w' := by
  go_enter Try.func40, Try.ntmps40
  go_wp2
  all_goals
    go_ret
    refine ⟨retB ?_, (Keep.refl _).alloc _⟩
    rw [Bool.eq_iff_iff]
    simp [rgOk, inB, *]
    try omega
set_option maxHeartbeats 400000 in
theorem rg_impl (lo hi : Int) (w : World) :
    Calls Try.prog 20 #[.agg #[.int .i64 lo, .int .i64 hi]] w fun e w' => e = .returned (.bool (rgOk lo hi)) ∧ Keep w w' := by
  go_enter Try.func20, Try.ntmps20
  go_wp2_with fail
  refine (rgMeth lo hi _).mono ?_
  rintro e w1 ⟨rfl, hb⟩
  go_wp2
  go_ret
  exact ⟨rfl, ((Keep.refl _).alloc _).trans hb⟩
set_option maxHeartbeats 400000 in
theorem rg_spec (lo hi : Int) (w : World) :
    Calls Try.prog 21 #[.agg #[.int .i64 lo, .int .i64 hi]] w fun e w' => e = .returned (.bool (rgOk lo hi)) ∧ Keep w w' := by
  go_enter Try.func21, Try.ntmps21
  go_wp2_with (go_at_call 47; refine (l6In_any _ _ _ _).mono ?_; rintro e w' ⟨rfl, rfl⟩)
  all_goals
    go_ret
    refine ⟨retB ?_, (Keep.refl _).alloc _⟩
    simp [rgOk, *]

def cOk (t : Int) : Bool := inB t (-2000) 2000
def cLo (t : Int) : Int := if cOk t then 18 * t - 9 else 0
def cHi (t : Int) : Int := if cOk t then 18 * t + 9 else 0
def fLo (t : Int) : Int := if cOk t then 10 * (t - 320) - 5 else 0
def fHi (t : Int) : Int := if cOk t then 10 * (t - 320) + 5 else 0

theorem cOk_yes {t : Int} (h : -2000 ≤ t ∧ t ≤ 2000) : cOk t = true := by simp [cOk, inB]; omega
theorem cOk_no {t : Int} (h : t < -2000 ∨ 2000 < t) : cOk t = false := by simp [cOk, inB]; omega
theorem cOk_cases (t : Int) : (cOk t = true ∧ -2000 ≤ t ∧ t ≤ 2000) ∨ (cOk t = false ∧ (t < -2000 ∨ 2000 < t)) := by
  by_cases h : -2000 ≤ t ∧ t ≤ 2000
  · exact .inl ⟨cOk_yes h, h.1, h.2⟩
  · exact .inr ⟨cOk_no (by omega), by omega⟩

theorem retRg {a b a' b' : Int} {x x' : Bool} (h1 : a = a') (h2 : b = b') (h3 : x = x') :
    Ending.returned (.tuple #[.agg #[.int .i64 a, .int .i64 b], .bool x]) = .returned (.tuple #[.agg #[.int .i64 a', .int .i64 b'], .bool x']) := by
  rw [h1, h2, h3]

set_option maxHeartbeats 400000 in
theorem tenthsNo (t z p : Int) (w : World) (h : t < -2000 ∨ 2000 < t) :
    Calls Try.prog 44 #[.int .i64 t, .int .i64 z, .int .i64 p] w fun e w' => e = .returned (.tuple #[.agg #[.int .i64 0, .int .i64 0], .bool false]) ∧ Keep w w' := by
  rcases h with h | h
  · go_enter Try.func44, Try.ntmps44
    go_wp2
    exact bodyPost_ret (v := .tuple #[.agg #[.int .i64 0, .int .i64 0], .bool false]) (by simp [results, Try.results44, go_sem]) rfl ⟨rfl, (Keep.refl _).alloc _⟩
  · have h' : ¬ t < -2000 := by omega
    go_enter Try.func44, Try.ntmps44
    go_wp2
    exact bodyPost_ret (v := .tuple #[.agg #[.int .i64 0, .int .i64 0], .bool false]) (by simp [results, Try.results44, go_sem]) rfl ⟨rfl, (Keep.refl _).alloc _⟩

set_option maxHeartbeats 400000 in
theorem tenthsC (t : Int) (w : World) (h1 : -2000 ≤ t) (h2 : t ≤ 2000) :
    Calls Try.prog 44 #[.int .i64 t, .int .i64 0, .int .i64 18] w fun e w' => e = .returned (.tuple #[.agg #[.int .i64 (cLo t), .int .i64 (cHi t)], .bool (cOk t)]) ∧ Keep w w' := by
  go_enter Try.func44, Try.ntmps44
  go_wp2
  refine bodyPost_ret (v := .tuple #[.agg #[.int .i64 (t * 18 - 9), .int .i64 (t * 18 + 9)], .bool true]) (by simp [results, Try.results44, go_sem]) rfl ⟨?_, (Keep.refl _).alloc _⟩
  have h := cOk_yes ⟨h1, h2⟩
  exact retRg (by simp [cLo, h]; omega) (by simp [cHi, h]; omega) h.symm

set_option maxHeartbeats 400000 in
theorem tenthsF (t : Int) (w : World) (h1 : -2000 ≤ t) (h2 : t ≤ 2000) :
    Calls Try.prog 44 #[.int .i64 t, .int .i64 320, .int .i64 10] w fun e w' => e = .returned (.tuple #[.agg #[.int .i64 (fLo t), .int .i64 (fHi t)], .bool (cOk t)]) ∧ Keep w w' := by
  go_enter Try.func44, Try.ntmps44
  go_wp2
  refine bodyPost_ret (v := .tuple #[.agg #[.int .i64 ((t - 320) * 10 - 5), .int .i64 ((t - 320) * 10 + 5)], .bool true]) (by simp [results, Try.results44, go_sem]) rfl ⟨?_, (Keep.refl _).alloc _⟩
  have h := cOk_yes ⟨h1, h2⟩
  exact retRg (by simp [fLo, h]; omega) (by simp [fHi, h]; omega) h.symm
theorem retRg0 {t : Int} (h : cOk t = false) {a b : Int} (ha : a = 0) (hb : b = 0) :
    Ending.returned (.tuple #[.agg #[.int .i64 0, .int .i64 0], .bool false]) = .returned (.tuple #[.agg #[.int .i64 a, .int .i64 b], .bool (cOk t)]) := by
  rw [h, ha, hb]

set_option maxHeartbeats 400000 in
theorem oc_impl (t : Int) (w : World) :
    Calls Try.prog 17 #[.int .i64 t] w fun e w' => e = .returned (.tuple #[.agg #[.int .i64 (cLo t), .int .i64 (cHi t)], .bool (cOk t)]) ∧ Keep w w' := by
  rcases cOk_cases t with ⟨hk, h1, h2⟩ | ⟨hk, h⟩
  · clear hk
    go_enter Try.func17, Try.ntmps17
    go_wp2_with fail
    refine (tenthsC t _ h1 h2).mono ?_
    rintro e w1 ⟨rfl, hb⟩
    have c0 := hb.new 0 rfl
    have c1 := hb.new 1 rfl
    have f0 := hb.fresh 0
    have f1 := hb.fresh 1
    go_wp2
    refine bodyPost_ret (v := .tuple #[.agg #[.int .i64 (cLo t), .int .i64 (cHi t)], .bool (cOk t)]) (by simp [results, Try.results17, go_sem, *]) rfl ⟨rfl, ?_⟩
    exact ((((Keep.refl w).alloc _).trans hb).setCell (Nat.le_refl _) _).setCell (Nat.le_refl _) _
  · have HK := Lib.hid hk
    clear hk
    go_enter Try.func17, Try.ntmps17
    go_wp2_with fail
    refine (tenthsNo t 0 18 _ h).mono ?_
    rintro e w1 ⟨rfl, hb⟩
    have c0 := hb.new 0 rfl
    have c1 := hb.new 1 rfl
    have f0 := hb.fresh 0
    have f1 := hb.fresh 1
    go_wp2
    refine bodyPost_ret (v := .tuple #[.agg #[.int .i64 0, .int .i64 0], .bool false]) (by simp [results, Try.results17, go_sem, *]) rfl ⟨?_, ?_⟩
    · exact retRg0 HK.out (by simp [cLo, HK.out]) (by simp [cHi, HK.out])
    · exact ((((Keep.refl w).alloc _).trans hb).setCell (Nat.le_refl _) _).setCell (Nat.le_refl _) _
set_option maxHeartbeats 400000 in
theorem oc_spec (t : Int) (w : World) :
    Calls Try.prog 31 #[.int .i64 t] w fun e w' => e = .returned (.tuple #[.agg #[.int .i64 (cLo t), .int .i64 (cHi t)], .bool (cOk t)]) ∧ Keep w w' := by
  rcases cOk_cases t with ⟨hk, h1, h2⟩ | ⟨hk, h⟩
  · have hi : inB t (-2000) 2000 = true := hk
    have HK := Lib.hid hk
    clear hk
    go_enter Try.func31, Try.ntmps31
    go_wp2_with (go_at_call 47; refine (l6In_any _ _ _ _).mono ?_; rintro e w' ⟨rfl, rfl⟩)
    refine bodyPost_ret (v := .tuple #[.agg #[.int .i64 (18 * t - 9), .int .i64 (18 * t + 9)], .bool true]) (by simp [results, Try.results31, go_sem, *]) rfl ⟨?_, (Keep.refl _).alloc _⟩
    exact retRg (by simp [cLo, HK.out]) (by simp [cHi, HK.out]) HK.out.symm
  · have hi : inB t (-2000) 2000 = false := hk
    have HK := Lib.hid hk
    clear hk
    go_enter Try.func31, Try.ntmps31
    go_wp2_with (go_at_call 47; refine (l6In_any _ _ _ _).mono ?_; rintro e w' ⟨rfl, rfl⟩)
    refine bodyPost_ret (v := .tuple #[.agg #[.int .i64 0, .int .i64 0], .bool false]) (by simp [results, Try.results31, go_sem, *]) rfl ⟨?_, (Keep.refl _).alloc _⟩
    exact retRg0 HK.out (by simp [cLo, HK.out]) (by simp [cHi, HK.out])

set_option maxHeartbeats 400000 in
theorem of_impl (t : Int) (w : World) :
    Calls Try.prog 34 #[.int .i64 t] w fun e w' => e = .returned (.tuple #[.agg #[.int .i64 (fLo t), .int .i64 (fHi t)], .bool (cOk t)]) ∧ Keep w w' := by
  rcases cOk_cases t with ⟨hk, h1, h2⟩ | ⟨hk, h⟩
  · clear hk
    go_enter Try.func34, Try.ntmps34
    go_wp2_with fail
    refine (tenthsF t _ h1 h2).mono ?_
    rintro e w1 ⟨rfl, hb⟩
    have c0 := hb.new 0 rfl
    have c1 := hb.new 1 rfl
    have f0 := hb.fresh 0
    have f1 := hb.fresh 1
    go_wp2
    refine bodyPost_ret (v := .tuple #[.agg #[.int .i64 (fLo t), .int .i64 (fHi t)], .bool (cOk t)]) (by simp [results, Try.results34, go_sem, *]) rfl ⟨rfl, ?_⟩
    exact ((((Keep.refl w).alloc _).trans hb).setCell (Nat.le_refl _) _).setCell (Nat.le_refl _) _
  · have HK := Lib.hid hk
    clear hk
    go_enter Try.func34, Try.ntmps34
    go_wp2_with fail
    refine (tenthsNo t 320 10 _ h).mono ?_
    rintro e w1 ⟨rfl, hb⟩
    have c0 := hb.new 0 rfl
    have c1 := hb.new 1 rfl
    have f0 := hb.fresh 0
    have f1 := hb.fresh 1
    go_wp2
    refine bodyPost_ret (v := .tuple #[.agg #[.int .i64 0, .int .i64 0], .bool false]) (by simp [results, Try.results34, go_sem, *]) rfl ⟨?_, ?_⟩
    · exact retRg0 HK.out (by simp [fLo, HK.out]) (by simp [fHi, HK.out])
    · exact ((((Keep.refl w).alloc _).trans hb).setCell (Nat.le_refl _) _).setCell (Nat.le_refl _) _
set_option maxHeartbeats 400000 in
theorem of_spec (t : Int) (w : World) :
    Calls Try.prog 33 #[.int .i64 t] w fun e w' => e = .returned (.tuple #[.agg #[.int .i64 (fLo t), .int .i64 (fHi t)], .bool (cOk t)]) ∧ Keep w w' := by
  rcases cOk_cases t with ⟨hk, h1, h2⟩ | ⟨hk, h⟩
  · have hi : inB t (-2000) 2000 = true := hk
    have HK := Lib.hid hk
    clear hk
    go_enter Try.func33, Try.ntmps33
    go_wp2_with (go_at_call 47; refine (l6In_any _ _ _ _).mono ?_; rintro e w' ⟨rfl, rfl⟩)
    refine bodyPost_ret (v := .tuple #[.agg #[.int .i64 (10 * (t - 320) - 5), .int .i64 (10 * (t - 320) + 5)], .bool true]) (by simp [results, Try.results33, go_sem, *]) rfl ⟨?_, (Keep.refl _).alloc _⟩
    exact retRg (by simp [fLo, HK.out]) (by simp [fHi, HK.out]) HK.out.symm
  · have hi : inB t (-2000) 2000 = false := hk
    have HK := Lib.hid hk
    clear hk
    go_enter Try.func33, Try.ntmps33
    go_wp2_with (go_at_call 47; refine (l6In_any _ _ _ _).mono ?_; rintro e w' ⟨rfl, rfl⟩)
    refine bodyPost_ret (v := .tuple #[.agg #[.int .i64 0, .int .i64 0], .bool false]) (by simp [results, Try.results33, go_sem, *]) rfl ⟨?_, (Keep.refl _).alloc _⟩
    exact retRg0 HK.out (by simp [fLo, HK.out]) (by simp [fHi, HK.out])
end Go.Proofs.Ytalkfggkpjakiab
