/- The lengths of the months, the first days of the years, and which dates there are: the program's functions and the model's. -/
import Derived.Test.YtohoeonfoolpdaaDoorCd
import Derived.Deep.QuietTactic
import Derived.BigQuiet
import Derived.Deep.RegionHeld3
import Derived.Deep.DeepCutAuto
import Derived.Laws.Rows
namespace Go.Proofs.YtohoeonfoolpdaaDoor
open Go.RowKit
set_option linter.unusedVariables false

theorem mlen_feb_long {y c : Int} (hl : lng y c = true) : mlen y 2 c = 29 := by simp [mlen, cum, lpd, hl]
theorem mlen_feb_short {y c : Int} (hl : lng y c = false) : mlen y 2 c = 28 := by simp [mlen, cum, lpd, hl]
theorem mlen_other {y m c : Int} (h1 : 1 ≤ m) (h2 : m ≤ 12) (hm : m ≠ 2) : mlen y m c = monthTab.getD (m - 1).toNat 0 := by
  rw [mlen_tab y m c h1 h2, if_neg hm]; simp [monthTab]
theorem monthTab_bd (i : Nat) : 0 ≤ monthTab.getD i 0 ∧ monthTab.getD i 0 ≤ 31 := by
  by_cases h : i < 12
  · have : i = 0 ∨ i = 1 ∨ i = 2 ∨ i = 3 ∨ i = 4 ∨ i = 5 ∨ i = 6 ∨ i = 7 ∨ i = 8 ∨ i = 9 ∨ i = 10 ∨ i = 11 := by omega
    rcases this with rfl | rfl | rfl | rfl | rfl | rfl | rfl | rfl | rfl | rfl | rfl | rfl <;> simp [monthTab]
  · have hl : monthTab.length ≤ i := by simp [monthTab]; omega
    rw [List.getD_eq_getElem?_getD, List.getElem?_eq_none hl]; simp

set_option maxHeartbeats 400000 in
theorem mon_impl (y m c : Int) (w : World) (T : Tabs w) (hc : cOne c = true) (hy : yOk y = true) (h1 : 1 ≤ m) (h2 : m ≤ 12) :
    Calls Tryd.prog 31 #[.int .i64 y, .int .i64 m, .int .i64 c] w fun e w' => e = .returned (.int .i64 (mlen y m c)) ∧ w = w' := by
  have E0 := Lib.hid (yl_in hc hy)
  by_cases hm : m = 2
  · subst hm
    clear h1 h2
    have c1 : w.cell? ⟨0, 1, none⟩ = some (.int .i64 28) := T 1 (by decide)
    have HT := Lib.hid T
    have HC := Lib.hid hc
    have HY := Lib.hid hy
    clear T hc hy
    rcases Bool.eq_false_or_eq_true (yl y c) with hl | hl
    · have E := Lib.hid (mlen_feb_long (E0.out.symm.trans hl))
      go_enter Tryd.func31, Tryd.ntmps31
      go_wp2_with (go_at_call 46; refine (ylong_impl _ _ _).mono ?_; rintro e w' ⟨rfl, rfl⟩)
      go_ret
      exact ⟨retI E.out.symm, rfl⟩
    · have E := Lib.hid (mlen_feb_short (E0.out.symm.trans hl))
      go_enter Tryd.func31, Tryd.ntmps31
      go_wp2_with (go_at_call 46; refine (ylong_impl _ _ _).mono ?_; rintro e w' ⟨rfl, rfl⟩)
      go_ret
      exact ⟨retI E.out.symm, rfl⟩
  · have hm' : (m == 2) = false := by simpa using hm
    have E : Hid (mlen y m c = monthTab.getD (m.toNat - 1) 0) := Lib.hid (by rw [mlen_other h1 h2 hm]; congr 1; omega)
    have ct := T (m.toNat - 1) (by omega)
    have hlt : m.toNat - 1 < 12 := by omega
    have HT := Lib.hid T
    have HC := Lib.hid hc
    have HY := Lib.hid hy
    clear T hc hy hm
    go_enter Tryd.func31, Tryd.ntmps31
    go_wp2
    go_ret
    exact ⟨retI E.out.symm, rfl⟩
def month13 : List Int := [0, 31, 28, 31, 30, 31, 30, 31, 31, 30, 31, 30, 31]
theorem month13_at (i : Nat) (hi : i < 13) : (month13.map (Value.int .i64)).toArray[i]? = some (.int .i64 (month13.getD i 0)) := by
  have hl : i < month13.length := by simpa [month13] using hi
  simp [hl]
theorem month13_get (i : Nat) (hi : i < 13) : (month13.map (Value.int .i64))[i]'(by simpa [month13] using hi) = .int .i64 (month13.getD i 0) := by
  have hl : i < month13.length := by simpa [month13] using hi
  simp [hl]
theorem mlen_other13 {y m c : Int} (h1 : 1 ≤ m) (h2 : m ≤ 12) (hm : m ≠ 2) : mlen y m c = month13.getD m.toNat 0 := by
  have h : m = 1 ∨ m = 2 ∨ m = 3 ∨ m = 4 ∨ m = 5 ∨ m = 6 ∨ m = 7 ∨ m = 8 ∨ m = 9 ∨ m = 10 ∨ m = 11 ∨ m = 12 := by omega
  rw [mlen_tab y m c h1 h2, if_neg hm]
  rcases h with rfl | rfl | rfl | rfl | rfl | rfl | rfl | rfl | rfl | rfl | rfl | rfl <;> simp [month13]
set_option maxHeartbeats 400000 in
theorem mon_spec (y m c : Int) (w : World) (hc : cOne c = true) (hy1 : 1 ≤ y) (hy2 : y ≤ 2201) (h1 : 1 ≤ m) (h2 : m ≤ 12) :
    Calls Tryd.prog 58 #[.int .i64 y, .int .i64 m, .int .i64 c] w fun e w' => e = .returned (.int .i64 (mlen y m c)) ∧ Keep w w' := by
  have ct : (w.alloc (.cells (month13.map (Value.int .i64)).toArray 3)).cell? ⟨w.heap.size, m.toNat, none⟩ = some (.int .i64 (month13.getD m.toNat 0)) :=
    (World.cell?_alloc_new w _ _ _).trans (month13_at _ (by omega))
  have hlt : m.toNat < 13 := by omega
  by_cases hm : m = 2
  · subst hm
    have ct' : (w.alloc (.cells (month13.map (Value.int .i64)).toArray 3)).cell? ⟨w.heap.size, 2, none⟩ = some (.int .i64 28) := ct
    clear h1 h2 ct hlt
    rcases Bool.eq_false_or_eq_true (lng y c) with hl | hl
    · have E := Lib.hid (mlen_feb_long hl)
      go_enter Tryd.func58, Tryd.ntmps58
      go_wp2_with (go_at_call 60; refine (sl_any _ _ _ hy1 hy2).mono ?_; rintro e w' ⟨rfl, rfl⟩)
      go_ret
      exact ⟨retI E.out.symm, Keep.refl _⟩
    · have E := Lib.hid (mlen_feb_short hl)
      go_enter Tryd.func58, Tryd.ntmps58
      go_wp2_with (go_at_call 60; refine (sl_any _ _ _ hy1 hy2).mono ?_; rintro e w' ⟨rfl, rfl⟩)
      go_ret
      exact ⟨retI E.out.symm, (Keep.refl _).alloc _⟩
  · have hm' : (m == 2) = false := by simpa using hm
    have E := Lib.hid (mlen_other13 (y := y) (c := c) h1 h2 hm)
    clear hm
    go_enter Tryd.func58, Tryd.ntmps58
    go_wp2
    go_ret
    exact ⟨(congrArg Ending.returned (month13_get m.toNat hlt)).trans (retI E.out.symm), (Keep.refl _).alloc _⟩
set_option maxHeartbeats 400000 in
theorem ys_impl (y c : Int) (w : World) (hc : cOne c = true) (h1 : 1 ≤ y) (h2 : y ≤ 2201) :
    Calls Tryd.prog 39 #[.int .i64 y, .int .i64 c] w fun e w' => e = .returned (.int .i64 (ys y c)) ∧ w = w' := by
  rcases cOne_cases hc with rfl | rfl
  all_goals
    clear hc
    have b1 : 0 ≤ y - 1 := by omega
    go_enter Tryd.func39, Tryd.ntmps39
    go_wp2
    go_ret
    exact ⟨retI (by simp [ys] <;> omega), rfl⟩
set_option maxHeartbeats 400000 in
theorem ys_spec (y c : Int) (w : World) (hc : cOne c = true) (h1 : 1 ≤ y) (h2 : y ≤ 2201) :
    Calls Tryd.prog 51 #[.int .i64 y, .int .i64 c] w fun e w' => e = .returned (.int .i64 (ys y c)) ∧ w = w' := by
  rcases cOne_cases hc with rfl | rfl
  all_goals
    clear hc
    have b1 : 0 ≤ y - 1 := by omega
    go_enter Tryd.func51, Tryd.ntmps51
    go_wp2
    go_ret
    exact ⟨retI (by simp [ys] <;> omega), rfl⟩

theorem dv_nc {y m d c : Int} (h : cOne c = false) : dv y m d c = false := by simp [dv, h]
theorem dv_ny {y m d c : Int} (h : yOk y = false) : dv y m d c = false := by simp [dv, h]
theorem dv_nm {y m d c : Int} (h : inB m 1 12 = false) : dv y m d c = false := by simp [dv, h]
theorem dv_in {y m d c : Int} (h1 : cOne c = true) (h2 : yOk y = true) (h3 : inB m 1 12 = true) : dv y m d c = inB d 1 (mlen y m c) := by simp [dv, h1, h2, h3]

theorem Calls.lit {P : Program} {f : FuncId} {args : Array Value} {w : World} {a b : Bool} (h : a = b) (c : Calls P f args w fun e w' => e = .returned (.bool a) ∧ w = w') :
    Calls P f args w fun e w' => e = .returned (.bool b) ∧ w = w' := by subst h; exact c
theorem quietS {P : Program} {f : FuncId} {args : Array Value} {w : World} {n : Nat} {v : Value}
    (h : Calls P f args (w.drewN n) fun e w' => e = .returned v ∧ w.drewN n = w') : Calls P f args (w.drewN n) fun e w'' => e = .returned v ∧ ∃ m, w'' = w.drewN m :=
  h.mono fun _ _ ⟨he, hm⟩ => ⟨he, n, hm.symm⟩

end Go.Proofs.YtohoeonfoolpdaaDoor
