/- The year of a day: the program's binary search. -/
import Derived.Test.YtohoeonfoolpdaaDoorIp
import Derived.Sort.Walk0
import Derived.Deep.LoopGhost
namespace Go.Proofs.YtohoeonfoolpdaaDoor
open Go.RowKit
set_option linter.unusedVariables false

set_option maxHeartbeats 1000000 in
theorem closure_any (n c i : Int) (Bn Bc : Nat) (w : World) (hc : cOne c = true) (h1 : 0 ≤ i) (h2 : i < 2200) (x1 : w.cell? ⟨Bn, 0, none⟩ = some (.int .i64 n)) (x2 : w.cell? ⟨Bc, 0, none⟩ = some (.int .i64 c)) :
    Calls Tryd.prog 56 #[.int .i64 i, .pointer (some ⟨Bn, 0, none⟩), .pointer (some ⟨Bc, 0, none⟩)] w fun e w' => e = .returned (.bool (decide (n < ys (i + 2) c))) ∧ ∃ m, w' = w.drewN m := by
  have hy1 : 1 ≤ i + 2 := by omega
  have hy2 : i + 2 ≤ 2201 := by omega
  have HC := Lib.hid hc
  clear hc
  go_enter Tryd.func56, Tryd.ntmps56
  go_wp2_with fail
  go_quiet ((go_at_call 39; exact quietS (ys_impl (i + 2) c _ HC.out hy1 hy2)))
  go_wp2
  go_ret
  exact ⟨rfl, _, rfl⟩
set_option maxHeartbeats 1000000 in
theorem search_any (n c : Int) (Bn Bc : Nat) (w : World) (h : dayOk n c = true) (x1 : w.cell? ⟨Bn, 0, none⟩ = some (.int .i64 n)) (x2 : w.cell? ⟨Bc, 0, none⟩ = some (.int .i64 c)) :
    Calls Tryd.prog 55 #[.int .i64 2200, .func (.func 56) #[] #[.pointer (some ⟨Bn, 0, none⟩), .pointer (some ⟨Bc, 0, none⟩)]] w fun e w' => ∃ k : Int, e = .returned (.int .i64 k) ∧ (0 ≤ k ∧ k < 2200 ∧ ys (k + 1) c ≤ n ∧ n < ys (k + 2) c) ∧ ∃ m, w' = w.drewN m := by
  obtain ⟨hc, n1, n2⟩ := dayOk_facts h
  have HC := Lib.hid hc
  have N1 := Lib.hid n1
  have N2 := Lib.hid n2
  clear h hc n1 n2
  go_enter Tryd.func55, Tryd.ntmps55
  go_wp2_with fail
  go_loopw [5, 6] (fun s5 s6 wr => ∃ lo hi : Int, s5 = .int .i64 lo ∧ s6 = .int .i64 hi ∧ 0 ≤ lo ∧ lo ≤ hi ∧ hi ≤ 2200 ∧ Hid (ys (lo + 1) c ≤ n ∧ n < ys (hi + 2) c) ∧ ∃ q, wr = w.drewN q) (fun s5 s6 _ => (intOf s6 - intOf s5).toNat)
  case atStart => exact ⟨0, 2200, rfl, rfl, by omega, by omega, by omega, Lib.hid ⟨N1.out, by have := N2.out; have := ys_mono 2201 2202 c (by omega) (by omega); show n < ys 2202 c; omega⟩, 0, rfl⟩
  case round =>
    obtain ⟨lo, hi, rfl, rfl, h0, h1, h2, I, q, rfl⟩ := hrel
    by_cases hlt : lo < hi
    · have g1 : 0 ≤ (lo + hi) / 2 := by omega
      have g2 : (lo + hi) / 2 < 2200 := by omega
      have g3 : lo ≤ (lo + hi) / 2 := by omega
      have g4 : (lo + hi) / 2 < hi := by omega
      by_cases hp : n < ys ((lo + hi) / 2 + 2) c
      · have I2 := Lib.hid (show ys (lo + 1) c ≤ n ∧ n < ys ((lo + hi) / 2 + 2) c from ⟨I.out.1, hp⟩)
        have hd : decide (n < ys ((lo + hi) / 2 + 2) c) = true := decide_eq_true hp
        clear hp
        go_wp2_with (go_at_call 56; refine (closure_any n c _ Bn Bc (w.drewN q) HC.out g1 g2 x1 x2).mono ?_; rintro e w' ⟨rfl, q2, rfl⟩)
        go_roundw
        case rel => exact ⟨lo, (lo + hi) / 2, rfl, rfl, h0, g3, by omega, I2, _, rfl⟩
        case measure => simp [intOf]; omega
      · have I2 := Lib.hid (show ys ((lo + hi) / 2 + 1 + 1) c ≤ n ∧ n < ys (hi + 2) c from ⟨by rw [show (lo + hi) / 2 + 1 + 1 = (lo + hi) / 2 + 2 by omega]; omega, I.out.2⟩)
        have hd : decide (n < ys ((lo + hi) / 2 + 2) c) = false := decide_eq_false hp
        clear hp
        go_wp2_with (go_at_call 56; refine (closure_any n c _ Bn Bc (w.drewN q) HC.out g1 g2 x1 x2).mono ?_; rintro e w' ⟨rfl, q2, rfl⟩)
        go_roundw
        case rel => exact ⟨(lo + hi) / 2 + 1, hi, rfl, rfl, by omega, by omega, h2, I2, _, rfl⟩
        case measure => simp [intOf]; omega
    · obtain rfl : hi = lo := by omega
      go_wp2
      go_ret
      refine ⟨_, rfl, ⟨h0, ?_, I.out.1, I.out.2⟩, q, rfl⟩
      by_cases e : hi < 2200
      · exact e
      · have e2 : hi = 2200 := by omega
        have hn := N2.out
        have hh := I.out.1
        rw [e2] at hh
        have : ys (2200 + 1) c = ys 2201 c := rfl
        omega
set_option maxHeartbeats 1000000 in
theorem yearof_any (n c : Int) (w : World) (h : dayOk n c = true) :
    Calls Tryd.prog 41 #[.int .i64 n, .int .i64 c] w fun e w' => ∃ y : Int, e = .returned (.int .i64 y) ∧ (1 ≤ y ∧ y ≤ 2200 ∧ ys y c ≤ n ∧ n < ys (y + 1) c) ∧ Keep w w' := by
  have H := Lib.hid h
  clear h
  go_enter Tryd.func41, Tryd.ntmps41
  go_wp2_with fail
  refine (search_any n c w.heap.size (w.heap.size + 1) _ H.out (by go_simp) (by go_simp)).mono ?_
  rintro e w' ⟨k, rfl, ⟨h1, h2, h3, h4⟩, q, rfl⟩
  have I := Lib.hid (And.intro h3 h4)
  clear h3 h4
  go_wp2
  go_ret
  exact ⟨k + 1, rfl, ⟨by omega, by omega, I.out.1, by rw [show k + 1 + 1 = k + 2 by omega]; exact I.out.2⟩, (((Keep.refl w).alloc _).alloc _).drewN _⟩
end Go.Proofs.YtohoeonfoolpdaaDoor
