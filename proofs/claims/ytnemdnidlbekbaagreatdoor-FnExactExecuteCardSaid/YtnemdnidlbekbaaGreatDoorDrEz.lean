/- How a script is drawn: a line; the reader alone turns. -/
import Derived.Test.YtnemdnidlbekbaaGreatDoorDrPa
import Derived.Test.YtnemdnidlbekbaaGreatDoorDrRep
import Derived.Test.YtnemdnidlbekbaaGreatDoorTx
namespace Go.Proofs.YtnemdnidlbekbaaGreatDoor
open Go.RowKit
set_option linter.unusedVariables false

def La0 : List ByteArray := [⟨#[52]⟩, ⟨#[56]⟩, ⟨#[49, 50]⟩, ⟨#[49, 51]⟩, ⟨#[]⟩]
def La1 : List ByteArray := [⟨#[48, 32, 54, 32, 50, 48]⟩, ⟨#[49, 32, 53, 32, 53, 48]⟩, ⟨#[48, 32, 52, 32, 48]⟩, ⟨#[48, 32, 52]⟩, ⟨#[48, 32, 52, 32, 120]⟩]
def La2 : List ByteArray := [⟨#[49, 32, 49, 32, 48, 32, 56, 32, 53]⟩, ⟨#[50, 32, 49, 32, 48, 32, 52, 32, 52]⟩, ⟨#[49, 32, 49, 32, 48, 32, 51, 32, 48]⟩, ⟨#[49, 32, 52, 32, 48, 32, 51, 32, 49]⟩, ⟨#[49, 32, 49, 32, 48, 32, 52]⟩]
def La3 : List ByteArray := [⟨#[99, 104, 97, 110, 103, 101, 115]⟩, ⟨#[119, 104, 97, 116]⟩, ⟨#[]⟩, ⟨#[115, 49, 32, 100, 49]⟩, ⟨#[115, 101, 114, 105, 101, 115]⟩, ⟨#[99, 104, 97, 110, 103, 101, 115, 32, 49]⟩]
theorem la0_size : ∀ u ∈ La0, u.size ≤ 12 := by
  intro u hu
  simp only [La0, List.mem_cons, List.not_mem_nil, or_false] at hu
  rcases hu with rfl | rfl | rfl | rfl | rfl <;> decide
theorem la1_size : ∀ u ∈ La1, u.size ≤ 12 := by
  intro u hu
  simp only [La1, List.mem_cons, List.not_mem_nil, or_false] at hu
  rcases hu with rfl | rfl | rfl | rfl | rfl <;> decide
theorem la2_size : ∀ u ∈ La2, u.size ≤ 12 := by
  intro u hu
  simp only [La2, List.mem_cons, List.not_mem_nil, or_false] at hu
  rcases hu with rfl | rfl | rfl | rfl | rfl <;> decide
theorem la3_size : ∀ u ∈ La3, u.size ≤ 12 := by
  intro u hu
  simp only [La3, List.mem_cons, List.not_mem_nil, or_false] at hu
  rcases hu with rfl | rfl | rfl | rfl | rfl | rfl <;> decide
/-- A list of texts in a block that has just been made. -/
theorem lit_cells {l : List ByteArray} {n : Nat} (hn : l.length = n) (w : World) (T : Nat) : ∀ i, i < n → (w.alloc (.cells (l.map Value.string).toArray T)).cell? ⟨w.heap.size, i, none⟩ = some (.string (l.getD i ⟨#[]⟩)) := by
  intro i hi
  rw [World.cell?_alloc_new]
  simp [List.getD_eq_getElem?_getD, hn, hi]
def LdPost (B p : Nat) (w : World) (e : Ending) (w' : World) : Prop := ∃ (t : ByteArray) (q : Nat), e = .returned (.string t) ∧ t.size ≤ 60 ∧ q ≤ p + 21 ∧ Rd w' B q ∧ Only B w w'
set_option maxRecDepth 100000 in
set_option maxHeartbeats 4000000 in
theorem drawLineZ (B p : Nat) (w : World) (hp : p ≤ 700000) (h : Rd w B p) : Calls Tryz.prog 19 #[.pointer (some ⟨B, 0, none⟩)] w (LdPost B p w) := by
  go_enter Tryz.func19, Tryz.ntmps19
  go_wp2_with fail
  refine (pick_any B p 10 _ (by omega) (by omega) h).mono ?_
  rintro e w1 ⟨z, rfl, z0, z1, hr1, ho1, _⟩
  have hB := hr1.lt
  have hne : w1.heap.size ≠ B := by omega
  have hOF : ∀ (l : List ByteArray) (n : Nat), l.length = n → 1 ≤ n → n ≤ 100 → Hid (Calls Tryz.prog 29 #[.pointer (some ⟨B, 0, none⟩), .slice (some ⟨w1.heap.size, 0, none⟩) n n] (w1.alloc (.cells (l.map Value.string).toArray 9)) fun e w' => ∃ u, u ∈ l ∧ e = .returned (.string u) ∧ Rd w' B (p + 2) ∧ Only B (w1.alloc (.cells (l.map Value.string).toArray 9)) w') := fun l n hn h1 h2 =>
    Lib.hid (of_any B (p + 1) w1.heap.size n l _ (by omega) hn h1 h2 (hr1.alloc _) hne (lit_cells hn w1 _))
  by_cases z9 : z = 0
  · subst z9
    have HO := hOF La0 5 rfl (by omega) (by omega)
    clear hOF
    go_wp2_with fail
    refine HO.out.mono ?_
    rintro e w2 ⟨u, hu, rfl, hr2, ho2⟩
    have hs := la0_size u hu
    have ht : ¬ 9223372036854775807 < 13 + u.size := by omega
    clear hu
    go_wp2
    go_ret
    exact ⟨_, p + 2, rfl, by rw [ByteArray.size_append]; show 13 + u.size ≤ 60; omega, by omega, hr2, (ho1.alloc _).trans ho2⟩
  have y0 : (z == 0) = false := by simpa using z9
  by_cases z9 : z = 1
  · subst z9
    have HO := hOF La1 5 rfl (by omega) (by omega)
    clear hOF
    go_wp2_with fail
    refine HO.out.mono ?_
    rintro e w2 ⟨u, hu, rfl, hr2, ho2⟩
    have hs := la1_size u hu
    have ht : ¬ 9223372036854775807 < 9 + u.size := by omega
    clear hu
    go_wp2
    go_ret
    exact ⟨_, p + 2, rfl, by rw [ByteArray.size_append]; show 9 + u.size ≤ 60; omega, by omega, hr2, (ho1.alloc _).trans ho2⟩
  have y1 : (z == 1) = false := by simpa using z9
  by_cases z9 : z = 2
  · subst z9
    have HO := hOF La2 5 rfl (by omega) (by omega)
    clear hOF
    go_wp2_with fail
    refine HO.out.mono ?_
    rintro e w2 ⟨u, hu, rfl, hr2, ho2⟩
    have hs := la2_size u hu
    have ht : ¬ 9223372036854775807 < 5 + u.size := by omega
    clear hu
    go_wp2
    go_ret
    exact ⟨_, p + 2, rfl, by rw [ByteArray.size_append]; show 5 + u.size ≤ 60; omega, by omega, hr2, (ho1.alloc _).trans ho2⟩
  have y2 : (z == 2) = false := by simpa using z9
  by_cases z9 : z = 3
  · subst z9
    have HO := hOF La3 6 rfl (by omega) (by omega)
    clear hOF
    go_wp2_with fail
    refine HO.out.mono ?_
    rintro e w2 ⟨u, hu, rfl, hr2, ho2⟩
    have hs := la3_size u hu
    clear hu
    go_wp2
    go_ret
    exact ⟨_, p + 2, rfl, by omega, by omega, hr2, (ho1.alloc _).trans ho2⟩
  have y3 : (z == 3) = false := by simpa using z9
  clear hOF
  have hPk := Lib.hid (fun W n (hn : (1 : Int) ≤ n) q (hq : q ≤ 900000) (hR : Rd W B q) => pick_any B q n W hn (by omega) hR)
  have hDec := Lib.hid (fun (x : Int) W (h0 : 0 ≤ x) (h1 : x ≤ 99999) => dec_any x W h0 h1)
  by_cases z9 : z = 4 ∨ z = 5 ∨ z = 6
  · rcases z9 with rfl | rfl | rfl
    all_goals
      go_wp2_with fail
      refine (hPk.out _ 6 (by omega) (p + 1) (by omega) hr1).mono ?_
      rintro e w2 ⟨x, rfl, x0, x1, hr2, ho2, _⟩
      go_wp2_with fail
      refine (hDec.out x _ x0 (by omega)).mono ?_
      rintro e w3 ⟨rfl, k3⟩
      have hr3 := hr2.keep k3
      have hs3 := dtx_size (n := x) (by omega) (by omega)
      generalize dtx x = u at hs3 ⊢
      have t1 : ¬ 9223372036854775807 < 4 + u.size := by omega
      have t2 : ¬ 9223372036854775807 < 4 + u.size + 2 := by omega
      go_wp2_with fail
      refine (hPk.out _ 8 (by omega) (p + 2) (by omega) hr3).mono ?_
      rintro e w4 ⟨y, rfl, hy0, hy1, hr4, ho4, _⟩
      have hw : IntKind.i64.wrap (10 * y) = 10 * y := IntWalk.i64_in _ (by omega)
      go_wp2_with fail
      refine (hDec.out (10 * y) _ (by omega) (by omega)).mono ?_
      rintro e w5 ⟨rfl, k5⟩
      have hr5 := hr4.keep k5
      have hs5 := dtx_size (n := 10 * y) (by omega) (by omega)
      generalize dtx (10 * y) = v at hs5 ⊢
      have t3 : ¬ 9223372036854775807 < 4 + u.size + 2 + v.size := by omega
      have HO9 := Lib.hid ((((ho1.trans ho2).trans k3.only).trans ho4).trans k5.only)
      clear ho1 ho2 k3 ho4 k5 hr1 hr2 hr3 hr4
      go_wp2
      go_ret
      refine ⟨_, p + 3, rfl, ?_, by omega, hr5, HO9.out⟩
      rw [ByteArray.size_append, ByteArray.size_append, ByteArray.size_append]
      show 4 + u.size + 2 + v.size ≤ 60
      omega
  · have y4 : (z == 4) = false := by simp; omega
    have y5 : (z == 5) = false := by simp; omega
    have y6 : (z == 6) = false := by simp; omega
    clear hPk hDec
    go_wp2_with fail
    refine (drawReport B (p + 1) _ (by omega) hr1).mono ?_
    rintro e w2 ⟨s, d, k, v, q, rfl, _, _, _, _, hq, hr2, ho2⟩
    go_wp2_with fail
    refine (text_spec s d k v _).mono ?_
    rintro e w3 ⟨rfl, k3⟩
    have hr3 := hr2.keep k3
    have he := tx_empty s d k v
    have HO9 := Lib.hid ((ho1.trans ho2).trans k3.only)
    rcases Bool.eq_false_or_eq_true (rOk s d k v) with hr | hr
    · obtain ⟨t1, t2⟩ := tx_size hr
      rw [hr] at he
      generalize tx s d k v = t at *
      clear ho1 ho2 k3 hr1 hr2 hr
      go_wp2
      go_ret
      exact ⟨_, q, rfl, by omega, by omega, hr3, HO9.out⟩
    · rw [hr] at he
      generalize tx s d k v = t at *
      clear ho1 ho2 k3 hr1 hr2 hr
      go_wp2
      go_ret
      exact ⟨_, q, rfl, by decide, by omega, hr3, HO9.out⟩
end Go.Proofs.YtnemdnidlbekbaaGreatDoor
