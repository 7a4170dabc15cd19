/- How a text of a report is drawn: it is short. -/
import Derived.Test.YthlabofegjfmfabDrPa
namespace Go.Proofs.Ythlabofegjfmfab
open Go.RowKit Go.Lib
set_option linter.unusedVariables false

theorem ext_le (t : ByteArray) (i j : Nat) : (t.extract i j).size ≤ t.size := by
  rw [ByteArray.size_extract]; omega
def L8 : List ByteArray := [⟨#[]⟩, ⟨#[32]⟩, ⟨#[45]⟩, ⟨#[48]⟩, ⟨#[49]⟩, ⟨#[115]⟩, ⟨#[114]⟩, ⟨#[112]⟩]
theorem l8_size : ∀ u ∈ L8, u.size ≤ 1 := by
  intro u hu
  simp only [L8, List.mem_cons, List.not_mem_nil, or_false] at hu
  rcases hu with rfl | rfl | rfl | rfl | rfl | rfl | rfl | rfl <;> decide
set_option maxHeartbeats 2000000 in
theorem drawReportParse (a : Option Addr) (len cap : Nat) (w : World) (ha : CodeArg w a len cap) :
    Calls Try.prog 4 #[.slice a len cap] w fun e w' => ∃ t : ByteArray, e = .returned (.string t) ∧ t.size ≤ 100 ∧ Keep w w' := by
  go_enter Try.func4, Try.ntmps4
  go_wp2_with fail
  refine (open_any a len cap _ ha).mono ?_
  rintro e w1 ⟨rfl, hr, hb, hs⟩
  have kb : Keep w w1 := hb
  go_wp2_with fail
  refine (drawReport _ 0 _ (by omega) hr).mono ?_
  rintro e w2 ⟨s, d, k, v, q, rfl, hs', hd, hk, hv, hq, hr2, ho⟩
  have kw2 : Keep w w2 := ho.keep kb (Nat.le_refl _)
  go_wp2_with fail
  refine (text_spec s d k v _).mono ?_
  rintro e w3 ⟨rfl, k3⟩
  have kw3 := kw2.trans k3
  have hr3 : Rd w3 w.heap.size q := hr2.keep k3
  rcases Bool.eq_false_or_eq_true (rOk s d k v) with hr | hr
  · obtain ⟨t1, t2⟩ := tx_size hr
    generalize tx s d k v = t at t1 t2 ⊢
    have hlen : decide (0 < t.size) = true := by simp; omega
    have htl : (1 : Int) ≤ (t.size : Int) := by omega
    go_wp2_with fail
    refine (pick_any _ q 3 _ (by omega) (by omega) hr3).mono ?_
    rintro e w4 ⟨z, rfl, z0, z1, hr4, ho4, _⟩
    have kw4 : Keep w w4 := ho4.keep kw3 (Nat.le_refl _)
    clear hs' hd hk hv hr3 ho4 hr2 ho k3 kw2 kw3 hr hb kb ha
    by_cases hz : z = 0
    · subst hz
      go_wp2_with fail
      refine (pick_any _ (q + 1) t.size _ htl (by omega) hr4).mono ?_
      rintro e w5 ⟨g, rfl, g0, g1, hr5, ho5, _⟩
      have kw5 : Keep w w5 := ho5.keep kw4 (Nat.le_refl _)
      clear hr4 ho5 kw4
      obtain ⟨n, rfl⟩ := Int.eq_ofNat_of_zero_le g0
      have hn : n < t.size := by omega
      have hB := hr5.lt
      have HB : w5.heap.size ≠ w.heap.size := by omega
      have hB1 : w.heap.size < w5.heap.size := hB
      have HR : Rd ((w5.alloc (.cells #[.string ⟨#[]⟩, .string ⟨#[32]⟩, .string ⟨#[45]⟩, .string ⟨#[48]⟩, .string ⟨#[49]⟩, .string ⟨#[115]⟩, .string ⟨#[114]⟩, .string ⟨#[112]⟩] 9)).drew) w.heap.size (q + 2) := (hr5.alloc _).drewN 1
      have HC : ∀ i, i < 8 → ((w5.alloc (.cells #[.string ⟨#[]⟩, .string ⟨#[32]⟩, .string ⟨#[45]⟩, .string ⟨#[48]⟩, .string ⟨#[49]⟩, .string ⟨#[115]⟩, .string ⟨#[114]⟩, .string ⟨#[112]⟩] 9)).drew).cell? ⟨w5.heap.size, i, none⟩ = some (.string (L8.getD i ⟨#[]⟩)) := by
        intro i hi
        show (w5.alloc _).cell? _ = _
        rw [World.cell?_alloc_new]
        have : i = 0 ∨ i = 1 ∨ i = 2 ∨ i = 3 ∨ i = 4 ∨ i = 5 ∨ i = 6 ∨ i = 7 := by omega
        rcases this with rfl | rfl | rfl | rfl | rfl | rfl | rfl | rfl <;> rfl
      have kA : Keep w ((w5.alloc (.cells #[.string ⟨#[]⟩, .string ⟨#[32]⟩, .string ⟨#[45]⟩, .string ⟨#[48]⟩, .string ⟨#[49]⟩, .string ⟨#[115]⟩, .string ⟨#[114]⟩, .string ⟨#[112]⟩] 9)).drew) := (kw5.alloc _).drew
      clear hr5 kw5
      have hn0 : (0 : Int) ≤ (n : Int) := by omega
      have hn1 : (n : Int) ≤ (t.size : Int) := by omega
      go_wp2_with fail
      have X1 : ∀ u : ByteArray, u.size ≤ 1 → ¬ 9223372036854775807 < min n t.size + u.size := fun u h => by omega
      have X2 : ∀ (u : ByteArray) (m : Nat), u.size ≤ 1 → ¬ 9223372036854775807 < min n t.size + u.size + (t.size - (n + m)) := fun u m h => by omega
      have X3 : ∀ y : Int, 0 ≤ y → y < 2 → ∃ m : Nat, y = (m : Int) ∧ (0 : Int) ≤ (n : Int) + (m : Int) ∧ (n : Int) + (m : Int) ≤ (t.size : Int) ∧ n + m ≤ t.size ∧ ¬ t.size < n + m ∧ IntKind.i64.wrap ((n : Int) + (m : Int)) = (n : Int) + (m : Int) := fun y y0 y1 => by
        obtain ⟨m, rfl⟩ := Int.eq_ofNat_of_zero_le y0
        exact ⟨m, rfl, by omega, by omega, by omega, by omega, IntWalk.i64_in _ (by omega)⟩
      go_region_with (first
        | (go_at_call 11; refine (of_any _ _ _ 8 L8 _ (by omega) rfl (by omega) (by omega) HR HB HC).mono ?_; rintro e w6 ⟨u, hu, rfl, hr6, ho6⟩; have hu1 := l8_size u hu; clear hu HC HR; have q2 : ¬ 9223372036854775807 < min n t.size + u.size := X1 u hu1; have kw6 := ho6.keep kA (Nat.le_refl _))
        | (go_at_call 10; refine (pick_any _ _ 2 _ (by omega) (by omega) hr6).mono ?_; rintro e w7 ⟨y, rfl, y0, y1, hr7, ho7, _⟩; have kw7 := ho7.keep kw6 (Nat.le_refl _); obtain ⟨m, rfl, q3, q4, q5, q6, q8⟩ := X3 y y0 y1; have q7 : ¬ 9223372036854775807 < min n t.size + u.size + (t.size - (n + m)) := X2 u m hu1))
      all_goals
        have hsz : (t.extract 0 n ++ u ++ t.extract (n + m) t.size).size ≤ 100 := by
          have h1 := ext_le t 0 n
          have h2 := ext_le t (n + m) t.size
          rw [ByteArray.size_append, ByteArray.size_append]
          omega
        clear X1 X2 X3 HB hB1 hB
        go_wp2
        go_ret
        exact ⟨_, rfl, hsz, kw7⟩
    · have hz' : (z == 0) = false := by simp; omega
      go_wp2
      go_ret
      exact ⟨_, rfl, by omega, kw4⟩
  · rw [tx_no hr]
    go_wp2
    go_ret
    exact ⟨_, rfl, by decide, kw3⟩
end Go.Proofs.Ythlabofegjfmfab
