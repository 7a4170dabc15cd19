/- How texts of series are drawn. -/
import Derived.Test.YtpdpcnblpcalaaaDoorBt
import Derived.Test.YtpdpcnblpcalaaaDoorDrSq
import Derived.Test.YtpdpcnblpcalaaaDoorDrSs
import Derived.Test.YtpdpcnblpcalaaaDoorDrPa
namespace Go.Proofs.YtpdpcnblpcalaaaDoor
open Go.RowKit Go.Lib
set_option linter.unusedVariables false

def DrewBt (w : World) (e : Ending) (w' : World) : Prop :=
  ∃ (s t f : Int) (a : Option Addr) (c : Nat) (zs : List Int), e = .returned (.tuple #[.int .i64 s, .int .i64 t, .int .i64 f, .slice a zs.length c]) ∧ (-20000 ≤ f ∧ f ≤ 20000) ∧ zs.length ≤ 13 ∧ zs.length ≤ c ∧ Btw (-10000) 12000 zs ∧ Ls w' a zs ∧ Keep w w'
set_option maxHeartbeats 1000000 in
theorem drawBulletinText (a0 : Option Addr) (len cap : Nat) (w : World) (ha : CodeArg w a0 len cap) :
    Calls Tryd.prog 6 #[.slice a0 len cap] w (DrewBt w) := by
  go_enter Tryd.func6, Tryd.ntmps6
  go_wp2_with fail
  refine (open_any a0 len cap _ ha).mono ?_
  rintro e w1 ⟨rfl, hr1, hb, hs⟩
  have hb : Keep w w1 := hb
  go_wp2_with fail
  refine (drawDays _ 0 _ (by omega) hr1).mono ?_
  rintro e w2 ⟨s, t, f, d, q, rfl, hf, hd, hq, hr2, ho2⟩
  obtain ⟨n, rfl⟩ := Int.eq_ofNat_of_zero_le hd.1
  have hn : n ≤ 13 := by omega
  go_wp2_with fail
  refine (drawSeries _ q n _ (by omega) hn hr2).mono ?_
  rintro e w3 ⟨v, zs, q3, rfl, hl, hB, hO, hq3, hr3, ho3⟩
  obtain ⟨a, c, rfl, hc, hL⟩ := hO.lsn hr2.lt
  have HL := Lib.hid (show zs.length ≤ 13 by omega)
  have hk : Keep w w3 := Only.keep (ho2.trans ho3) hb (Nat.le_refl _)
  clear hl hO
  go_wp2
  refine bodyPost_ret (results_tmp4 rfl _ _ _) rfl ?_
  exact ⟨s, t, f, a, c, zs, rfl, hf, HL.out, hc, hB, hL.1, hk⟩
def L8b : List ByteArray := [⟨#[]⟩, ⟨#[32]⟩, ⟨#[45]⟩, ⟨#[48]⟩, ⟨#[49]⟩, ⟨#[98]⟩, ⟨#[47]⟩, ⟨#[61]⟩]
theorem l8b_size : ∀ u ∈ L8b, u.size ≤ 1 := by
  intro u hu
  simp only [L8b, List.mem_cons, List.not_mem_nil, or_false] at hu
  rcases hu with rfl | rfl | rfl | rfl | rfl | rfl | rfl | rfl <;> decide
theorem ext_leb (t : ByteArray) (i j : Nat) : (t.extract i j).size ≤ t.size := by
  rw [ByteArray.size_extract]; omega
set_option maxRecDepth 100000 in
set_option maxHeartbeats 2000000 in
theorem drawBulletinParse (a0 : Option Addr) (len cap : Nat) (w : World) (ha : CodeArg w a0 len cap) :
    Calls Tryd.prog 11 #[.slice a0 len cap] w fun e w' => ∃ t : ByteArray, e = .returned (.string t) ∧ t.size ≤ 400 ∧ Keep w w' := by
  go_enter Tryd.func11, Tryd.ntmps11
  go_wp2_with fail
  refine (open_any a0 len cap _ ha).mono ?_
  rintro e w1 ⟨rfl, hr1, hb, hs⟩
  have kb : Keep w w1 := hb
  go_wp2_with fail
  refine (drawDays _ 0 _ (by omega) hr1).mono ?_
  rintro e w2 ⟨s, t, f, d, q, rfl, hf, hd, hq, hr2, ho2⟩
  obtain ⟨n, hn, hmin⟩ : ∃ n : Nat, n ≤ 13 ∧ (if (5 : Int) < d then (5 : Int) else d) = (n : Int) := by
    by_cases h : (5 : Int) < d
    · exact ⟨5, by omega, by rw [if_pos h]; rfl⟩
    · obtain ⟨m, rfl⟩ := Int.eq_ofNat_of_zero_le hd.1
      exact ⟨m, by omega, by rw [if_neg h]⟩
  go_wp2_with fail
  refine (drawSeries _ q n _ (by omega) hn hr2).mono ?_
  rintro e w3 ⟨v, zs, q3, rfl, hl, hB, hO, hq3, hr3, ho3⟩
  obtain ⟨a, c, rfl, hc, hL⟩ := hO.lsn hr2.lt
  have k3 : Keep w w3 := Only.keep (ho2.trans ho3) kb (Nat.le_refl _)
  have HL := Lib.hid (show zs.length ≤ 13 by omega)
  have hL1 := hL.1
  clear hl hO ho2 ho3 hr2 hr1 hL hmin
  go_wp2_with fail
  refine (bt_spec a c s t f zs _ hL1 (by have := HL.out; omega) hf).mono ?_
  rintro e w4 ⟨rfl, k4⟩
  have kw3 := k3.trans k4
  have hr4 : Rd w4 w.heap.size q3 := hr3.keep k4
  have hq4 : q3 ≤ 60 := by omega
  clear k4 k3 hr3 hb kb ha hL1 hB hc hq3
  rcases Bool.eq_false_or_eq_true (btOk s t f zs) with hr | hr
  · obtain ⟨t1, t2⟩ := btT_size hr
    generalize btT s t f zs = t at t1 t2 ⊢
    have hlen : decide (0 < t.size) = true := by simp; omega
    have htl : (1 : Int) ≤ (t.size : Int) := by omega
    go_wp2_with fail
    refine (pick_any _ q3 3 _ (by omega) (by omega) hr4).mono ?_
    rintro e w5 ⟨z, rfl, z0, z1, hr5, ho5, _⟩
    have kw4 : Keep w w5 := ho5.keep kw3 (Nat.le_refl _)
    clear hr4 ho5 kw3 hr
    by_cases hz : z = 0
    · subst hz
      go_wp2_with fail
      refine (pick_any _ (q3 + 1) t.size _ htl (by omega) hr5).mono ?_
      rintro e w6 ⟨g, rfl, g0, g1, hr6, ho6, _⟩
      have kw5 : Keep w w6 := ho6.keep kw4 (Nat.le_refl _)
      clear hr5 ho6 kw4
      obtain ⟨n, rfl⟩ := Int.eq_ofNat_of_zero_le g0
      have hn : n < t.size := by omega
      have hB := hr6.lt
      have HB : w6.heap.size ≠ w.heap.size := by omega
      have hB1 : w.heap.size < w6.heap.size := hB
      have HR : Rd ((w6.alloc (.cells #[.string ⟨#[]⟩, .string ⟨#[32]⟩, .string ⟨#[45]⟩, .string ⟨#[48]⟩, .string ⟨#[49]⟩, .string ⟨#[98]⟩, .string ⟨#[47]⟩, .string ⟨#[61]⟩] 9)).drew) w.heap.size (q3 + 2) := (hr6.alloc _).drewN 1
      have HC : ∀ i, i < 8 → ((w6.alloc (.cells #[.string ⟨#[]⟩, .string ⟨#[32]⟩, .string ⟨#[45]⟩, .string ⟨#[48]⟩, .string ⟨#[49]⟩, .string ⟨#[98]⟩, .string ⟨#[47]⟩, .string ⟨#[61]⟩] 9)).drew).cell? ⟨w6.heap.size, i, none⟩ = some (.string (L8b.getD i ⟨#[]⟩)) := by
        intro i hi
        show (w6.alloc _).cell? _ = _
        rw [World.cell?_alloc_new]
        have : i = 0 ∨ i = 1 ∨ i = 2 ∨ i = 3 ∨ i = 4 ∨ i = 5 ∨ i = 6 ∨ i = 7 := by omega
        rcases this with rfl | rfl | rfl | rfl | rfl | rfl | rfl | rfl <;> rfl
      have kA : Keep w ((w6.alloc (.cells #[.string ⟨#[]⟩, .string ⟨#[32]⟩, .string ⟨#[45]⟩, .string ⟨#[48]⟩, .string ⟨#[49]⟩, .string ⟨#[98]⟩, .string ⟨#[47]⟩, .string ⟨#[61]⟩] 9)).drew) := (kw5.alloc _).drew
      clear hr6 kw5
      have hn0 : (0 : Int) ≤ (n : Int) := by omega
      have hn1 : (n : Int) ≤ (t.size : Int) := by omega
      go_wp2_with fail
      have X1 : ∀ u : ByteArray, u.size ≤ 1 → ¬ 9223372036854775807 < min n t.size + u.size := fun u h => by omega
      have X2 : ∀ (u : ByteArray) (m : Nat), u.size ≤ 1 → ¬ 9223372036854775807 < min n t.size + u.size + (t.size - (n + m)) := fun u m h => by omega
      have X3 : ∀ y : Int, 0 ≤ y → y < 2 → ∃ m : Nat, y = (m : Int) ∧ (0 : Int) ≤ (n : Int) + (m : Int) ∧ (n : Int) + (m : Int) ≤ (t.size : Int) ∧ n + m ≤ t.size ∧ ¬ t.size < n + m ∧ IntKind.i64.wrap ((n : Int) + (m : Int)) = (n : Int) + (m : Int) := fun y y0 y1 => by
        obtain ⟨m, rfl⟩ := Int.eq_ofNat_of_zero_le y0
        exact ⟨m, rfl, by omega, by omega, by omega, by omega, IntWalk.i64_in _ (by omega)⟩
      go_region_with (first
        | (go_at_call 32; refine (of_any _ _ _ 8 L8b _ (by omega) rfl (by omega) (by omega) HR HB HC).mono ?_; rintro e w6 ⟨u, hu, rfl, hr6, ho6⟩; have hu1 := l8b_size u hu; clear hu HC HR; have q2 : ¬ 9223372036854775807 < min n t.size + u.size := X1 u hu1; have kw6 := ho6.keep kA (Nat.le_refl _))
        | (go_at_call 31; refine (pick_any _ _ 2 _ (by omega) (by omega) hr6).mono ?_; rintro e w7 ⟨y, rfl, y0, y1, hr7, ho7, _⟩; have kw7 := ho7.keep kw6 (Nat.le_refl _); obtain ⟨m, rfl, q3, q4, q5, q6, q8⟩ := X3 y y0 y1; have q7 : ¬ 9223372036854775807 < min n t.size + u.size + (t.size - (n + m)) := X2 u m hu1))
      all_goals
        have hsz : (t.extract 0 n ++ u ++ t.extract (n + m) t.size).size ≤ 400 := by
          have h1 := ext_leb t 0 n
          have h2 := ext_leb t (n + m) t.size
          rw [ByteArray.size_append, ByteArray.size_append]
          omega
        clear X1 X2 X3 HB hB1 hB
        go_wp2
        go_ret
        exact ⟨_, rfl, hsz, kw7⟩
    · have hz' : (z == 0) = false := by simp; omega
      go_wp2
      go_ret
      exact ⟨_, rfl, by omega, kw4⟩
  · rw [btT_no hr]
    go_wp2
    go_ret
    exact ⟨_, rfl, by decide, kw3⟩
end Go.Proofs.YtpdpcnblpcalaaaDoor
