/- How a product and a report are drawn. -/
import Derived.Test.YtlaajompcbmdoaaDrPv
import Derived.Test.YtlaajompcbmdoaaPw
import Derived.Test.YtlaajompcbmdoaaTr
namespace Go.Proofs.Ytlaajompcbmdoaa
open Go.RowKit
set_option linter.unusedVariables false

set_option maxRecDepth 100000 in
set_option maxHeartbeats 4000000 in
theorem drawProductTouched (a : Option Addr) (len cap : Nat) (w : World) (ha : CodeArg w a len cap) :
    Calls Try.prog 40 #[.slice a len cap] w fun e w' => ∃ (s t f n g x0 x1 x2 x3 : Int), e = .returned (.tuple #[.agg #[.int .i64 s, .int .i64 t, .int .i64 f, .int .i64 n, .int .i64 g], .agg #[.int .i64 x0, .int .i64 x1, .int .i64 x2, .int .i64 x3]]) ∧ Keep w w' := by
  have ha2 := fun o o' => ha.below (((Below.refl w.heap.size w).alloc (Nat.le_refl _) o).alloc (by simp) o')
  go_enter Try.func40, Try.ntmps40
  go_wp2_with fail
  refine (open_any a len cap _ (ha2 _ _)).mono ?_
  rintro e w1 ⟨rfl, hr0, hb0, hs0⟩
  have hr : Rd w1 (w.heap.size + 1 + 1) 0 := by simpa using hr0
  have hs : w.heap.size + 1 + 1 < w1.heap.size := by simpa using hs0
  have hb : Below (w.heap.size + 1 + 1) _ w1 := hb0.mono (by simp)
  clear hr0 hs0 hb0
  go_wp2_with fail
  refine (drawProduct _ 0 _ (by omega) hr).mono ?_
  rintro e w2 ⟨s, t, f, n, g, q, rfl, hf, hn, hq, hr2, ho2⟩
  go_wp2_with fail
  refine (drawReport _ q _ (by omega) (hr2.alloc _)).mono ?_
  rintro e w3 ⟨y0, y1, y2, y3, q3, rfl, hs', hd, hk, hv, hq3, hr3, ho3⟩
  have p0 := newCellO ho3 hr2.lt 0 _ rfl
  have p1 := newCellO ho3 hr2.lt 1 _ rfl
  have p2 := newCellO ho3 hr2.lt 2 _ rfl
  have p3 := newCellO ho3 hr2.lt 3 _ rfl
  have p4 := newCellO ho3 hr2.lt 4 _ rfl
  go_wp2_with fail
  refine (pick_any _ q3 3 _ (by omega) (by omega) (hr3.alloc _)).mono ?_
  rintro e w4 ⟨z, rfl, z0, z1, hr4, ho4, _⟩
  have e0 := newCellO ho4 hr3.lt 0 _ rfl
  have e1 := newCellO ho4 hr3.lt 1 _ rfl
  have e2 := newCellO ho4 hr3.lt 2 _ rfl
  have e3 := newCellO ho4 hr3.lt 3 _ rfl
  have g0 := newFrozenO ho4 hr3.lt 0
  have g1 := newFrozenO ho4 hr3.lt 1
  have g2 := newFrozenO ho4 hr3.lt 2
  have g3 := newFrozenO ho4 hr3.lt 3
  have o34 := ((Only.refl _ w3).alloc (.cells #[.int .i64 y0, .int .i64 y1, .int .i64 y2, .int .i64 y3] 31)).trans ho4
  have hlt2 : w2.heap.size < w3.heap.size := by have := ho3.size; simp at this; omega
  have hne2 : w2.heap.size ≠ w.heap.size + 1 + 1 := by have := hr2.lt; omega
  replace p0 := (o34.cell w2.heap.size 0 hlt2 hne2).trans p0
  replace p1 := (o34.cell w2.heap.size 1 hlt2 hne2).trans p1
  replace p2 := (o34.cell w2.heap.size 2 hlt2 hne2).trans p2
  replace p3 := (o34.cell w2.heap.size 3 hlt2 hne2).trans p3
  replace p4 := (o34.cell w2.heap.size 4 hlt2 hne2).trans p4
  have hall : Below (w.heap.size + 1 + 1) _ w4 := hb.trans ((((ho2.alloc _).trans ho3).trans o34).below (Nat.le_refl _) (by omega))
  have hz4 : w.heap.size + 1 + 1 ≤ w4.heap.size := by have := hall.size; simpa using this
  have r0 : ∀ i v, (#[.int .i64 0, .int .i64 0, .int .i64 0, .int .i64 0, .int .i64 0] : Array Value)[i]? = some v → w4.cell? ⟨w.heap.size, i, none⟩ = some v := fun i v hv => by
    rw [hall.cell (p := ⟨w.heap.size, i, none⟩) (show w.heap.size < _ by omega), World.cell?_alloc_lt _ _ ⟨w.heap.size, i, none⟩ (show w.heap.size < _ by simp)]
    exact (World.cell?_alloc_new w _ _ i).trans hv
  have r1 : ∀ i v, (#[.int .i64 0, .int .i64 0, .int .i64 0, .int .i64 0] : Array Value)[i]? = some v → w4.cell? ⟨w.heap.size + 1, i, none⟩ = some v := fun i v hv => by
    rw [hall.cell (p := ⟨w.heap.size + 1, i, none⟩) (show w.heap.size + 1 < _ by omega)]
    exact (by rw [World.cell?_alloc_at _ _ _ _ (by simp)]; exact hv)
  have u0 : ∀ i, w4.frozen? ⟨w.heap.size, i, none⟩ = false := fun i => by
    rw [hall.frozen (p := ⟨w.heap.size, i, none⟩) (show w.heap.size < _ by omega), World.frozen?_alloc_old _ _ ⟨w.heap.size, i, none⟩ (show w.heap.size ≠ _ by simp)]
    exact World.frozen?_alloc_at _ _ _ _ rfl
  have u1 : ∀ i, w4.frozen? ⟨w.heap.size + 1, i, none⟩ = false := fun i => by
    rw [hall.frozen (p := ⟨w.heap.size + 1, i, none⟩) (show w.heap.size + 1 < _ by omega)]
    exact World.frozen?_alloc_at _ _ _ _ (by simp)
  have R00 : w4.cell? ⟨w.heap.size, 0, none⟩ = some (.int .i64 0) := r0 0 _ rfl
  have R01 : w4.cell? ⟨w.heap.size, 1, none⟩ = some (.int .i64 0) := r0 1 _ rfl
  have R02 : w4.cell? ⟨w.heap.size, 2, none⟩ = some (.int .i64 0) := r0 2 _ rfl
  have R03 : w4.cell? ⟨w.heap.size, 3, none⟩ = some (.int .i64 0) := r0 3 _ rfl
  have R04 : w4.cell? ⟨w.heap.size, 4, none⟩ = some (.int .i64 0) := r0 4 _ rfl
  have R10 : w4.cell? ⟨w.heap.size + 1, 0, none⟩ = some (.int .i64 0) := r1 0 _ rfl
  have R11 : w4.cell? ⟨w.heap.size + 1, 1, none⟩ = some (.int .i64 0) := r1 1 _ rfl
  have R12 : w4.cell? ⟨w.heap.size + 1, 2, none⟩ = some (.int .i64 0) := r1 2 _ rfl
  have R13 : w4.cell? ⟨w.heap.size + 1, 3, none⟩ = some (.int .i64 0) := r1 3 _ rfl
  have hn1 : w2.heap.size ≠ w.heap.size := by have := hr2.lt; omega
  have hn2 : w2.heap.size ≠ w.heap.size + 1 := by have := hr2.lt; omega
  have hn3 : w3.heap.size ≠ w.heap.size := by have := hr3.lt; omega
  have hn4 : w3.heap.size ≠ w.heap.size + 1 := by have := hr3.lt; omega
  have hn5 : w3.heap.size ≠ w2.heap.size := by omega
  have hneX : w.heap.size + 1 + 1 < w3.heap.size := hr3.lt
  have hlt3 : w3.heap.size < w4.heap.size := by have := ho4.size; simp at this; omega
  have hR4 := Lib.hid hr4
  have HALL := Lib.hid hall
  clear hb hr hr2 hr3 ho2 ho3 ho4 o34 r0 r1 hall hr4 hs' hd hk hv ha ha2
  generalize w2.heap.size = P at *
  generalize w3.heap.size = X at *
  have U00 := u0 0
  have U01 := u0 1
  have U02 := u0 2
  have U03 := u0 3
  have U04 := u0 4
  have U10 := u1 0
  have U11 := u1 1
  have U12 := u1 2
  have U13 := u1 3
  clear u0 u1
  have fin : ∀ W, Hid (Below (w.heap.size + 1 + 1) w4 W) → Hid (Keep w W) := fun W hb => Lib.hid ((((Below.refl w.heap.size w).alloc (Nat.le_refl _) _).alloc (by simp) _).trans ((HALL.out.trans hb.out).mono (by omega)))
  clear HALL
  have HPV := Lib.hid (fun W => prv_spec s t f n g W)
  have HPF := Lib.hid (fun h : prB s t f n g = true => (saB_facts (prB_facts h).1).2.2)
  by_cases hz : z = 0
  · subst hz
    have HK := Lib.hid (fin w4 (Lib.hid (Below.refl _ _))).out
    clear fin HPV HPF
    go_wp2_with fail
    go_region_held3 (fun w' => w'.cell? ⟨P, 0, none⟩ = some (.int .i64 s) ∧ w'.cell? ⟨P, 1, none⟩ = some (.int .i64 t) ∧ w'.cell? ⟨P, 2, none⟩ = some (.int .i64 f) ∧ w'.cell? ⟨P, 3, none⟩ = some (.int .i64 n) ∧ w'.cell? ⟨P, 4, none⟩ = some (.int .i64 g) ∧ w'.cell? ⟨X, 0, none⟩ = some (.int .i64 y0) ∧ w'.cell? ⟨X, 1, none⟩ = some (.int .i64 y1) ∧ w'.cell? ⟨X, 2, none⟩ = some (.int .i64 y2) ∧ w'.cell? ⟨X, 3, none⟩ = some (.int .i64 y3)) ((first | (go_simp; done) | exact ⟨p0, p1, p2, p3, p4, e0, e1, e2, e3⟩ | go_keep)) (fail)
    all_goals
      go_wp2
      refine bodyPost_ret (v := .tuple #[.agg #[.int .i64 s, .int .i64 t, .int .i64 f, .int .i64 n, .int .i64 g], .agg #[.int .i64 y0, .int .i64 y1, .int .i64 y2, .int .i64 y3]]) (by simp [results, Try.results40, go_sem, R00, R01, R02, R03, R04, R10, R11, R12, R13]) rfl ⟨_, _, _, _, _, _, _, _, _, rfl, ?_⟩
      have hk := HK.out
      repeat' (first | with_reducible exact hk | with_reducible refine Keep.setCell ?_ (Nat.le_refl _) _ | with_reducible refine Keep.setCell ?_ (Nat.le_succ _) _ | with_reducible refine Keep.drew ?_)
  · have hz0 : (0 : Int) < z := by omega
    rcases Bool.eq_false_or_eq_true (prB s t f n g) with hp | hp
    case' inr =>
      go_wp2_with fail
      refine (HPV.out _).mono ?_
      rintro e w5 ⟨he, k5⟩
      rw [hp] at he
      subst he
      have p0' := k5.cell p0
      have p1' := k5.cell p1
      have p2' := k5.cell p2
      have p3' := k5.cell p3
      have p4' := k5.cell p4
      have e0' := k5.cell e0
      have e1' := k5.cell e1
      have e2' := k5.cell e2
      have e3' := k5.cell e3
      have R00' := k5.cell R00
      have R01' := k5.cell R01
      have R02' := k5.cell R02
      have R03' := k5.cell R03
      have R04' := k5.cell R04
      have R10' := k5.cell R10
      have R11' := k5.cell R11
      have R12' := k5.cell R12
      have R13' := k5.cell R13
      have U00' := k5.still R00 U00
      have U01' := k5.still R01 U01
      have U02' := k5.still R02 U02
      have U03' := k5.still R03 U03
      have U04' := k5.still R04 U04
      have U10' := k5.still R10 U10
      have U11' := k5.still R11 U11
      have U12' := k5.still R12 U12
      have U13' := k5.still R13 U13
      clear p0 p1 p2 p3 p4 e0 e1 e2 e3 R00 R01 R02 R03 R04 R10 R11 R12 R13 U00 U01 U02 U03 U04 U10 U11 U12 U13 g0 g1 g2 g3
      have HK : Hid (Keep w w5) := Lib.hid (fin w5 (Lib.hid (Below.mono k5 (by omega)))).out
      clear fin HPV HPF hp
      go_wp2_with fail
      go_region_held3 (fun w' => w'.cell? ⟨P, 0, none⟩ = some (.int .i64 s) ∧ w'.cell? ⟨P, 1, none⟩ = some (.int .i64 t) ∧ w'.cell? ⟨P, 2, none⟩ = some (.int .i64 f) ∧ w'.cell? ⟨P, 3, none⟩ = some (.int .i64 n) ∧ w'.cell? ⟨P, 4, none⟩ = some (.int .i64 g) ∧ w'.cell? ⟨X, 0, none⟩ = some (.int .i64 y0) ∧ w'.cell? ⟨X, 1, none⟩ = some (.int .i64 y1) ∧ w'.cell? ⟨X, 2, none⟩ = some (.int .i64 y2) ∧ w'.cell? ⟨X, 3, none⟩ = some (.int .i64 y3)) ((first | (go_simp; done) | exact ⟨p0', p1', p2', p3', p4', e0', e1', e2', e3'⟩ | go_keep)) (fail)
      all_goals
        go_wp2
        refine bodyPost_ret (v := .tuple #[.agg #[.int .i64 s, .int .i64 t, .int .i64 f, .int .i64 n, .int .i64 g], .agg #[.int .i64 y0, .int .i64 y1, .int .i64 y2, .int .i64 y3]]) (by simp [results, Try.results40, go_sem, R00', R01', R02', R03', R04', R10', R11', R12', R13']) rfl ⟨_, _, _, _, _, _, _, _, _, rfl, ?_⟩
        have hk := HK.out
        repeat' (first | with_reducible exact hk | with_reducible refine Keep.setCell ?_ (Nat.le_refl _) _ | with_reducible refine Keep.setCell ?_ (Nat.le_succ _) _ | with_reducible refine Keep.drew ?_)
    · obtain ⟨⟨ff0, ff1⟩, mm, hmm, mm1, mm2⟩ := HPF.out hp
      subst hmm
      go_wp2_with fail
      refine (HPV.out _).mono ?_
      rintro e w5 ⟨he, k5⟩
      rw [hp] at he
      subst he
      have p0' := k5.cell p0
      have p1' := k5.cell p1
      have p2' := k5.cell p2
      have p3' := k5.cell p3
      have p4' := k5.cell p4
      have e0' := k5.cell e0
      have e1' := k5.cell e1
      have e2' := k5.cell e2
      have e3' := k5.cell e3
      have R00' := k5.cell R00
      have R01' := k5.cell R01
      have R02' := k5.cell R02
      have R03' := k5.cell R03
      have R04' := k5.cell R04
      have R10' := k5.cell R10
      have R11' := k5.cell R11
      have R12' := k5.cell R12
      have R13' := k5.cell R13
      have U00' := k5.still R00 U00
      have U01' := k5.still R01 U01
      have U02' := k5.still R02 U02
      have U03' := k5.still R03 U03
      have U04' := k5.still R04 U04
      have U10' := k5.still R10 U10
      have U11' := k5.still R11 U11
      have U12' := k5.still R12 U12
      have U13' := k5.still R13 U13
      have g0' := k5.still e0 g0
      have g1' := k5.still e1 g1
      have g2' := k5.still e2 g2
      have g3' := k5.still e3 g3
      clear p0 p1 p2 p3 p4 e0 e1 e2 e3 R00 R01 R02 R03 R04 R10 R11 R12 R13 U00 U01 U02 U03 U04 U10 U11 U12 U13 g0 g1 g2 g3
      have hr5 : Rd w5 (w.heap.size + 1 + 1) (q3 + 1) := hR4.out.keepS k5
      have hB5 := hr5.lt
      have HK5 : Hid (Below (w.heap.size + 1 + 1) w4 w5) := Lib.hid (Below.mono k5 (by omega))
      have hX5 : X < w5.heap.size := by have := k5.size; omega
      have hP5 : P < w5.heap.size := by omega
      have sw0 : IntKind.i64.wrap ((mm : Int) + 2) = (mm : Int) + 2 := IntWalk.i64_in _ ⟨by omega, by omega⟩
      clear HPV HPF hp hR4
      go_wp2_with fail
      go_region_held3 (fun w' => w'.cell? ⟨P, 0, none⟩ = some (.int .i64 s) ∧ w'.cell? ⟨P, 1, none⟩ = some (.int .i64 t) ∧ w'.cell? ⟨P, 2, none⟩ = some (.int .i64 f) ∧ w'.cell? ⟨P, 3, none⟩ = some (.int .i64 (mm : Int))) ((first | (go_simp; done) | exact ⟨p0', p1', p2', p3'⟩ | exact ⟨q0', q1', q2', q3'⟩ | exact ⟨v0', v1', v2', v3'⟩ | go_keep))
        (first
          | (go_at_call 73; (try rw [sw0]); refine (pick_any _ (q3 + 1) ((mm : Int) + 2) _ (by omega) (by omega) (hr5.drewN 1)).mono ?_; rintro e w6 ⟨zz, rfl, zz0, zz1, hr6, ho6, _⟩; have s1 : IntKind.i64.wrap (f + zz) = f + zz := IntWalk.i64_in _ (by omega); have s2 : IntKind.i64.wrap (f + zz - 1) = f + zz - 1 := IntWalk.i64_in _ (by omega); have q0' : w6.cell? ⟨P, 0, none⟩ = some (.int .i64 s) := (ho6.cell _ _ hP5 (by omega)).trans p0'; have q1' : w6.cell? ⟨P, 1, none⟩ = some (.int .i64 t) := (ho6.cell _ _ hP5 (by omega)).trans p1'; have q2' : w6.cell? ⟨P, 2, none⟩ = some (.int .i64 f) := (ho6.cell _ _ hP5 (by omega)).trans p2'; have q3' : w6.cell? ⟨P, 3, none⟩ = some (.int .i64 (mm : Int)) := (ho6.cell _ _ hP5 (by omega)).trans p3')
          | (go_at_call 74; refine (drawValue _ (q3 + 1 + 1) t _ (by omega) hr6).mono ?_; rintro e w7 ⟨v, q7, rfl, hv0, hv1, hq7, hr7, ho7⟩; have v0' : w7.cell? ⟨P, 0, none⟩ = some (.int .i64 s) := (ho7.cell _ _ (Nat.lt_of_lt_of_le hP5 ho6.size) (by omega)).trans q0'; have v1' : w7.cell? ⟨P, 1, none⟩ = some (.int .i64 t) := (ho7.cell _ _ (Nat.lt_of_lt_of_le hP5 ho6.size) (by omega)).trans q1'; have v2' : w7.cell? ⟨P, 2, none⟩ = some (.int .i64 f) := (ho7.cell _ _ (Nat.lt_of_lt_of_le hP5 ho6.size) (by omega)).trans q2'; have v3' : w7.cell? ⟨P, 3, none⟩ = some (.int .i64 (mm : Int)) := (ho7.cell _ _ (Nat.lt_of_lt_of_le hP5 ho6.size) (by omega)).trans q3'; have e0'' : w7.cell? ⟨X, 0, none⟩ = some (.int .i64 y0) := (ho7.cell _ _ (Nat.lt_of_lt_of_le hX5 ho6.size) (by omega)).trans ((ho6.cell _ _ hX5 (by omega)).trans e0'); have e1'' : w7.cell? ⟨X, 1, none⟩ = some (.int .i64 y1) := (ho7.cell _ _ (Nat.lt_of_lt_of_le hX5 ho6.size) (by omega)).trans ((ho6.cell _ _ hX5 (by omega)).trans e1'); have e2'' : w7.cell? ⟨X, 2, none⟩ = some (.int .i64 y2) := (ho7.cell _ _ (Nat.lt_of_lt_of_le hX5 ho6.size) (by omega)).trans ((ho6.cell _ _ hX5 (by omega)).trans e2'); have e3'' : w7.cell? ⟨X, 3, none⟩ = some (.int .i64 y3) := (ho7.cell _ _ (Nat.lt_of_lt_of_le hX5 ho6.size) (by omega)).trans ((ho6.cell _ _ hX5 (by omega)).trans e3'); have g0'' : w7.frozen? ⟨X, 0, none⟩ = false := (ho7.frozen _ _ (Nat.lt_of_lt_of_le hX5 ho6.size) (by omega)).trans ((ho6.frozen _ _ hX5 (by omega)).trans g0'); have g1'' : w7.frozen? ⟨X, 1, none⟩ = false := (ho7.frozen _ _ (Nat.lt_of_lt_of_le hX5 ho6.size) (by omega)).trans ((ho6.frozen _ _ hX5 (by omega)).trans g1'); have g2'' : w7.frozen? ⟨X, 2, none⟩ = false := (ho7.frozen _ _ (Nat.lt_of_lt_of_le hX5 ho6.size) (by omega)).trans ((ho6.frozen _ _ hX5 (by omega)).trans g2'); have g3'' : w7.frozen? ⟨X, 3, none⟩ = false := (ho7.frozen _ _ (Nat.lt_of_lt_of_le hX5 ho6.size) (by omega)).trans ((ho6.frozen _ _ hX5 (by omega)).trans g3')))
      have hP4 : At4 (put4 w7 X 0 (s, f + zz - 1, t, v)) X 0 (s, f + zz - 1, t, v) := put4_at (q := (y0, y1, y2, y3)) ⟨e0'', e1'', e2'', e3''⟩
      have hput : put4 w7 X 0 (s, f + zz - 1, t, v) = ((((w7.setCell ⟨X, 0, none⟩ (.int .i64 s)).setCell ⟨X, 1, none⟩ (.int .i64 (f + zz - 1))).setCell ⟨X, 2, none⟩ (.int .i64 t)).setCell ⟨X, 3, none⟩ (.int .i64 v)) := rfl
      have hO57 : Only (w.heap.size + 1 + 1) w5 w7 := (((Only.refl _ w5).drewN 1).trans ho6).trans ho7
      have tr : ∀ b i u, b ≠ X → b ≠ w.heap.size + 1 + 1 → b < w5.heap.size → w5.cell? ⟨b, i, none⟩ = some u → (put4 w7 X 0 (s, f + zz - 1, t, v)).cell? ⟨b, i, none⟩ = some u := fun b i u h1 h2 h3 hc => by
        rw [put4_far (.inl h1), hO57.cell b i h3 h2]; exact hc
      have tf : ∀ b i, b ≠ w.heap.size + 1 + 1 → b < w5.heap.size → w5.frozen? ⟨b, i, none⟩ = false → (put4 w7 X 0 (s, f + zz - 1, t, v)).frozen? ⟨b, i, none⟩ = false := fun b i h2 h3 hc => by
        rw [put4_frozen, hO57.frozen b i h3 h2]; exact hc
      have HK8 : Hid (Keep w (put4 w7 X 0 (s, f + zz - 1, t, v))) := Lib.hid (fin _ (Lib.hid (HK5.out.trans ((hO57.below (Nat.le_refl _) (by omega)).trans (by
        have hX2 : w.heap.size + 1 + 1 ≤ X := by omega
        exact ((((Below.refl (w.heap.size + 1 + 1) w7).setCell hX2 _).setCell hX2 _).setCell hX2 _).setCell hX2 _))))).out
      rw [← hput]
      generalize put4 w7 X 0 (s, f + zz - 1, t, v) = w8 at hP4 tr tf HK8 ⊢
      obtain ⟨E0, E1, E2, E3⟩ := hP4
      simp only [rS, rD, rK, rV, Nat.zero_add] at E0 E1 E2 E3
      have P0 := tr P 0 _ (by omega) (by omega) hP5 p0'
      have P1 := tr P 1 _ (by omega) (by omega) hP5 p1'
      have P2 := tr P 2 _ (by omega) (by omega) hP5 p2'
      have P3 := tr P 3 _ (by omega) (by omega) hP5 p3'
      have P4 := tr P 4 _ (by omega) (by omega) hP5 p4'
      have Q00 := tr w.heap.size 0 _ (by omega) (by omega) (by omega) R00'
      have V00 := tf w.heap.size 0 (by omega) (by omega) U00'
      have Q01 := tr w.heap.size 1 _ (by omega) (by omega) (by omega) R01'
      have V01 := tf w.heap.size 1 (by omega) (by omega) U01'
      have Q02 := tr w.heap.size 2 _ (by omega) (by omega) (by omega) R02'
      have V02 := tf w.heap.size 2 (by omega) (by omega) U02'
      have Q03 := tr w.heap.size 3 _ (by omega) (by omega) (by omega) R03'
      have V03 := tf w.heap.size 3 (by omega) (by omega) U03'
      have Q04 := tr w.heap.size 4 _ (by omega) (by omega) (by omega) R04'
      have V04 := tf w.heap.size 4 (by omega) (by omega) U04'
      have Q10 := tr (w.heap.size + 1) 0 _ (by omega) (by omega) (by omega) R10'
      have V10 := tf (w.heap.size + 1) 0 (by omega) (by omega) U10'
      have Q11 := tr (w.heap.size + 1) 1 _ (by omega) (by omega) (by omega) R11'
      have V11 := tf (w.heap.size + 1) 1 (by omega) (by omega) U11'
      have Q12 := tr (w.heap.size + 1) 2 _ (by omega) (by omega) (by omega) R12'
      have V12 := tf (w.heap.size + 1) 2 (by omega) (by omega) U12'
      have Q13 := tr (w.heap.size + 1) 3 _ (by omega) (by omega) (by omega) R13'
      have V13 := tf (w.heap.size + 1) 3 (by omega) (by omega) U13'
      clear tr tf hO57 hput fin HK5 p0' p1' p2' p3' p4' e0' g0' e1' g1' e2' g2' e3' g3' R00' U00' R01' U01' R02' U02' R03' U03' R04' U04' R10' U10' R11' U11' R12' U12' R13' U13'
      go_wp2_with fail
      go_region_held3 (fun w' => w'.cell? ⟨P, 0, none⟩ = some (.int .i64 s) ∧ w'.cell? ⟨P, 1, none⟩ = some (.int .i64 t) ∧ w'.cell? ⟨P, 2, none⟩ = some (.int .i64 f) ∧ w'.cell? ⟨P, 3, none⟩ = some (.int .i64 (mm : Int)) ∧ w'.cell? ⟨P, 4, none⟩ = some (.int .i64 g) ∧ w'.cell? ⟨X, 0, none⟩ = some (.int .i64 s) ∧ w'.cell? ⟨X, 1, none⟩ = some (.int .i64 (f + zz - 1)) ∧ w'.cell? ⟨X, 2, none⟩ = some (.int .i64 t) ∧ w'.cell? ⟨X, 3, none⟩ = some (.int .i64 v)) ((first | (go_simp; done) | exact ⟨P0, P1, P2, P3, P4, E0, E1, E2, E3⟩ | go_keep)) (fail)
      all_goals
        go_wp2
        refine bodyPost_ret (v := .tuple #[.agg #[.int .i64 s, .int .i64 t, .int .i64 f, .int .i64 (mm : Int), .int .i64 g], .agg #[.int .i64 s, .int .i64 (f + zz - 1), .int .i64 t, .int .i64 v]]) (by simp [results, Try.results40, go_sem, Q00, Q01, Q02, Q03, Q04, Q10, Q11, Q12, Q13]) rfl ⟨_, _, _, _, _, _, _, _, _, rfl, ?_⟩
        have hk := HK8.out
        repeat' (first | with_reducible exact hk | with_reducible refine Keep.setCell ?_ (Nat.le_refl _) _ | with_reducible refine Keep.setCell ?_ (Nat.le_succ _) _ | with_reducible refine Keep.drew ?_)
end Go.Proofs.Ytlaajompcbmdoaa
