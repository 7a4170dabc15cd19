/- The meeting and the joining of ranges: the program's functions and the model answer what 'mOk', 'mLo', 'mHi', 'jOk', 'jLo', 'jHi' say. -/
import Derived.Test.YtnemdnidlbekbaaGreatDoorRg
import Derived.Test.YtnemdnidlbekbaaGreatDoorSort
import Derived.Laws.Rows
import Derived.WalkLawsBesides
import Derived.Outline
namespace Go.Proofs.YtnemdnidlbekbaaGreatDoor
open Go.RowKit
set_option linter.unusedVariables false

theorem rgOk_facts {a b : Int} (h : rgOk a b = true) : -99999 ≤ a ∧ a ≤ b ∧ b ≤ 99999 := by
  simp [rgOk, inB] at h; omega
theorem rgOk_mk {a b : Int} (h : -99999 ≤ a ∧ a ≤ b ∧ b ≤ 99999) : rgOk a b = true := by
  simp [rgOk, inB]; omega

def mOk (a b c d : Int) : Bool := rgOk a b && rgOk c d && decide (a ≤ d) && decide (c ≤ b)
def mLo (a b c d : Int) : Int := if mOk a b c d then max a c else 0
def mHi (a b c d : Int) : Int := if mOk a b c d then min b d else 0
def jOk (a b c d : Int) : Bool := rgOk a b && rgOk c d
def jLo (a b c d : Int) : Int := if jOk a b c d then min a c else 0
def jHi (a b c d : Int) : Int := if jOk a b c d then max b d else 0

def apart (a b c d : Int) : Bool := decide (b < c) || decide (d < a)

set_option maxHeartbeats 400000 in
theorem apart_any (a b c d : Int) (w : World) :
    Calls Tryz.prog 148 #[.agg #[.int .i64 a, .int .i64 b], .agg #[.int .i64 c, .int .i64 d]] w fun e w' => e = .returned (.bool (apart a b c d)) ∧ Keep w w' := by
  go_enter Tryz.func148, Tryz.ntmps148
  go_wp2
  all_goals
    go_ret
    refine ⟨retB ?_, ((Keep.refl _).alloc _).alloc _⟩
    rw [Bool.eq_iff_iff]
    simp [apart, *]
    try omega

/-- The four ends of two ranges in order. -/
def Ends (a b c d p q r s : Int) : Prop := p = min a c ∧ s = max b d ∧ (c ≤ b → a ≤ d → q = max a c ∧ r = min b d)
set_option maxHeartbeats 400000 in
theorem ends_any (a b c d : Int) (w : World) (h1 : a ≤ b) (h2 : c ≤ d) :
    Calls Tryz.prog 149 #[.agg #[.int .i64 a, .int .i64 b], .agg #[.int .i64 c, .int .i64 d]] w fun e w' =>
      ∃ p q r s : Int, e = .returned (.agg #[.int .i64 p, .int .i64 q, .int .i64 r, .int .i64 s]) ∧ Ends a b c d p q r s ∧ Keep w w' := by
  obtain ⟨hp, hs, hqr⟩ := sorted_pairs a b c d h1 h2
  have HE : Hid (Ends a b c d ((sorted [a, b, c, d]).getD 0 0) ((sorted [a, b, c, d]).getD 1 0) ((sorted [a, b, c, d]).getD 2 0) ((sorted [a, b, c, d]).getD 3 0)) := Lib.hid ⟨hp, hs, hqr⟩
  clear hp hs hqr h1 h2
  go_enter Tryz.func149, Tryz.ntmps149
  go_wp2_with fail
  refine (sort_ints _ _ [a, b, c, d] _ ?hz (by simp) (by simp)).mono ?_
  case hz =>
    intro j hj
    have hj' : j = 0 ∨ j = 1 ∨ j = 2 ∨ j = 3 := by simp at hj; omega
    rcases hj' with rfl | rfl | rfl | rfl <;> exact ⟨by go_simp, by go_simp⟩
  rintro e w1 ⟨rfl, ho, hi⟩
  have hl : (sorted [a, b, c, d]).length = 4 := sorted_length _
  have c0 := (hi 0 (by omega)).1
  have c1 := (hi 1 (by omega)).1
  have c2 := (hi 2 (by omega)).1
  have c3 := (hi 3 (by omega)).1
  generalize (sorted [a, b, c, d]).getD 0 0 = p at *
  generalize (sorted [a, b, c, d]).getD 1 0 = q at *
  generalize (sorted [a, b, c, d]).getD 2 0 = r at *
  generalize (sorted [a, b, c, d]).getD 3 0 = t at *
  clear hl hi
  have hk := ho.keep (((((Keep.refl w).alloc _).alloc _).alloc _).alloc _) (by omega)
  have r0 : w1.cell? ⟨w.heap.size + 2, 0, none⟩ = some (.int .i64 0) := by rw [ho.cell _ _ (by simp) (by simp)]; go_simp
  have r1 : w1.cell? ⟨w.heap.size + 2, 1, none⟩ = some (.int .i64 0) := by rw [ho.cell _ _ (by simp) (by simp)]; go_simp
  have r2 : w1.cell? ⟨w.heap.size + 2, 2, none⟩ = some (.int .i64 0) := by rw [ho.cell _ _ (by simp) (by simp)]; go_simp
  have r3 : w1.cell? ⟨w.heap.size + 2, 3, none⟩ = some (.int .i64 0) := by rw [ho.cell _ _ (by simp) (by simp)]; go_simp
  have g0 : w1.frozen? ⟨w.heap.size + 2, 0, none⟩ = false := by rw [ho.frozen _ _ (by simp) (by simp)]; go_simp
  have g1 : w1.frozen? ⟨w.heap.size + 2, 1, none⟩ = false := by rw [ho.frozen _ _ (by simp) (by simp)]; go_simp
  have g2 : w1.frozen? ⟨w.heap.size + 2, 2, none⟩ = false := by rw [ho.frozen _ _ (by simp) (by simp)]; go_simp
  have g3 : w1.frozen? ⟨w.heap.size + 2, 3, none⟩ = false := by rw [ho.frozen _ _ (by simp) (by simp)]; go_simp
  go_wp2
  refine bodyPost_ret (v := .agg #[.int .i64 p, .int .i64 q, .int .i64 r, .int .i64 t]) (by simp [results, Tryz.results149, go_sem, *]) rfl ⟨_, _, _, _, rfl, HE.out, ?_⟩
  exact (((hk.setCell (by omega) _).setCell (by omega) _).setCell (by omega) _).setCell (by omega) _
/-! meet -/
theorem yesmOk {a b c d : Int} (h1 : rgOk a b = true) (h2 : rgOk c d = true) (h3 : apart a b c d = false) : mOk a b c d = true := by
  simp [apart] at h3; simp [mOk, h1, h2]; omega
theorem nomOk {a b c d : Int} (h : rgOk a b = false ∨ rgOk c d = false ∨ apart a b c d = true) : mOk a b c d = false ∧ mLo a b c d = 0 ∧ mHi a b c d = 0 := by
  have e : mOk a b c d = false := by
    rcases h with h | h | h; simp [mOk, h]; simp [mOk, h]; simp [apart] at h; simp [mOk]; intros; omega
  exact ⟨e, by simp [mLo, e], by simp [mHi, e]⟩
theorem yesjOk {a b c d : Int} (h1 : rgOk a b = true) (h2 : rgOk c d = true) : jOk a b c d = true := by
  simp [jOk, h1, h2]
theorem nojOk {a b c d : Int} (h : rgOk a b = false ∨ rgOk c d = false) : jOk a b c d = false ∧ jLo a b c d = 0 ∧ jHi a b c d = 0 := by
  have e : jOk a b c d = false := by
    rcases h with h | h <;> simp [jOk, h]
  exact ⟨e, by simp [jLo, e], by simp [jHi, e]⟩
theorem apart_gt {a b c d : Int} (h1 : rgOk a b = true) (h2 : rgOk c d = true) (h3 : apart a b c d = true) : decide (min b d < max a c) = true := by
  have := rgOk_facts h1; have := rgOk_facts h2; simp [apart] at h3; simp; omega
theorem apart_le {a b c d : Int} (h1 : rgOk a b = true) (h2 : rgOk c d = true) (h3 : apart a b c d = false) : decide (min b d < max a c) = false := by
  have := rgOk_facts h1; have := rgOk_facts h2; simp [apart] at h3; simp; omega
theorem retRg2 {a b : Int} {x : Bool} (h : x = false ∧ a = 0 ∧ b = 0) :
    Ending.returned (.tuple #[.agg #[.int .i64 0, .int .i64 0], .bool false]) = .returned (.tuple #[.agg #[.int .i64 a, .int .i64 b], .bool x]) := by
  rw [h.1, h.2.1, h.2.2]

theorem ends_in {a b c d p q r s : Int} (h : Ends a b c d p q r s) (h1 : c ≤ b) (h2 : a ≤ d) : q = max a c ∧ r = min b d := h.2.2 h1 h2

set_option maxHeartbeats 1000000 in
theorem mOk_impl_n1 (a b c d : Int) (w : World) (h1 : rgOk a b = false):
    Calls Tryz.prog 140 #[.agg #[.int .i64 a, .int .i64 b], .agg #[.int .i64 c, .int .i64 d]] w fun e w' => e = .returned (.tuple #[.agg #[.int .i64 (mLo a b c d), .int .i64 (mHi a b c d)], .bool (mOk a b c d)]) ∧ Keep w w' := by
    go_enter Tryz.func140, Tryz.ntmps140
    go_wp2_with fail
    refine (rgMeth a b _).mono ?_
    rintro e w1 ⟨rfl, k1⟩
    have a1_0 : w1.cell? ⟨w.heap.size, 0, none⟩ = some (.int .i64 a) := k1.cell (by first | go_simp)
    have a1_1 : w1.cell? ⟨w.heap.size, 1, none⟩ = some (.int .i64 b) := k1.cell (by first | go_simp)
    have c1_0 : w1.cell? ⟨w.heap.size + 1, 0, none⟩ = some (.int .i64 c) := k1.cell (by first | go_simp)
    have c1_1 : w1.cell? ⟨w.heap.size + 1, 1, none⟩ = some (.int .i64 d) := k1.cell (by first | go_simp)
    have o1_0 : w1.cell? ⟨w.heap.size + 2, 0, none⟩ = some (.int .i64 0) := k1.cell (by first | go_simp)
    have o1f0 : w1.frozen? ⟨w.heap.size + 2, 0, none⟩ = false := k1.still (v := .int .i64 0) (by first | go_simp) (by first | go_simp)
    have o1_1 : w1.cell? ⟨w.heap.size + 2, 1, none⟩ = some (.int .i64 0) := k1.cell (by first | go_simp)
    have o1f1 : w1.frozen? ⟨w.heap.size + 2, 1, none⟩ = false := k1.still (v := .int .i64 0) (by first | go_simp) (by first | go_simp)
    go_wp2
    refine bodyPost_ret (v := .tuple #[.agg #[.int .i64 0, .int .i64 0], .bool false]) (by simp [results, Tryz.results140, go_sem, *]) rfl ⟨retRg2 (nomOk (.inl h1)), ?_⟩
    have hk := (((((Keep.refl w).alloc _).alloc _).alloc _).trans k1)
    exact (hk.setCell (by omega) _).setCell (by omega) _
set_option maxHeartbeats 1000000 in
theorem mOk_impl_n2 (a b c d : Int) (w : World) (h1 : rgOk a b = true) (h2 : rgOk c d = false):
    Calls Tryz.prog 140 #[.agg #[.int .i64 a, .int .i64 b], .agg #[.int .i64 c, .int .i64 d]] w fun e w' => e = .returned (.tuple #[.agg #[.int .i64 (mLo a b c d), .int .i64 (mHi a b c d)], .bool (mOk a b c d)]) ∧ Keep w w' := by
    go_enter Tryz.func140, Tryz.ntmps140
    go_wp2_with fail
    refine (rgMeth a b _).mono ?_
    rintro e w1 ⟨rfl, k1⟩
    have a1_0 : w1.cell? ⟨w.heap.size, 0, none⟩ = some (.int .i64 a) := k1.cell (by first | go_simp)
    have a1_1 : w1.cell? ⟨w.heap.size, 1, none⟩ = some (.int .i64 b) := k1.cell (by first | go_simp)
    have c1_0 : w1.cell? ⟨w.heap.size + 1, 0, none⟩ = some (.int .i64 c) := k1.cell (by first | go_simp)
    have c1_1 : w1.cell? ⟨w.heap.size + 1, 1, none⟩ = some (.int .i64 d) := k1.cell (by first | go_simp)
    have o1_0 : w1.cell? ⟨w.heap.size + 2, 0, none⟩ = some (.int .i64 0) := k1.cell (by first | go_simp)
    have o1f0 : w1.frozen? ⟨w.heap.size + 2, 0, none⟩ = false := k1.still (v := .int .i64 0) (by first | go_simp) (by first | go_simp)
    have o1_1 : w1.cell? ⟨w.heap.size + 2, 1, none⟩ = some (.int .i64 0) := k1.cell (by first | go_simp)
    have o1f1 : w1.frozen? ⟨w.heap.size + 2, 1, none⟩ = false := k1.still (v := .int .i64 0) (by first | go_simp) (by first | go_simp)
    go_wp2_with fail
    refine (rgMeth c d _).mono ?_
    rintro e w2 ⟨rfl, k2⟩
    have a2_0 : w2.cell? ⟨w.heap.size, 0, none⟩ = some (.int .i64 a) := k2.cell (by first | exact a1_0 | go_simp)
    have a2_1 : w2.cell? ⟨w.heap.size, 1, none⟩ = some (.int .i64 b) := k2.cell (by first | exact a1_1 | go_simp)
    have c2_0 : w2.cell? ⟨w.heap.size + 1, 0, none⟩ = some (.int .i64 c) := k2.cell (by first | exact c1_0 | go_simp)
    have c2_1 : w2.cell? ⟨w.heap.size + 1, 1, none⟩ = some (.int .i64 d) := k2.cell (by first | exact c1_1 | go_simp)
    have o2_0 : w2.cell? ⟨w.heap.size + 2, 0, none⟩ = some (.int .i64 0) := k2.cell (by first | exact o1_0 | go_simp)
    have o2f0 : w2.frozen? ⟨w.heap.size + 2, 0, none⟩ = false := k2.still (v := .int .i64 0) (by first | exact o1_0 | go_simp) (by first | exact o1f0 | go_simp)
    have o2_1 : w2.cell? ⟨w.heap.size + 2, 1, none⟩ = some (.int .i64 0) := k2.cell (by first | exact o1_1 | go_simp)
    have o2f1 : w2.frozen? ⟨w.heap.size + 2, 1, none⟩ = false := k2.still (v := .int .i64 0) (by first | exact o1_1 | go_simp) (by first | exact o1f1 | go_simp)
    go_wp2
    refine bodyPost_ret (v := .tuple #[.agg #[.int .i64 0, .int .i64 0], .bool false]) (by simp [results, Tryz.results140, go_sem, *]) rfl ⟨retRg2 (nomOk (.inr (.inl h2))), ?_⟩
    have hk := ((((((Keep.refl w).alloc _).alloc _).alloc _).trans k1).trans k2)
    exact (hk.setCell (by omega) _).setCell (by omega) _
set_option maxHeartbeats 1000000 in
theorem mOk_impl_n3 (a b c d : Int) (w : World) (h1 : rgOk a b = true) (h2 : rgOk c d = true) (h3 : apart a b c d = true):
    Calls Tryz.prog 140 #[.agg #[.int .i64 a, .int .i64 b], .agg #[.int .i64 c, .int .i64 d]] w fun e w' => e = .returned (.tuple #[.agg #[.int .i64 (mLo a b c d), .int .i64 (mHi a b c d)], .bool (mOk a b c d)]) ∧ Keep w w' := by
    go_enter Tryz.func140, Tryz.ntmps140
    go_wp2_with fail
    refine (rgMeth a b _).mono ?_
    rintro e w1 ⟨rfl, k1⟩
    have a1_0 : w1.cell? ⟨w.heap.size, 0, none⟩ = some (.int .i64 a) := k1.cell (by first | go_simp)
    have a1_1 : w1.cell? ⟨w.heap.size, 1, none⟩ = some (.int .i64 b) := k1.cell (by first | go_simp)
    have c1_0 : w1.cell? ⟨w.heap.size + 1, 0, none⟩ = some (.int .i64 c) := k1.cell (by first | go_simp)
    have c1_1 : w1.cell? ⟨w.heap.size + 1, 1, none⟩ = some (.int .i64 d) := k1.cell (by first | go_simp)
    have o1_0 : w1.cell? ⟨w.heap.size + 2, 0, none⟩ = some (.int .i64 0) := k1.cell (by first | go_simp)
    have o1f0 : w1.frozen? ⟨w.heap.size + 2, 0, none⟩ = false := k1.still (v := .int .i64 0) (by first | go_simp) (by first | go_simp)
    have o1_1 : w1.cell? ⟨w.heap.size + 2, 1, none⟩ = some (.int .i64 0) := k1.cell (by first | go_simp)
    have o1f1 : w1.frozen? ⟨w.heap.size + 2, 1, none⟩ = false := k1.still (v := .int .i64 0) (by first | go_simp) (by first | go_simp)
    go_wp2_with fail
    refine (rgMeth c d _).mono ?_
    rintro e w2 ⟨rfl, k2⟩
    have a2_0 : w2.cell? ⟨w.heap.size, 0, none⟩ = some (.int .i64 a) := k2.cell (by first | exact a1_0 | go_simp)
    have a2_1 : w2.cell? ⟨w.heap.size, 1, none⟩ = some (.int .i64 b) := k2.cell (by first | exact a1_1 | go_simp)
    have c2_0 : w2.cell? ⟨w.heap.size + 1, 0, none⟩ = some (.int .i64 c) := k2.cell (by first | exact c1_0 | go_simp)
    have c2_1 : w2.cell? ⟨w.heap.size + 1, 1, none⟩ = some (.int .i64 d) := k2.cell (by first | exact c1_1 | go_simp)
    have o2_0 : w2.cell? ⟨w.heap.size + 2, 0, none⟩ = some (.int .i64 0) := k2.cell (by first | exact o1_0 | go_simp)
    have o2f0 : w2.frozen? ⟨w.heap.size + 2, 0, none⟩ = false := k2.still (v := .int .i64 0) (by first | exact o1_0 | go_simp) (by first | exact o1f0 | go_simp)
    have o2_1 : w2.cell? ⟨w.heap.size + 2, 1, none⟩ = some (.int .i64 0) := k2.cell (by first | exact o1_1 | go_simp)
    have o2f1 : w2.frozen? ⟨w.heap.size + 2, 1, none⟩ = false := k2.still (v := .int .i64 0) (by first | exact o1_1 | go_simp) (by first | exact o1f1 | go_simp)
    go_wp2_with fail
    refine (apart_any a b c d _).mono ?_
    rintro e w3 ⟨rfl, k3⟩
    have a3_0 : w3.cell? ⟨w.heap.size, 0, none⟩ = some (.int .i64 a) := k3.cell (by first | exact a2_0 | go_simp)
    have a3_1 : w3.cell? ⟨w.heap.size, 1, none⟩ = some (.int .i64 b) := k3.cell (by first | exact a2_1 | go_simp)
    have c3_0 : w3.cell? ⟨w.heap.size + 1, 0, none⟩ = some (.int .i64 c) := k3.cell (by first | exact c2_0 | go_simp)
    have c3_1 : w3.cell? ⟨w.heap.size + 1, 1, none⟩ = some (.int .i64 d) := k3.cell (by first | exact c2_1 | go_simp)
    have o3_0 : w3.cell? ⟨w.heap.size + 2, 0, none⟩ = some (.int .i64 0) := k3.cell (by first | exact o2_0 | go_simp)
    have o3f0 : w3.frozen? ⟨w.heap.size + 2, 0, none⟩ = false := k3.still (v := .int .i64 0) (by first | exact o2_0 | go_simp) (by first | exact o2f0 | go_simp)
    have o3_1 : w3.cell? ⟨w.heap.size + 2, 1, none⟩ = some (.int .i64 0) := k3.cell (by first | exact o2_1 | go_simp)
    have o3f1 : w3.frozen? ⟨w.heap.size + 2, 1, none⟩ = false := k3.still (v := .int .i64 0) (by first | exact o2_1 | go_simp) (by first | exact o2f1 | go_simp)
    go_wp2
    refine bodyPost_ret (v := .tuple #[.agg #[.int .i64 0, .int .i64 0], .bool false]) (by simp [results, Tryz.results140, go_sem, *]) rfl ⟨retRg2 (nomOk (.inr (.inr h3))), ?_⟩
    have hk := (((((((Keep.refl w).alloc _).alloc _).alloc _).trans k1).trans k2).trans k3)
    exact (hk.setCell (by omega) _).setCell (by omega) _
set_option maxHeartbeats 1000000 in
theorem mOk_impl_y (a b c d : Int) (w : World) (h1 : rgOk a b = true) (h2 : rgOk c d = true) (h3 : apart a b c d = false):
    Calls Tryz.prog 140 #[.agg #[.int .i64 a, .int .i64 b], .agg #[.int .i64 c, .int .i64 d]] w fun e w' => e = .returned (.tuple #[.agg #[.int .i64 (mLo a b c d), .int .i64 (mHi a b c d)], .bool (mOk a b c d)]) ∧ Keep w w' := by
    have HY := Lib.hid (yesmOk h1 h2 h3)
    have HF1 := Lib.hid (rgOk_facts h1)
    have HF2 := Lib.hid (rgOk_facts h2)
    go_enter Tryz.func140, Tryz.ntmps140
    go_wp2_with fail
    refine (rgMeth a b _).mono ?_
    rintro e w1 ⟨rfl, k1⟩
    have a1_0 : w1.cell? ⟨w.heap.size, 0, none⟩ = some (.int .i64 a) := k1.cell (by first | go_simp)
    have a1_1 : w1.cell? ⟨w.heap.size, 1, none⟩ = some (.int .i64 b) := k1.cell (by first | go_simp)
    have c1_0 : w1.cell? ⟨w.heap.size + 1, 0, none⟩ = some (.int .i64 c) := k1.cell (by first | go_simp)
    have c1_1 : w1.cell? ⟨w.heap.size + 1, 1, none⟩ = some (.int .i64 d) := k1.cell (by first | go_simp)
    have o1_0 : w1.cell? ⟨w.heap.size + 2, 0, none⟩ = some (.int .i64 0) := k1.cell (by first | go_simp)
    have o1f0 : w1.frozen? ⟨w.heap.size + 2, 0, none⟩ = false := k1.still (v := .int .i64 0) (by first | go_simp) (by first | go_simp)
    have o1_1 : w1.cell? ⟨w.heap.size + 2, 1, none⟩ = some (.int .i64 0) := k1.cell (by first | go_simp)
    have o1f1 : w1.frozen? ⟨w.heap.size + 2, 1, none⟩ = false := k1.still (v := .int .i64 0) (by first | go_simp) (by first | go_simp)
    go_wp2_with fail
    refine (rgMeth c d _).mono ?_
    rintro e w2 ⟨rfl, k2⟩
    have a2_0 : w2.cell? ⟨w.heap.size, 0, none⟩ = some (.int .i64 a) := k2.cell (by first | exact a1_0 | go_simp)
    have a2_1 : w2.cell? ⟨w.heap.size, 1, none⟩ = some (.int .i64 b) := k2.cell (by first | exact a1_1 | go_simp)
    have c2_0 : w2.cell? ⟨w.heap.size + 1, 0, none⟩ = some (.int .i64 c) := k2.cell (by first | exact c1_0 | go_simp)
    have c2_1 : w2.cell? ⟨w.heap.size + 1, 1, none⟩ = some (.int .i64 d) := k2.cell (by first | exact c1_1 | go_simp)
    have o2_0 : w2.cell? ⟨w.heap.size + 2, 0, none⟩ = some (.int .i64 0) := k2.cell (by first | exact o1_0 | go_simp)
    have o2f0 : w2.frozen? ⟨w.heap.size + 2, 0, none⟩ = false := k2.still (v := .int .i64 0) (by first | exact o1_0 | go_simp) (by first | exact o1f0 | go_simp)
    have o2_1 : w2.cell? ⟨w.heap.size + 2, 1, none⟩ = some (.int .i64 0) := k2.cell (by first | exact o1_1 | go_simp)
    have o2f1 : w2.frozen? ⟨w.heap.size + 2, 1, none⟩ = false := k2.still (v := .int .i64 0) (by first | exact o1_1 | go_simp) (by first | exact o1f1 | go_simp)
    go_wp2_with fail
    refine (apart_any a b c d _).mono ?_
    rintro e w3 ⟨rfl, k3⟩
    have a3_0 : w3.cell? ⟨w.heap.size, 0, none⟩ = some (.int .i64 a) := k3.cell (by first | exact a2_0 | go_simp)
    have a3_1 : w3.cell? ⟨w.heap.size, 1, none⟩ = some (.int .i64 b) := k3.cell (by first | exact a2_1 | go_simp)
    have c3_0 : w3.cell? ⟨w.heap.size + 1, 0, none⟩ = some (.int .i64 c) := k3.cell (by first | exact c2_0 | go_simp)
    have c3_1 : w3.cell? ⟨w.heap.size + 1, 1, none⟩ = some (.int .i64 d) := k3.cell (by first | exact c2_1 | go_simp)
    have o3_0 : w3.cell? ⟨w.heap.size + 2, 0, none⟩ = some (.int .i64 0) := k3.cell (by first | exact o2_0 | go_simp)
    have o3f0 : w3.frozen? ⟨w.heap.size + 2, 0, none⟩ = false := k3.still (v := .int .i64 0) (by first | exact o2_0 | go_simp) (by first | exact o2f0 | go_simp)
    have o3_1 : w3.cell? ⟨w.heap.size + 2, 1, none⟩ = some (.int .i64 0) := k3.cell (by first | exact o2_1 | go_simp)
    have o3f1 : w3.frozen? ⟨w.heap.size + 2, 1, none⟩ = false := k3.still (v := .int .i64 0) (by first | exact o2_1 | go_simp) (by first | exact o2f1 | go_simp)
    have hk0 := (((((((Keep.refl w).alloc _).alloc _).alloc _).trans k1).trans k2).trans k3)
    go_wp2_with fail
    refine (ends_any a b c d _ (by have := HF1.out; omega) (by have := HF2.out; omega)).mono ?_
    rintro e w4 ⟨p, q, r, s, rfl, he, k4⟩
    have HEnd := Lib.hid he
    clear he
    have o4_0 : w4.cell? ⟨w.heap.size + 2, 0, none⟩ = some (.int .i64 0) := k4.cell (by first | exact o3_0 | go_simp)
    have o4f0 : w4.frozen? ⟨w.heap.size + 2, 0, none⟩ = false := k4.still (v := .int .i64 0) (by first | exact o3_0 | go_simp) (by first | exact o3f0 | go_simp)
    have o4_1 : w4.cell? ⟨w.heap.size + 2, 1, none⟩ = some (.int .i64 0) := k4.cell (by first | exact o3_1 | go_simp)
    have o4f1 : w4.frozen? ⟨w.heap.size + 2, 1, none⟩ = false := k4.still (v := .int .i64 0) (by first | exact o3_1 | go_simp) (by first | exact o3f1 | go_simp)
    have hk := hk0.trans k4
    have hz := hk.size
    have hz2 : w.heap.size + 2 < w4.heap.size := World.block_lt_of_cell? w4 _ o4_0
    go_wp2
    refine bodyPost_ret (v := .tuple #[.agg #[.int .i64 q, .int .i64 r], .bool true]) (by simp [results, Tryz.results140, go_sem, *]) rfl ⟨retRg ?_ ?_ ?_, ?_⟩
    · have := HEnd.out
      have := HF1.out
      have := HF2.out
      simp [apart] at h3
      rw [mLo, HY.out, if_pos rfl]; exact (ends_in HEnd.out h3.1 h3.2).1
    · simp [apart] at h3
      rw [mHi, HY.out, if_pos rfl]; exact (ends_in HEnd.out h3.1 h3.2).2
    · exact HY.out.symm
    · exact ((hk.setCell (by omega) _).setCell (by omega) _).alloc _
theorem mOk_impl (a b c d : Int) (w : World) :
    Calls Tryz.prog 140 #[.agg #[.int .i64 a, .int .i64 b], .agg #[.int .i64 c, .int .i64 d]] w fun e w' => e = .returned (.tuple #[.agg #[.int .i64 (mLo a b c d), .int .i64 (mHi a b c d)], .bool (mOk a b c d)]) ∧ Keep w w' := by
  rcases Bool.eq_false_or_eq_true (rgOk a b) with h1 | h1
  · rcases Bool.eq_false_or_eq_true (rgOk c d) with h2 | h2
    · rcases Bool.eq_false_or_eq_true (apart a b c d) with h3 | h3
      · exact mOk_impl_n3 a b c d w h1 h2 h3
      · exact mOk_impl_y a b c d w h1 h2 h3
    · exact mOk_impl_n2 a b c d w h1 h2
  · exact mOk_impl_n1 a b c d w h1



end Go.Proofs.YtnemdnidlbekbaaGreatDoor
