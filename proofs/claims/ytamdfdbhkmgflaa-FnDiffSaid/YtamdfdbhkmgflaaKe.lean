/- Keys made compact: slices.Compact of keys, in a block that may be written. -/
import Derived.Test.YtamdfdbhkmgflaaKa
import Derived.Lib.SliceRun
import Derived.LoopTactic
import Derived.IntWalk
namespace Go.Proofs.Ytamdfdbhkmgflaa
open Go.RowKit
set_option linter.unusedVariables false

/-- The cells of n keys that are nought. -/
def zk (n : Nat) : List Value := (Builtin.zeroCells #[.int .i64 0, .int .i64 0, .int .i64 0] n).toList
theorem zk_len (n : Nat) : (zk n).length = n * 3 := by simp [zk, Builtin.zeroCells]
theorem zk_one (n : Nat) : ∀ v ∈ zk n, v.oneCell' = true := by
  intro v hv
  simp only [zk, Builtin.zeroCells, Array.toList_map, List.mem_map] at hv
  obtain ⟨i, _, rfl⟩ := hv
  have h : i % 3 = 0 ∨ i % 3 = 1 ∨ i % 3 = 2 := by omega
  show (#[Value.int .i64 0, .int .i64 0, .int .i64 0][i % 3]!).oneCell' = true
  rcases h with h | h | h <;> rw [h] <;> rfl
theorem zeroK (w : World) : (zeroValue 33).run Try.prog w = .ok (.agg #[.int .i64 0, .int .i64 0, .int .i64 0]) w := by kernel_rfl
theorem clearK (w : World) (ty : TypeId) (g o n c : Nat) (hn : 0 < n) (hc : ∀ j, j < n * 3 → (w.cell? ⟨g, o + j, none⟩).isSome = true) (hf : ∀ j, j < n * 3 → w.frozen? ⟨g, o + j, none⟩ = false) :
    (Builtin.clear_ #[26] ty #[.slice (some ⟨g, o, none⟩) n c]).run Try.prog w = .ok (.tuple #[]) (w.setCells g o (zk n)) := by
  have hst := run_storeCells_cells (P := Try.prog) g o (zk n) 0 w (by rw [zk_len]; simpa using hc) (by rw [zk_len]; simpa using hf) (zk_one n)
  simp only [Nat.add_zero] at hst
  obtain ⟨m, rfl⟩ : ∃ m, n = m + 1 := ⟨n - 1, by omega⟩
  have e : (Builtin.zeroCells (Value.agg #[.int .i64 0, .int .i64 0, .int .i64 0]).cells (m + 1)).toList = zk (m + 1) := rfl
  simp [Builtin.clear_, e, hst]
theorem wrK_part {w : World} {g : Nat} {ys : List K3} (h : WrK w g ys) (n : Nat) : WrK w g (ys.take n) := by
  intro j hj
  rw [List.length_take] at hj
  have := h j (by omega)
  have e : (ys.take n).getD j k0 = ys.getD j k0 := by simp [List.getD_eq_getElem?_getD, (show j < n by omega)]
  rw [e]; exact this
theorem wrK_clear {w : World} {g : Nat} {ys : List K3} (h : WrK w g ys) (n : Nat) (vs : List Value) : WrK (w.setCells g (n * 3) vs) g (ys.take n) := by
  intro j hj
  have h2 := wrK_part h n j hj
  rw [List.length_take] at hj
  have f : ∀ t, t < 3 → (w.setCells g (n * 3) vs).cell? ⟨g, j * 3 + t, none⟩ = w.cell? ⟨g, j * 3 + t, none⟩ := fun t ht => World.cell?_setCells_out g _ (n * 3) w ⟨g, j * 3 + t, none⟩ (fun _ _ => .inl (by show j * 3 + t < n * 3; omega))
  exact ⟨⟨(f 0 (by omega)).trans h2.1.s, (f 1 (by omega)).trans h2.1.d, (f 2 (by omega)).trans h2.1.k⟩, ⟨(World.frozen?_setCells _ _ _ _ _).trans h2.2.f0, (World.frozen?_setCells _ _ _ _ _).trans h2.2.f1, (World.frozen?_setCells _ _ _ _ _).trans h2.2.f2⟩⟩
theorem only_setK {w : World} {g : Nat} : ∀ (vs : List Value) (o : Nat) (w' : World), Only g w w' → Only g w (w'.setCells g o vs)
  | [], _, _, h => h
  | v :: vs, o, w', h => only_setK vs (o + 1) _ (h.put1 o v)
theorem wrK_some {w : World} {g : Nat} {ys : List K3} (h : WrK w g ys) {j : Nat} (hj : j < ys.length * 3) : (w.cell? ⟨g, j, none⟩).isSome = true ∧ w.frozen? ⟨g, j, none⟩ = false := by
  obtain ⟨h1, h2⟩ := h (j / 3) (by omega)
  have e : j = j / 3 * 3 + j % 3 := by omega
  have h4 : j % 3 = 0 ∨ j % 3 = 1 ∨ j % 3 = 2 := by omega
  rw [e]
  rcases h4 with h4 | h4 | h4 <;> rw [h4]
  · exact ⟨by rw [show w.cell? ⟨g, j / 3 * 3 + 0, none⟩ = _ from h1.s]; rfl, h2.f0⟩
  · exact ⟨by rw [h1.d]; rfl, h2.f1⟩
  · exact ⟨by rw [h1.k]; rfl, h2.f2⟩
theorem kset_snoc {ys : List K3} {n : Nat} (h : n < ys.length) (x : K3) : (ys.set n x).take (n + 1) = ys.take n ++ [x] := by
  rw [List.take_succ_eq_append_getElem (by simpa using h)]
  simp [List.take_set_of_le]
theorem k_case (x y : K3) : (x ≠ y ∧ (kS x == kS y) = false) ∨ (x ≠ y ∧ (kS x == kS y) = true ∧ (kD x == kD y) = false) ∨ (x ≠ y ∧ (kS x == kS y) = true ∧ (kD x == kD y) = true ∧ (kT x == kT y) = false) ∨ x = y := by
  by_cases h : x = y
  · exact .inr (.inr (.inr h))
  · by_cases h1 : kS x = kS y
    · by_cases h2 : kD x = kD y
      · by_cases h3 : kT x = kT y
        · exact absurd (K3.ext' h1 h2 h3) h
        · exact .inr (.inr (.inl ⟨h, by simp [h1], by simp [h2], by simp [h3]⟩))
      · exact .inr (.inl ⟨h, by simp [h1], by simp [h2]⟩)
    · exact .inl ⟨h, by simp [h1]⟩
theorem kcp2 (a b : K3) (l : List K3) : kcp (a :: b :: l) = if a = b then kcp (b :: l) else a :: kcp (b :: l) := by rw [kcp]
/-- One more element made compact. -/
theorem kcp_snoc : ∀ (l : List K3) (a b : K3), kcp (l ++ [a, b]) = if a = b then kcp (l ++ [a]) else kcp (l ++ [a]) ++ [b]
  | [], a, b => by
    show kcp [a, b] = if a = b then [a] else [a] ++ [b]
    rw [kcp2]
    split
    · rename_i h; subst h; rfl
    · rfl
  | [x], a, b => by
    have ih := kcp_snoc [] a b
    simp only [List.nil_append] at ih
    show kcp (x :: a :: [b]) = if a = b then kcp (x :: a :: []) else kcp (x :: a :: []) ++ [b]
    rw [kcp2 x a [b], kcp2 x a [], ih]
    split <;> split <;> rfl
  | x :: y :: l, a, b => by
    have ih := kcp_snoc (y :: l) a b
    simp only [List.cons_append] at ih ⊢
    rw [kcp2 x y, kcp2 x y, ih]
    split <;> split <;> rfl
theorem kcp_take {ys : List K3} {k : Nat} (h1 : 1 ≤ k) (h : k < ys.length) : kcp (ys.take (k + 1)) = if ys.getD (k - 1) k0 = ys.getD k k0 then kcp (ys.take k) else kcp (ys.take k) ++ [ys.getD k k0] := by
  have e1 : ys.take (k + 1) = ys.take (k - 1) ++ [ys.getD (k - 1) k0, ys.getD k k0] := by
    obtain ⟨k, rfl⟩ : ∃ m, k = m + 1 := ⟨k - 1, by omega⟩
    rw [List.take_succ_eq_append_getElem h, List.take_succ_eq_append_getElem (show k < ys.length by omega), List.append_assoc]
    simp [List.getD_eq_getElem?_getD, h, (show k < ys.length by omega)]
  have e2 : ys.take k = ys.take (k - 1) ++ [ys.getD (k - 1) k0] := by
    obtain ⟨k, rfl⟩ : ∃ m, k = m + 1 := ⟨k - 1, by omega⟩
    rw [List.take_succ_eq_append_getElem (show k < ys.length by omega)]
    simp [List.getD_eq_getElem?_getD, (show k < ys.length by omega)]
  rw [e1, kcp_snoc, e2]
theorem kcp_len : ∀ l : List K3, (kcp l).length ≤ l.length
  | [] => Nat.le_refl _
  | [a] => Nat.le_refl _
  | a :: b :: l => by
    have ih := kcp_len (b :: l)
    rw [kcp]; split <;> simp only [List.length_cons] at * <;> omega
end Go.Proofs.Ytamdfdbhkmgflaa
