/- The program's cursor at the texts of series: bulletin. -/
import Derived.Test.YtpdpcnblpcalaaaDoorBcv
namespace Go.Proofs.YtpdpcnblpcalaaaDoor
open Go.RowKit
set_option linter.unusedVariables false

theorem OwnI.base {w : World} {base base' : Nat} {v : Value} {zs : List Int} (h : OwnI w base v zs) (hb : base' ≤ base) : OwnI w base' v zs := by
  refine ⟨h.1, ?_⟩
  rcases h.2 with h2 | ⟨g, cap, cur, h1, h3, h4⟩
  · exact .inl h2
  · exact .inr ⟨g, cap, cur, h1, Nat.le_trans hb h3, h4⟩
theorem only_set (B j : Nat) (W : World) (u : Value) : Only B W (W.setCell ⟨B, j, none⟩ u) :=
  ⟨rfl, rfl, rfl, by simp [World.setCell], fun i _ hne => Below.heap_setCell _ _ _ _ (by simpa using hne)⟩
def BulP (R : List UInt8) (s t f : Int) (zs : List Int) : Prop :=
  ∃ a, R = 98 :: a ∧ numOk (nrun a) = true ∧ numV (nrun a) = s ∧ ∃ b1, a.drop (nrun a).length = 32 :: b1 ∧ ∃ b2, b1 = 107 :: b2 ∧ numOk (nrun b2) = true ∧ numV (nrun b2) = t ∧
    ∃ c1, b2.drop (nrun b2).length = 32 :: c1 ∧ ∃ c2, c1 = 100 :: c2 ∧ numOk (nrun c2) = true ∧ numV (nrun c2) = f ∧ Vals (c2.drop (nrun c2).length) zs
def BulW (w : World) (b : Nat) (s : ByteArray) (R : List UInt8) (e : Ending) (w' : World) : Prop :=
  Only b w w' ∧ ((∃ s' t' f' zs v, BulP R s' t' f' zs ∧ OwnI w' w.heap.size v zs ∧ e = .returned (.tuple #[.agg #[.int .i64 s', .int .i64 t', .int .i64 f', v], .bool true])) ∨
    ((∀ s' t' f' zs, ¬ BulP R s' t' f' zs) ∧ ∃ s' t' f', e = .returned (.tuple #[.agg #[.int .i64 s', .int .i64 t', .int .i64 f', .slice none 0 0], .bool false])))
set_option maxRecDepth 100000 in
set_option maxHeartbeats 3200000 in
theorem bul_R (b : Nat) (s : ByteArray) (R : List UInt8) (w : World) (h : CurR w b s R) :
    Calls Tryd.prog 49 #[.pointer (some ⟨b, 0, none⟩)] w (BulW w b s R) := by
  have hBR := h.lt
  go_enter Tryd.func49, Tryd.ntmps49
  go_wp2_with fail
  refine (word_R b s R 98 _ (h.keep ((Keep.refl w).alloc _))).mono ?_
  rintro e w1 ⟨o1, ⟨a, hR, hn, hc1, rfl⟩ | ⟨hR, _, rfl⟩⟩
  case' inr =>
    have hoN := o1
    have c0 := newCellO hoN hBR 0 _ rfl
    have c1 := newCellO hoN hBR 1 _ rfl
    have c2 := newCellO hoN hBR 2 _ rfl
    have c3 := newCellO hoN hBR 3 _ rfl
    have f0 := newFrozenO hoN hBR 0
    have f1 := newFrozenO hoN hBR 1
    have f2 := newFrozenO hoN hBR 2
    have f3 := newFrozenO hoN hBR 3
    have HOnly := Lib.hid (((Only.refl b w).alloc _).trans hoN)
    have HNO : Hid (∀ s' t' f' zs, ¬ BulP R s' t' f' zs) := Lib.hid (fun s' t' f' zs ⟨a', e, n, _⟩ => by rw [hR a' e] at n; cases n)
    go_wp2
    refine bodyPost_ret (v := .tuple #[.agg #[.int .i64 0, .int .i64 0, .int .i64 0, .slice none 0 0], .bool false]) (by simp [results, Tryd.results49, go_sem, *]) rfl ⟨?_, .inr ⟨HNO.out, _, _, _, rfl⟩⟩
    (repeat' (first | with_reducible exact HOnly.out | with_reducible refine Only.setCell ?_ (by omega) _))
  have HR := Lib.hid hR
  have HN := Lib.hid hn
  clear hR hn
  go_wp2_with fail
  refine (take_R b s _ 32 _ hc1).mono ?_
  rintro e w2 ⟨o2, ⟨b1, hR1, hc2, rfl⟩ | ⟨hR1, _, rfl⟩⟩
  case' inr =>
    have hoN := o1.trans o2
    have c0 := newCellO hoN hBR 0 _ rfl
    have c1 := newCellO hoN hBR 1 _ rfl
    have c2 := newCellO hoN hBR 2 _ rfl
    have c3 := newCellO hoN hBR 3 _ rfl
    have f0 := newFrozenO hoN hBR 0
    have f1 := newFrozenO hoN hBR 1
    have f2 := newFrozenO hoN hBR 2
    have f3 := newFrozenO hoN hBR 3
    have HOnly := Lib.hid (((Only.refl b w).alloc _).trans hoN)
    have HNO : Hid (∀ s' t' f' zs, ¬ BulP R s' t' f' zs) := Lib.hid (fun s' t' f' zs ⟨a', e, n, _, b', e2, _⟩ => by rw [HR.out] at e; obtain rfl := (List.cons.inj e).2; exact hR1 _ e2)
    go_wp2
    refine bodyPost_ret (v := .tuple #[.agg #[.int .i64 0, .int .i64 0, .int .i64 0, .slice none 0 0], .bool false]) (by simp [results, Tryd.results49, go_sem, *]) rfl ⟨?_, .inr ⟨HNO.out, _, _, _, rfl⟩⟩
    (repeat' (first | with_reducible exact HOnly.out | with_reducible refine Only.setCell ?_ (by omega) _))
  have HR1 := Lib.hid hR1
  clear hR1 hc1
  go_wp2_with fail
  refine (word_R b s b1 107 _ hc2).mono ?_
  rintro e w3 ⟨o3, ⟨b2, hR2, hn2, hc3, rfl⟩ | ⟨hR2, _, rfl⟩⟩
  case' inr =>
    have hoN := (o1.trans o2).trans o3
    have c0 := newCellO hoN hBR 0 _ rfl
    have c1 := newCellO hoN hBR 1 _ rfl
    have c2 := newCellO hoN hBR 2 _ rfl
    have c3 := newCellO hoN hBR 3 _ rfl
    have f0 := newFrozenO hoN hBR 0
    have f1 := newFrozenO hoN hBR 1
    have f2 := newFrozenO hoN hBR 2
    have f3 := newFrozenO hoN hBR 3
    have HOnly := Lib.hid (((Only.refl b w).alloc _).trans hoN)
    have HNO : Hid (∀ s' t' f' zs, ¬ BulP R s' t' f' zs) := Lib.hid (fun s' t' f' zs ⟨a', e, n, _, b', e2, b'', e3, n3, _⟩ => by rw [HR.out] at e; obtain rfl := (List.cons.inj e).2; rw [HR1.out] at e2; obtain rfl := (List.cons.inj e2).2; rw [hR2 _ e3] at n3; cases n3)
    go_wp2
    refine bodyPost_ret (v := .tuple #[.agg #[.int .i64 0, .int .i64 0, .int .i64 0, .slice none 0 0], .bool false]) (by simp [results, Tryd.results49, go_sem, *]) rfl ⟨?_, .inr ⟨HNO.out, _, _, _, rfl⟩⟩
    (repeat' (first | with_reducible exact HOnly.out | with_reducible refine Only.setCell ?_ (by omega) _))
  have HR2 := Lib.hid hR2
  have HN2 := Lib.hid hn2
  clear hR2 hn2 hc2
  go_wp2_with fail
  refine (take_R b s _ 32 _ hc3).mono ?_
  rintro e w4 ⟨o4, ⟨c1', hR3, hc4, rfl⟩ | ⟨hR3, _, rfl⟩⟩
  case' inr =>
    have hoN := ((o1.trans o2).trans o3).trans o4
    have c0 := newCellO hoN hBR 0 _ rfl
    have c1 := newCellO hoN hBR 1 _ rfl
    have c2 := newCellO hoN hBR 2 _ rfl
    have c3 := newCellO hoN hBR 3 _ rfl
    have f0 := newFrozenO hoN hBR 0
    have f1 := newFrozenO hoN hBR 1
    have f2 := newFrozenO hoN hBR 2
    have f3 := newFrozenO hoN hBR 3
    have HOnly := Lib.hid (((Only.refl b w).alloc _).trans hoN)
    have HNO : Hid (∀ s' t' f' zs, ¬ BulP R s' t' f' zs) := Lib.hid (fun s' t' f' zs ⟨a', e, n, _, b', e2, b'', e3, n3, _, c', e4, _⟩ => by rw [HR.out] at e; obtain rfl := (List.cons.inj e).2; rw [HR1.out] at e2; obtain rfl := (List.cons.inj e2).2; rw [HR2.out] at e3; obtain rfl := (List.cons.inj e3).2; exact hR3 _ e4)
    go_wp2
    refine bodyPost_ret (v := .tuple #[.agg #[.int .i64 0, .int .i64 0, .int .i64 0, .slice none 0 0], .bool false]) (by simp [results, Tryd.results49, go_sem, *]) rfl ⟨?_, .inr ⟨HNO.out, _, _, _, rfl⟩⟩
    (repeat' (first | with_reducible exact HOnly.out | with_reducible refine Only.setCell ?_ (by omega) _))
  have HR3 := Lib.hid hR3
  clear hR3 hc3
  go_wp2_with fail
  refine (word_R b s c1' 100 _ hc4).mono ?_
  rintro e w5 ⟨o5, ⟨c2', hR4, hn4, hc5, rfl⟩ | ⟨hR4, _, rfl⟩⟩
  case' inr =>
    have hoN := (((o1.trans o2).trans o3).trans o4).trans o5
    have c0 := newCellO hoN hBR 0 _ rfl
    have c1 := newCellO hoN hBR 1 _ rfl
    have c2 := newCellO hoN hBR 2 _ rfl
    have c3 := newCellO hoN hBR 3 _ rfl
    have f0 := newFrozenO hoN hBR 0
    have f1 := newFrozenO hoN hBR 1
    have f2 := newFrozenO hoN hBR 2
    have f3 := newFrozenO hoN hBR 3
    have HOnly := Lib.hid (((Only.refl b w).alloc _).trans hoN)
    have HNO : Hid (∀ s' t' f' zs, ¬ BulP R s' t' f' zs) := Lib.hid (fun s' t' f' zs ⟨a', e, n, _, b', e2, b'', e3, n3, _, c', e4, c'', e5, n5, _⟩ => by rw [HR.out] at e; obtain rfl := (List.cons.inj e).2; rw [HR1.out] at e2; obtain rfl := (List.cons.inj e2).2; rw [HR2.out] at e3; obtain rfl := (List.cons.inj e3).2; rw [HR3.out] at e4; obtain rfl := (List.cons.inj e4).2; rw [hR4 _ e5] at n5; cases n5)
    go_wp2
    refine bodyPost_ret (v := .tuple #[.agg #[.int .i64 0, .int .i64 0, .int .i64 0, .slice none 0 0], .bool false]) (by simp [results, Tryd.results49, go_sem, *]) rfl ⟨?_, .inr ⟨HNO.out, _, _, _, rfl⟩⟩
    (repeat' (first | with_reducible exact HOnly.out | with_reducible refine Only.setCell ?_ (by omega) _))
  have HR4 := Lib.hid hR4
  have HN4 := Lib.hid hn4
  clear hR4 hn4 hc4
  have hlt5 : w.heap.size < w5.heap.size := by
    have := ((((o1.trans o2).trans o3).trans o4).trans o5).size
    simp at this; omega
  go_wp2_with fail
  refine (values_R b s _ _ hc5).mono ?_
  rintro e w6 ⟨o6, ⟨zs, v, hvs, hO, _, rfl⟩ | ⟨hno, rfl⟩⟩
  · obtain ⟨av, cv, rfl, _⟩ := hO.ls
    have HO := Lib.hid hO
    have HP : Hid (BulP R (numV (nrun a)) (numV (nrun b2)) (numV (nrun c2')) zs) := Lib.hid ⟨a, HR.out, HN.out, rfl, b1, HR1.out, b2, HR2.out, HN2.out, rfl, c1', HR3.out, c2', HR4.out, HN4.out, rfl, hvs⟩
    clear hvs hO
    have hoN := ((((o1.trans o2).trans o3).trans o4).trans o5).trans o6
    have c0 := newCellO hoN hBR 0 _ rfl
    have c1 := newCellO hoN hBR 1 _ rfl
    have c2 := newCellO hoN hBR 2 _ rfl
    have c3 := newCellO hoN hBR 3 _ rfl
    have f0 := newFrozenO hoN hBR 0
    have f1 := newFrozenO hoN hBR 1
    have f2 := newFrozenO hoN hBR 2
    have f3 := newFrozenO hoN hBR 3
    have HOnly := Lib.hid (((Only.refl b w).alloc _).trans hoN)
    go_wp2
    refine bodyPost_ret (v := .tuple #[.agg #[.int .i64 (numV (nrun a)), .int .i64 (numV (nrun b2)), .int .i64 (numV (nrun c2')), .slice av zs.length cv], .bool true]) (by simp [results, Tryd.results49, go_sem, *]) rfl ⟨?_, .inl ⟨_, _, _, _, _, HP.out, ?_, rfl⟩⟩
    · (repeat' (first | with_reducible exact HOnly.out | with_reducible refine Only.setCell ?_ (by omega) _))
    · refine OwnI.base (OwnI.only (B := w.heap.size) HO.out ?_ hlt5) (by omega)
      (repeat' (first | with_reducible exact Only.refl _ _ | with_reducible refine Only.trans ?_ (only_set _ _ _ _)))
  · have hno' := Lib.hid hno
    clear hno
    have hoN := ((((o1.trans o2).trans o3).trans o4).trans o5).trans o6
    have c0 := newCellO hoN hBR 0 _ rfl
    have c1 := newCellO hoN hBR 1 _ rfl
    have c2 := newCellO hoN hBR 2 _ rfl
    have c3 := newCellO hoN hBR 3 _ rfl
    have f0 := newFrozenO hoN hBR 0
    have f1 := newFrozenO hoN hBR 1
    have f2 := newFrozenO hoN hBR 2
    have f3 := newFrozenO hoN hBR 3
    have HOnly := Lib.hid (((Only.refl b w).alloc _).trans hoN)
    have HNO : Hid (∀ s' t' f' zs, ¬ BulP R s' t' f' zs) := Lib.hid (fun s' t' f' zs ⟨a', e, n, _, b', e2, b'', e3, n3, _, c', e4, c'', e5, n5, _, hv⟩ => by rw [HR.out] at e; obtain rfl := (List.cons.inj e).2; rw [HR1.out] at e2; obtain rfl := (List.cons.inj e2).2; rw [HR2.out] at e3; obtain rfl := (List.cons.inj e3).2; rw [HR3.out] at e4; obtain rfl := (List.cons.inj e4).2; rw [HR4.out] at e5; obtain rfl := (List.cons.inj e5).2; exact hno'.out _ hv)
    go_wp2
    refine bodyPost_ret (v := .tuple #[.agg #[.int .i64 (numV (nrun a)), .int .i64 (numV (nrun b2)), .int .i64 (numV (nrun c2')), .slice none 0 0], .bool false]) (by simp [results, Tryd.results49, go_sem, *]) rfl ⟨?_, .inr ⟨HNO.out, _, _, _, rfl⟩⟩
    (repeat' (first | with_reducible exact HOnly.out | with_reducible refine Only.setCell ?_ (by omega) _))
end Go.Proofs.YtpdpcnblpcalaaaDoor
