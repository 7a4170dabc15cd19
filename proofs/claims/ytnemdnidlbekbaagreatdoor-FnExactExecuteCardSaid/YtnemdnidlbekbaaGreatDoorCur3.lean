/- The program's parser of reports: it answers what 'Parsed' says. -/
import Derived.Test.YtnemdnidlbekbaaGreatDoorCur2
import Derived.Test.YtnemdnidlbekbaaGreatDoorRep
namespace Go.Proofs.YtnemdnidlbekbaaGreatDoor
open Go.RowKit
set_option linter.unusedVariables false

theorem idx_letter (c : UInt8) : Lib.indexByte [116, 114, 112] c = letter c - 1 := by
  by_cases h1 : c = 116
  · subst h1; rfl
  · by_cases h2 : c = 114
    · subst h2; rfl
    · by_cases h3 : c = 112
      · subst h3; rfl
      · have e1 : ((116 : UInt8) == c) = false := by simpa using fun h => h1 h.symm
        have e2 : ((114 : UInt8) == c) = false := by simpa using fun h => h2 h.symm
        have e3 : ((112 : UInt8) == c) = false := by simpa using fun h => h3 h.symm
        simp [Lib.indexByte, e1, e2, e3, letter, h1, h2, h3]
theorem letter_bound (c : UInt8) : 0 ≤ letter c ∧ letter c ≤ 3 := by
  unfold letter; split <;> (try split) <;> (try split) <;> omega

theorem idx_any (c : UInt8) (w : World) :
    Calls Tryz.prog 119 #[.string ⟨#[116, 114, 112]⟩, .int .u8 (c.toNat : Int)] w fun e w' => e = .returned (.int .i64 (letter c - 1)) ∧ w' = w := by
  refine (Tryz.strings_IndexByte ⟨#[116, 114, 112]⟩ c.toNat w).mono fun e w' ⟨he, hw⟩ => ⟨?_, hw⟩
  rw [he, ← idx_letter]
  simp

/-- What 'kind' leaves. -/
def KindR (w : World) (b : Nat) (s : ByteArray) (R : List UInt8) (e : Ending) (w' : World) : Prop :=
  Only b w w' ∧ ((∃ c t, R = c :: t ∧ 1 ≤ letter c ∧ CurR w' b s t ∧ e = .returned (.tuple #[.int .i64 (letter c), .bool true])) ∨
    ((∀ c t, R = c :: t → ¬ 1 ≤ letter c) ∧ (∃ R', CurR w' b s R') ∧ e = .returned (.tuple #[.int .i64 0, .bool false])))

set_option maxHeartbeats 1000000 in
theorem kind_R (b : Nat) (s : ByteArray) (R : List UInt8) (w : World) (h : CurR w b s R) :
    Calls Tryz.prog 94 #[.pointer (some ⟨b, 0, none⟩)] w (KindR w b s R) := by
  obtain ⟨p, hc, hR⟩ := h
  have hp : p ≤ s.size := hc.2.2.2.2.1
  have hp2 : s.size ≤ 1048576 := hc.2.2.2.2.2
  by_cases he : p = s.size
  · subst he
    have hR' : Hid (R = []) := Lib.hid (by rw [← hR]; exact drop_none (Nat.le_refl _))
    clear hR
    go_enter Tryz.func94, Tryz.ntmps94
    go_wp2_with fail
    refine (done_yes b s w hc).mono ?_
    rintro e w1 ⟨rfl, n, rfl⟩
    go_wp2
    go_ret2
    exact ⟨(Only.refl b w).drewN n, .inr ⟨fun c t ht => by (rw [hR'.out] at ht; cases ht), ⟨_, _, hc.drewN n, rfl⟩, rfl⟩⟩
  · have hlt : p < s.size := by omega
    have hlti : (p : Int) < s.size := by omega
    have hd : Hid (R = s[p] :: s.data.toList.drop (p + 1)) := Lib.hid (by rw [← hR]; exact drop_some hlt)
    obtain ⟨lb1, lb2⟩ := letter_bound s[p]
    clear hR
    by_cases hl : 1 ≤ letter s[p]
    · have ht : decide (letter s[p] - 1 < 0) = false := by simp; omega
      go_enter Tryz.func94, Tryz.ntmps94
      go_wp2_with fail
      refine (done_no b p s w hc hlt).mono ?_
      rintro e w1 ⟨rfl, n, hw⟩
      have hc1 : Cur w1 b s p := by rw [hw]; exact hc.drewN n
      have ho1 : Only b w w1 := by rw [hw]; exact (Only.refl b w).drewN n
      clear hw
      have HST := Lib.hid (fun n => (hc1.drewN n).step hlt)
      obtain ⟨c0, c1, f1, hb, _, _⟩ := id hc1
      go_wp2_with fail
      go_quiet ((go_at_call 119; exact Calls.quiet_of_same (idx_any _ _)))
      go_wp2
      go_ret2
      exact ⟨(ho1.drewN _).trans (HST.out _).2, .inl ⟨_, _, hd.out, hl, ⟨_, (HST.out _).1, rfl⟩, by simp; omega⟩⟩
    · have ht : decide (letter s[p] - 1 < 0) = true := by simp; omega
      go_enter Tryz.func94, Tryz.ntmps94
      go_wp2_with fail
      refine (done_no b p s w hc hlt).mono ?_
      rintro e w1 ⟨rfl, n, hw⟩
      have hc1 : Cur w1 b s p := by rw [hw]; exact hc.drewN n
      have ho1 : Only b w w1 := by rw [hw]; exact (Only.refl b w).drewN n
      clear hw
      have HST := Lib.hid (fun n => (hc1.drewN n).step hlt)
      obtain ⟨c0, c1, f1, hb, _, _⟩ := id hc1
      go_wp2_with fail
      go_quiet ((go_at_call 119; exact Calls.quiet_of_same (idx_any _ _)))
      go_wp2
      go_ret2
      exact ⟨ho1.drewN _, .inr ⟨fun c t htt => by (rw [hd.out] at htt; rw [← (List.cons.inj htt).1]; omega), ⟨_, _, hc1.drewN _, rfl⟩, rfl⟩⟩

/-- A report at a text's beginning, with R' behind it. -/
def ReadRep (R : List UInt8) (s d k v : Int) (R' : List UInt8) : Prop :=
  ∃ t, R = 115 :: t ∧ numOk (nrun t) = true ∧ numV (nrun t) = s ∧ ∃ t2, t.drop (nrun t).length = 32 :: 100 :: t2 ∧ numOk (nrun t2) = true ∧ numV (nrun t2) = d ∧
    ∃ c t3, t2.drop (nrun t2).length = 32 :: c :: t3 ∧ letter c = k ∧ 1 ≤ k ∧ numOk (nrun t3) = true ∧ numV (nrun t3) = v ∧ t3.drop (nrun t3).length = R'
theorem rep_read (l : List UInt8) (s d k v : Int) : Rep l s d k v ↔ ReadRep l s d k v [] := by
  constructor
  · rintro ⟨t, h0, h1, h2, t2, h3, h4, h5, c, t3, h6, h7, h8, h9, h10, h11⟩
    exact ⟨t, h0, h1, h2, t2, h3, h4, h5, c, t3, h6, h7, h8, h9, h10, h11⟩
  · rintro ⟨t, h0, h1, h2, t2, h3, h4, h5, c, t3, h6, h7, h8, h9, h10, h11⟩
    exact ⟨t, h0, h1, h2, t2, h3, h4, h5, c, t3, h6, h7, h8, h9, h10, h11⟩
theorem ReadRep.unique {l R R' : List UInt8} {s d k v s' d' k' v' : Int} (h : ReadRep l s d k v R) (h' : ReadRep l s' d' k' v' R') : s = s' ∧ d = d' ∧ k = k' ∧ v = v' ∧ R = R' := by
  obtain ⟨t, rfl, _, e1, t2, e2, _, e3, c, t3, e4, e5, _, _, e6, e7⟩ := h
  obtain ⟨t', he, _, f1, t2', f2, _, f3, c', t3', f4, f5, _, _, f6, f7⟩ := h'
  simp at he
  subst he
  rw [e2] at f2
  simp at f2
  subst f2
  rw [e4] at f4
  simp at f4
  obtain ⟨rfl, rfl⟩ := f4
  exact ⟨e1.symm.trans f1, e3.symm.trans f3, e5.symm.trans f5, e6.symm.trans f6, e7.symm.trans f7⟩

/-- What 'report' leaves. -/
def RepR (w : World) (b : Nat) (s : ByteArray) (R : List UInt8) (e : Ending) (w' : World) : Prop :=
  Only b w w' ∧ ((∃ s' d k v R', ReadRep R s' d k v R' ∧ CurR w' b s R' ∧ e = .returned (.tuple #[.agg #[.int .i64 s', .int .i64 d, .int .i64 k, .int .i64 v], .bool true])) ∨
    ((∀ s' d k v R', ¬ ReadRep R s' d k v R') ∧ (∃ R', CurR w' b s R') ∧ e = .returned (.tuple #[.agg #[.int .i64 0, .int .i64 0, .int .i64 0, .int .i64 0], .bool false])))

theorem CurR.alloc {w : World} {b : Nat} {s : ByteArray} {R : List UInt8} (h : CurR w b s R) (o : Obj) : CurR (w.alloc o) b s R := h.keep ((Keep.refl w).alloc o)
theorem CurR.setCell {w : World} {b : Nat} {s : ByteArray} {R : List UInt8} (h : CurR w b s R) {c o : Nat} (hne : c ≠ b) (u : Value) : CurR (w.setCell ⟨c, o, none⟩ u) b s R := by
  obtain ⟨p, ⟨c0, c1, f1, hb, h1, h2⟩, hR⟩ := h
  refine ⟨p, ⟨?_, ?_, ?_, by simpa [World.setCell] using hb, h1, h2⟩, hR⟩
  · rw [World.cell?_setCell_other _ _ _ _ (by intro h; simp only [Addr.mk.injEq] at h; omega)]; exact c0
  · rw [World.cell?_setCell_other _ _ _ _ (by intro h; simp only [Addr.mk.injEq] at h; omega)]; exact c1
  · rw [World.frozen?_setCell]; exact f1

set_option maxRecDepth 100000 in
set_option maxHeartbeats 4000000 in
theorem report_R (b : Nat) (s : ByteArray) (R : List UInt8) (w : World) (h : CurR w b s R) :
    Calls Tryz.prog 70 #[.pointer (some ⟨b, 0, none⟩)] w (RepR w b s R) := by
  have hb := h.lt
  have hne : w.heap.size ≠ b := by omega
  go_enter Tryz.func70, Tryz.ntmps70
  go_wp2_with fail
  refine (word_R b s R 115 _ (h.alloc _)).mono ?_
  rintro e w1 ⟨ho1, ⟨t, hR, hn1, hc1, rfl⟩ | ⟨hR, ⟨R1, hc1⟩, rfl⟩⟩
  case' inr =>
    have HR := Lib.hid hR
    clear hR
    have r0 := newCellO ho1 hb 0 _ rfl
    have g0 := newFrozenO ho1 hb 0
    have r1 := newCellO ho1 hb 1 _ rfl
    have g1 := newFrozenO ho1 hb 1
    have r2 := newCellO ho1 hb 2 _ rfl
    have g2 := newFrozenO ho1 hb 2
    have r3 := newCellO ho1 hb 3 _ rfl
    have g3 := newFrozenO ho1 hb 3
    go_wp2
    refine bodyPost_ret (v := .tuple #[.agg #[.int .i64 0, .int .i64 0, .int .i64 0, .int .i64 0], .bool false]) (by simp [results, Tryz.results70, go_sem, *]) rfl ⟨?_, .inr ⟨?_, ?_, rfl⟩⟩
    · have hfin := ((Only.refl b w).alloc _).trans ho1
      exact ((((hfin.setCell (Nat.le_refl _) _).setCell (Nat.le_refl _) _).setCell (Nat.le_refl _) _).setCell (Nat.le_refl _) _)
    · rintro s' d k v R' ⟨t, h0, h1, _⟩; rw [HR.out t h0] at h1; cases h1
    · exact ⟨_, ((((hc1.setCell hne _).setCell hne _).setCell hne _).setCell hne _)⟩
  case' inl =>
    have HR := Lib.hid hR
    have HN1 := Lib.hid hn1
    clear hR hn1
    go_wp2_with fail
    refine (take_R b s _ 32 _ hc1).mono ?_
    rintro e w2 ⟨ho2, ⟨t', hT, hc2, rfl⟩ | ⟨hT, hc2, rfl⟩⟩
    case' inr =>
      have HT := Lib.hid hT
      have ho := ho1.trans ho2
      clear hT
      have r0 := newCellO ho hb 0 _ rfl
      have g0 := newFrozenO ho hb 0
      have r1 := newCellO ho hb 1 _ rfl
      have g1 := newFrozenO ho hb 1
      have r2 := newCellO ho hb 2 _ rfl
      have g2 := newFrozenO ho hb 2
      have r3 := newCellO ho hb 3 _ rfl
      have g3 := newFrozenO ho hb 3
      go_wp2
      refine bodyPost_ret (v := .tuple #[.agg #[.int .i64 0, .int .i64 0, .int .i64 0, .int .i64 0], .bool false]) (by simp [results, Tryz.results70, go_sem, *]) rfl ⟨?_, .inr ⟨?_, ?_, rfl⟩⟩
      · have hfin := ((Only.refl b w).alloc _).trans ho
        exact ((((hfin.setCell (Nat.le_refl _) _).setCell (Nat.le_refl _) _).setCell (Nat.le_refl _) _).setCell (Nat.le_refl _) _)
      · rintro s' d k v R' ⟨u, h0, h1, h2, t2, h3, _⟩; rw [HR.out] at h0; rw [← (List.cons.inj h0).2] at h3; exact HT.out _ h3
      · exact ⟨_, ((((hc2.setCell hne _).setCell hne _).setCell hne _).setCell hne _)⟩
    case' inl =>
      have HT := Lib.hid hT
      clear hT
      go_wp2_with fail
      refine (word_R b s t' 100 _ hc2).mono ?_
      rintro e w3 ⟨ho3, ⟨t2, hU, hn2, hc3, rfl⟩ | ⟨hU, ⟨R3, hc3⟩, rfl⟩⟩
      case' inr =>
        have HU := Lib.hid hU
        have ho := (ho1.trans ho2).trans ho3
        clear hU
        have r0 := newCellO ho hb 0 _ rfl
        have g0 := newFrozenO ho hb 0
        have r1 := newCellO ho hb 1 _ rfl
        have g1 := newFrozenO ho hb 1
        have r2 := newCellO ho hb 2 _ rfl
        have g2 := newFrozenO ho hb 2
        have r3 := newCellO ho hb 3 _ rfl
        have g3 := newFrozenO ho hb 3
        go_wp2
        refine bodyPost_ret (v := .tuple #[.agg #[.int .i64 0, .int .i64 0, .int .i64 0, .int .i64 0], .bool false]) (by simp [results, Tryz.results70, go_sem, *]) rfl ⟨?_, .inr ⟨?_, ?_, rfl⟩⟩
        · have hfin := ((Only.refl b w).alloc _).trans ho
          exact ((((hfin.setCell (Nat.le_refl _) _).setCell (Nat.le_refl _) _).setCell (Nat.le_refl _) _).setCell (Nat.le_refl _) _)
        · rintro s' d k v R' ⟨u, h0, h1, h2, t2, h3, h4, _⟩; rw [HR.out] at h0; rw [← (List.cons.inj h0).2, HT.out] at h3; rw [HU.out t2 (List.cons.inj h3).2] at h4; cases h4
        · exact ⟨_, ((((hc3.setCell hne _).setCell hne _).setCell hne _).setCell hne _)⟩
      case' inl =>
        have HU := Lib.hid hU
        have HN2 := Lib.hid hn2
        clear hU hn2
        go_wp2_with fail
        refine (take_R b s _ 32 _ hc3).mono ?_
        rintro e w4 ⟨ho4, ⟨t4, hV, hc4, rfl⟩ | ⟨hV, hc4, rfl⟩⟩
        case' inr =>
          have HV := Lib.hid hV
          have ho := ((ho1.trans ho2).trans ho3).trans ho4
          clear hV
          have r0 := newCellO ho hb 0 _ rfl
          have g0 := newFrozenO ho hb 0
          have r1 := newCellO ho hb 1 _ rfl
          have g1 := newFrozenO ho hb 1
          have r2 := newCellO ho hb 2 _ rfl
          have g2 := newFrozenO ho hb 2
          have r3 := newCellO ho hb 3 _ rfl
          have g3 := newFrozenO ho hb 3
          go_wp2
          refine bodyPost_ret (v := .tuple #[.agg #[.int .i64 0, .int .i64 0, .int .i64 0, .int .i64 0], .bool false]) (by simp [results, Tryz.results70, go_sem, *]) rfl ⟨?_, .inr ⟨?_, ?_, rfl⟩⟩
          · have hfin := ((Only.refl b w).alloc _).trans ho
            exact ((((hfin.setCell (Nat.le_refl _) _).setCell (Nat.le_refl _) _).setCell (Nat.le_refl _) _).setCell (Nat.le_refl _) _)
          · rintro s' d k v R' ⟨u, h0, h1, h2, t2', h3, h4, h5, c, t3, h6, _⟩; rw [HR.out] at h0; rw [← (List.cons.inj h0).2, HT.out, HU.out] at h3; rw [← (List.cons.inj (List.cons.inj h3).2).2] at h6; exact HV.out _ h6
          · exact ⟨_, ((((hc4.setCell hne _).setCell hne _).setCell hne _).setCell hne _)⟩
        case' inl =>
          have HV := Lib.hid hV
          clear hV
          go_wp2_with fail
          refine (kind_R b s t4 _ hc4).mono ?_
          rintro e w5 ⟨ho5, ⟨c, t3, hW, hl, hc5, rfl⟩ | ⟨hW, ⟨R5, hc5⟩, rfl⟩⟩
          case' inr =>
            have HW := Lib.hid hW
            have ho := (((ho1.trans ho2).trans ho3).trans ho4).trans ho5
            clear hW
            have r0 := newCellO ho hb 0 _ rfl
            have g0 := newFrozenO ho hb 0
            have r1 := newCellO ho hb 1 _ rfl
            have g1 := newFrozenO ho hb 1
            have r2 := newCellO ho hb 2 _ rfl
            have g2 := newFrozenO ho hb 2
            have r3 := newCellO ho hb 3 _ rfl
            have g3 := newFrozenO ho hb 3
            go_wp2
            refine bodyPost_ret (v := .tuple #[.agg #[.int .i64 0, .int .i64 0, .int .i64 0, .int .i64 0], .bool false]) (by simp [results, Tryz.results70, go_sem, *]) rfl ⟨?_, .inr ⟨?_, ?_, rfl⟩⟩
            · have hfin := ((Only.refl b w).alloc _).trans ho
              exact ((((hfin.setCell (Nat.le_refl _) _).setCell (Nat.le_refl _) _).setCell (Nat.le_refl _) _).setCell (Nat.le_refl _) _)
            · rintro s' d k v R' ⟨u, h0, h1, h2, t2', h3, h4, h5, c, t3, h6, h7, h8, _⟩; rw [HR.out] at h0; rw [← (List.cons.inj h0).2, HT.out, HU.out] at h3; rw [← (List.cons.inj (List.cons.inj h3).2).2, HV.out] at h6; have := HW.out c t3 (List.cons.inj h6).2; omega
            · exact ⟨_, ((((hc5.setCell hne _).setCell hne _).setCell hne _).setCell hne _)⟩
          case' inl =>
            have HW := Lib.hid hW
            have HL := Lib.hid hl
            clear hW hl
            go_wp2_with fail
            refine (number_R b s t3 _ hc5).mono ?_
            rintro e w6 ⟨ho6, ⟨hn3, hc6, rfl⟩ | ⟨hn3, ⟨R6, hc6⟩, rfl⟩⟩
            case' inr =>
              have HN3 := Lib.hid hn3
              have ho := ((((ho1.trans ho2).trans ho3).trans ho4).trans ho5).trans ho6
              clear hn3
              have r0 := newCellO ho hb 0 _ rfl
              have g0 := newFrozenO ho hb 0
              have r1 := newCellO ho hb 1 _ rfl
              have g1 := newFrozenO ho hb 1
              have r2 := newCellO ho hb 2 _ rfl
              have g2 := newFrozenO ho hb 2
              have r3 := newCellO ho hb 3 _ rfl
              have g3 := newFrozenO ho hb 3
              go_wp2
              refine bodyPost_ret (v := .tuple #[.agg #[.int .i64 0, .int .i64 0, .int .i64 0, .int .i64 0], .bool false]) (by simp [results, Tryz.results70, go_sem, *]) rfl ⟨?_, .inr ⟨?_, ?_, rfl⟩⟩
              · have hfin := ((Only.refl b w).alloc _).trans ho
                exact ((((hfin.setCell (Nat.le_refl _) _).setCell (Nat.le_refl _) _).setCell (Nat.le_refl _) _).setCell (Nat.le_refl _) _)
              · rintro s' d k v R' ⟨u, h0, h1, h2, t2', h3, h4, h5, c', t3', h6, h7, h8, h9, _⟩; rw [HR.out] at h0; rw [← (List.cons.inj h0).2, HT.out, HU.out] at h3; rw [← (List.cons.inj (List.cons.inj h3).2).2, HV.out, HW.out] at h6; rw [← (List.cons.inj (List.cons.inj h6).2).2, HN3.out] at h9; cases h9
              · exact ⟨_, ((((hc6.setCell hne _).setCell hne _).setCell hne _).setCell hne _)⟩
            case' inl =>
              have HN3 := Lib.hid hn3
              have ho := ((((ho1.trans ho2).trans ho3).trans ho4).trans ho5).trans ho6
              clear hn3
              have r0 := newCellO ho hb 0 _ rfl
              have g0 := newFrozenO ho hb 0
              have r1 := newCellO ho hb 1 _ rfl
              have g1 := newFrozenO ho hb 1
              have r2 := newCellO ho hb 2 _ rfl
              have g2 := newFrozenO ho hb 2
              have r3 := newCellO ho hb 3 _ rfl
              have g3 := newFrozenO ho hb 3
              go_wp2
              refine bodyPost_ret (v := .tuple #[.agg #[.int .i64 (numV (nrun t)), .int .i64 (numV (nrun t2)), .int .i64 (letter c), .int .i64 (numV (nrun t3))], .bool true]) (by simp [results, Tryz.results70, go_sem, *]) rfl ⟨?_, .inl ⟨_, _, _, _, t3.drop (nrun t3).length, ?_, ?_, rfl⟩⟩
              · have hfin := ((Only.refl b w).alloc _).trans ho
                exact ((((hfin.setCell (Nat.le_refl _) _).setCell (Nat.le_refl _) _).setCell (Nat.le_refl _) _).setCell (Nat.le_refl _) _)
              · exact ⟨t, HR.out, HN1.out, rfl, t2, by rw [HT.out, HU.out], HN2.out, rfl, c, t3, by rw [HV.out, HW.out], rfl, HL.out, HN3.out, rfl, rfl⟩
              · exact ((((hc6.setCell hne _).setCell hne _).setCell hne _).setCell hne _)

theorem CurR.end {w : World} {b : Nat} {s : ByteArray} (h : CurR w b s []) : Cur w b s s.size := by
  obtain ⟨p, hc, hR⟩ := h
  have h1 : s.size ≤ p := by simpa using hR
  have h2 := hc.2.2.2.2.1
  have e : p = s.size := by omega
  rw [← e]; exact hc
theorem CurR.more {w : World} {b : Nat} {s : ByteArray} {c : UInt8} {t : List UInt8} (h : CurR w b s (c :: t)) : ∃ p, Cur w b s p ∧ p < s.size := by
  obtain ⟨p, hc, hR⟩ := h
  refine ⟨p, hc, ?_⟩
  have := congrArg List.length hR
  simp at this
  omega

set_option maxRecDepth 100000 in
set_option maxHeartbeats 4000000 in
theorem rp_impl (s : ByteArray) (w : World) (hs : s.size ≤ 1048576) :
    Calls Tryz.prog 49 #[.string s] w fun e w' => Parsed s.data.toList e ∧ Keep w w' := by
  go_enter Tryz.func49, Tryz.ntmps49
  go_wp2_with fail
  refine (report_R (w.heap.size + 1) s s.data.toList _ ⟨0, ⟨by go_simp, by go_simp, by go_simp, by simp, by omega, hs⟩, rfl⟩).mono ?_
  rintro e w1 ⟨ho1, hh⟩
  have hz : w.heap.size + 1 < w1.heap.size := by have := ho1.size; simp at this; omega
  have hz0 : w.heap.size < w1.heap.size := by omega
  have k1 : Keep w w1 := ho1.keep (((Keep.refl w).alloc _).alloc _) (by omega)
  have r10 : w1.cell? ⟨w.heap.size, 0, none⟩ = some (.int .i64 0) := (ho1.cell _ _ (by simp; omega) (by omega)).trans (by go_simp)
  have g10 : w1.frozen? ⟨w.heap.size, 0, none⟩ = false := (ho1.frozen _ _ (by simp; omega) (by omega)).trans (by go_simp)
  have r11 : w1.cell? ⟨w.heap.size, 1, none⟩ = some (.int .i64 0) := (ho1.cell _ _ (by simp; omega) (by omega)).trans (by go_simp)
  have g11 : w1.frozen? ⟨w.heap.size, 1, none⟩ = false := (ho1.frozen _ _ (by simp; omega) (by omega)).trans (by go_simp)
  have r12 : w1.cell? ⟨w.heap.size, 2, none⟩ = some (.int .i64 0) := (ho1.cell _ _ (by simp; omega) (by omega)).trans (by go_simp)
  have g12 : w1.frozen? ⟨w.heap.size, 2, none⟩ = false := (ho1.frozen _ _ (by simp; omega) (by omega)).trans (by go_simp)
  have r13 : w1.cell? ⟨w.heap.size, 3, none⟩ = some (.int .i64 0) := (ho1.cell _ _ (by simp; omega) (by omega)).trans (by go_simp)
  have g13 : w1.frozen? ⟨w.heap.size, 3, none⟩ = false := (ho1.frozen _ _ (by simp; omega) (by omega)).trans (by go_simp)
  rcases hh with ⟨s', d, k, v, R', hR, hc, rfl⟩ | ⟨hR, _, rfl⟩
  case' inr =>
    have HR := Lib.hid hR
    clear hR
    go_wp2
    refine bodyPost_ret (v := .tuple #[.agg #[.int .i64 0, .int .i64 0, .int .i64 0, .int .i64 0], .bool false]) (by simp [results, Tryz.results49, go_sem, *]) rfl ⟨.inr ⟨?_, rfl⟩, ?_⟩
    · intro s' d k v hr; exact absurd ((rep_read _ _ _ _ _).1 hr) (HR.out _ _ _ _ _)
    · exact ((((k1.setCell (Nat.le_refl _) _).setCell (Nat.le_refl _) _).setCell (Nat.le_refl _) _).setCell (Nat.le_refl _) _).alloc _
  case' inl =>
    have HR := Lib.hid hR
    clear hR
    have hca := hc.alloc (.cells #[.int .i64 s', .int .i64 d, .int .i64 k, .int .i64 v] 54)
    cases R' with
    | cons c t =>
      obtain ⟨p, hcp, hlt⟩ := hca.more
      go_wp2_with fail
      refine (done_no _ p s _ hcp hlt).mono ?_
      rintro e w2 ⟨rfl, n, hw2⟩
      have k2 : Keep (w1.alloc (.cells #[.int .i64 s', .int .i64 d, .int .i64 k, .int .i64 v] 54)) w2 := by rw [hw2]; exact (Keep.refl _).drewN n
      clear hw2
      have r20 : w2.cell? ⟨w.heap.size, 0, none⟩ = some (.int .i64 0) := k2.cell (by go_simp)
      have g20 : w2.frozen? ⟨w.heap.size, 0, none⟩ = false := k2.still (v := .int .i64 0) (by go_simp) (by go_simp)
      have r21 : w2.cell? ⟨w.heap.size, 1, none⟩ = some (.int .i64 0) := k2.cell (by go_simp)
      have g21 : w2.frozen? ⟨w.heap.size, 1, none⟩ = false := k2.still (v := .int .i64 0) (by go_simp) (by go_simp)
      have r22 : w2.cell? ⟨w.heap.size, 2, none⟩ = some (.int .i64 0) := k2.cell (by go_simp)
      have g22 : w2.frozen? ⟨w.heap.size, 2, none⟩ = false := k2.still (v := .int .i64 0) (by go_simp) (by go_simp)
      have r23 : w2.cell? ⟨w.heap.size, 3, none⟩ = some (.int .i64 0) := k2.cell (by go_simp)
      have g23 : w2.frozen? ⟨w.heap.size, 3, none⟩ = false := k2.still (v := .int .i64 0) (by go_simp) (by go_simp)
      have kk := (k1.alloc _).trans k2
      go_wp2
      refine bodyPost_ret (v := .tuple #[.agg #[.int .i64 0, .int .i64 0, .int .i64 0, .int .i64 0], .bool false]) (by simp [results, Tryz.results49, go_sem, *]) rfl ⟨.inr ⟨?_, rfl⟩, ?_⟩
      · intro s1 d1 k1 v1 hr; exact absurd (HR.out.unique ((rep_read _ _ _ _ _).1 hr)).2.2.2.2 (by simp)
      · exact ((((kk.setCell (Nat.le_refl _) _).setCell (Nat.le_refl _) _).setCell (Nat.le_refl _) _).setCell (Nat.le_refl _) _)
    | nil =>
      have hce := hca.end
      go_wp2_with fail
      refine (done_yes _ s _ hce).mono ?_
      rintro e w2 ⟨rfl, n, hw2⟩
      have k2 : Keep (w1.alloc (.cells #[.int .i64 s', .int .i64 d, .int .i64 k, .int .i64 v] 54)) w2 := by rw [hw2]; exact (Keep.refl _).drewN n
      clear hw2
      have r20 : w2.cell? ⟨w.heap.size, 0, none⟩ = some (.int .i64 0) := k2.cell (by go_simp)
      have g20 : w2.frozen? ⟨w.heap.size, 0, none⟩ = false := k2.still (v := .int .i64 0) (by go_simp) (by go_simp)
      have x20 : w2.cell? ⟨w1.heap.size, 0, none⟩ = some (.int .i64 s') := k2.cell (by go_simp)
      have r21 : w2.cell? ⟨w.heap.size, 1, none⟩ = some (.int .i64 0) := k2.cell (by go_simp)
      have g21 : w2.frozen? ⟨w.heap.size, 1, none⟩ = false := k2.still (v := .int .i64 0) (by go_simp) (by go_simp)
      have x21 : w2.cell? ⟨w1.heap.size, 1, none⟩ = some (.int .i64 d) := k2.cell (by go_simp)
      have r22 : w2.cell? ⟨w.heap.size, 2, none⟩ = some (.int .i64 0) := k2.cell (by go_simp)
      have g22 : w2.frozen? ⟨w.heap.size, 2, none⟩ = false := k2.still (v := .int .i64 0) (by go_simp) (by go_simp)
      have x22 : w2.cell? ⟨w1.heap.size, 2, none⟩ = some (.int .i64 k) := k2.cell (by go_simp)
      have r23 : w2.cell? ⟨w.heap.size, 3, none⟩ = some (.int .i64 0) := k2.cell (by go_simp)
      have g23 : w2.frozen? ⟨w.heap.size, 3, none⟩ = false := k2.still (v := .int .i64 0) (by go_simp) (by go_simp)
      have x23 : w2.cell? ⟨w1.heap.size, 3, none⟩ = some (.int .i64 v) := k2.cell (by go_simp)
      have hz2 : w1.heap.size < w2.heap.size := World.block_lt_of_cell? w2 _ x20
      have kk := (k1.alloc _).trans k2
      go_wp2_with fail
      refine (rv_impl s' d k v _).mono ?_
      rintro e w3 ⟨rfl, k3⟩
      have k3 : Keep w2 w3 := k3
      have r30 : w3.cell? ⟨w.heap.size, 0, none⟩ = some (.int .i64 0) := k3.cell r20
      have g30 : w3.frozen? ⟨w.heap.size, 0, none⟩ = false := k3.still r20 g20
      have x30 : w3.cell? ⟨w1.heap.size, 0, none⟩ = some (.int .i64 s') := k3.cell x20
      have r31 : w3.cell? ⟨w.heap.size, 1, none⟩ = some (.int .i64 0) := k3.cell r21
      have g31 : w3.frozen? ⟨w.heap.size, 1, none⟩ = false := k3.still r21 g21
      have x31 : w3.cell? ⟨w1.heap.size, 1, none⟩ = some (.int .i64 d) := k3.cell x21
      have r32 : w3.cell? ⟨w.heap.size, 2, none⟩ = some (.int .i64 0) := k3.cell r22
      have g32 : w3.frozen? ⟨w.heap.size, 2, none⟩ = false := k3.still r22 g22
      have x32 : w3.cell? ⟨w1.heap.size, 2, none⟩ = some (.int .i64 k) := k3.cell x22
      have r33 : w3.cell? ⟨w.heap.size, 3, none⟩ = some (.int .i64 0) := k3.cell r23
      have g33 : w3.frozen? ⟨w.heap.size, 3, none⟩ = false := k3.still r23 g23
      have x33 : w3.cell? ⟨w1.heap.size, 3, none⟩ = some (.int .i64 v) := k3.cell x23
      have kk3 := kk.trans k3
      rcases Bool.eq_false_or_eq_true (rOk s' d k v) with hv | hv
      case' inr =>
        have HV := Lib.hid hv
        go_wp2
        refine bodyPost_ret (v := .tuple #[.agg #[.int .i64 0, .int .i64 0, .int .i64 0, .int .i64 0], .bool false]) (by simp [results, Tryz.results49, go_sem, *]) rfl ⟨.inr ⟨?_, rfl⟩, ?_⟩
        · intro s1 d1 k1 v1 hr
          obtain ⟨rfl, rfl, rfl, rfl, _⟩ := HR.out.unique ((rep_read _ _ _ _ _).1 hr)
          exact HV.out
        · exact ((((kk3.setCell (Nat.le_refl _) _).setCell (Nat.le_refl _) _).setCell (Nat.le_refl _) _).setCell (Nat.le_refl _) _)
      case' inl =>
        have HV := Lib.hid hv
        go_wp2
        refine bodyPost_ret (v := .tuple #[.agg #[.int .i64 s', .int .i64 d, .int .i64 k, .int .i64 v], .bool true]) (by simp [results, Tryz.results49, go_sem, *]) rfl ⟨.inl ⟨_, _, _, _, ?_, HV.out, rfl⟩, ?_⟩
        · exact (rep_read _ _ _ _ _).2 HR.out
        · exact ((((kk3.setCell (Nat.le_refl _) _).setCell (Nat.le_refl _) _).setCell (Nat.le_refl _) _).setCell (Nat.le_refl _) _)
end Go.Proofs.YtnemdnidlbekbaaGreatDoor
