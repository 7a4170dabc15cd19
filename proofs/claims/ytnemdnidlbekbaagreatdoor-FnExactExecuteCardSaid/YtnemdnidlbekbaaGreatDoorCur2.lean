/- The program's reader of texts, by what is left of the text: numbers, words, kinds. -/
import Derived.Test.YtnemdnidlbekbaaGreatDoorCur
import Derived.Test.YtnemdnidlbekbaaGreatDoorShelf
namespace Go.Proofs.YtnemdnidlbekbaaGreatDoor
open Go.RowKit
set_option linter.unusedVariables false

/-- A reader with R still to read. -/
def CurR (w : World) (b : Nat) (s : ByteArray) (R : List UInt8) : Prop := ∃ p, Cur w b s p ∧ s.data.toList.drop p = R

theorem CurR.drewN {w : World} {b : Nat} {s : ByteArray} {R : List UInt8} (h : CurR w b s R) (n : Nat) : CurR (w.drewN n) b s R := h
theorem Cur.same {w w' : World} {b B p : Nat} {s : ByteArray} (h : Cur w b s p) (k : Only B w w') (hne : b ≠ B) : Cur w' b s p := by
  obtain ⟨c0, c1, f1, hb, h1, h2⟩ := h
  exact ⟨(k.cell _ _ hb hne).trans c0, (k.cell _ _ hb hne).trans c1, (k.frozen _ _ hb hne).trans f1, Nat.lt_of_lt_of_le hb k.size, h1, h2⟩
theorem CurR.keep {w w' : World} {b : Nat} {s : ByteArray} {R : List UInt8} (h : CurR w b s R) (k : Keep w w') : CurR w' b s R := by
  obtain ⟨p, ⟨c0, c1, f1, hb, h1, h2⟩, hR⟩ := h
  exact ⟨p, ⟨k.cell c0, k.cell c1, k.still c1 f1, Nat.lt_of_lt_of_le hb k.size, h1, h2⟩, hR⟩
theorem CurR.lt {w : World} {b : Nat} {s : ByteArray} {R : List UInt8} (h : CurR w b s R) : b < w.heap.size := by obtain ⟨p, ⟨_, _, _, hb, _⟩, _⟩ := h; exact hb

/-- What 'take' leaves. -/
def TakePost (w : World) (b : Nat) (s : ByteArray) (R : List UInt8) (x : UInt8) (e : Ending) (w' : World) : Prop :=
  Only b w w' ∧ ((∃ t, R = x :: t ∧ CurR w' b s t ∧ e = .returned (.bool true)) ∨ ((∀ t, R ≠ x :: t) ∧ CurR w' b s R ∧ e = .returned (.bool false)))

theorem take_R (b : Nat) (s : ByteArray) (R : List UInt8) (x : UInt8) (w : World) (h : CurR w b s R) :
    Calls Tryz.prog 93 #[.pointer (some ⟨b, 0, none⟩), .int .u8 (x.toNat : Int)] w (TakePost w b s R x) := by
  obtain ⟨p, hc, hR⟩ := h
  have hp : p ≤ s.size := hc.2.2.2.2.1
  by_cases he : p = s.size
  · subst he
    have hR' : R = [] := by rw [← hR]; exact drop_none (Nat.le_refl _)
    refine (take_end b x.toNat s w hc).mono fun e w' ⟨he, n, hw⟩ => ?_
    subst hw
    exact ⟨(Only.refl b w).drewN n, .inr ⟨fun t => by rw [hR']; simp, ⟨_, hc.drewN n, hR⟩, he⟩⟩
  · have hlt : p < s.size := by omega
    have hd := drop_some hlt
    by_cases hx : s[p] = x
    · refine (take_yes b p x.toNat s w hc hlt (by rw [hx])).mono fun e w' ⟨he, hc', ho⟩ => ?_
      exact ⟨ho, .inl ⟨s.data.toList.drop (p + 1), by rw [← hR, hd, hx], ⟨_, hc', rfl⟩, he⟩⟩
    · refine (take_no b p x.toNat s w hc hlt (fun h => hx (UInt8.toNat_inj.1 (by omega)))).mono fun e w' ⟨he, n, hw⟩ => ?_
      subst hw
      exact ⟨(Only.refl b w).drewN n, .inr ⟨fun t => by rw [← hR, hd]; intro h; exact hx (List.cons.inj h).1, ⟨_, hc.drewN n, hR⟩, he⟩⟩

/-- What 'digits' leaves. -/
def DigR (w : World) (b : Nat) (s : ByteArray) (R : List UInt8) (e : Ending) (w' : World) : Prop :=
  Only b w w' ∧ ((digOk (R.takeWhile isDig) = true ∧ CurR w' b s (R.drop (R.takeWhile isDig).length) ∧ e = .returned (.tuple #[.int .i64 (dval (R.takeWhile isDig) 0), .bool true])) ∨
    (digOk (R.takeWhile isDig) = false ∧ (∃ R', CurR w' b s R') ∧ e = .returned (.tuple #[.int .i64 0, .bool false])))
theorem digits_R (b : Nat) (s : ByteArray) (R : List UInt8) (w : World) (h : CurR w b s R) :
    Calls Tryz.prog 120 #[.pointer (some ⟨b, 0, none⟩)] w (DigR w b s R) := by
  obtain ⟨p, hc, rfl⟩ := h
  refine (digits_any b p s w hc).mono fun e w' ⟨q, hc', ho, hh⟩ => ⟨ho, ?_⟩
  rcases hh with ⟨h1, h2, h3⟩ | ⟨h1, h3⟩
  · exact .inl ⟨h1, ⟨q, hc', by rw [h2, ← List.drop_drop]⟩, h3⟩
  · exact .inr ⟨h1, ⟨_, q, hc', rfl⟩, h3⟩

theorem num_no {r : List UInt8} (h : (r.headD 0 == 45) = false) : nrun r = r.takeWhile isDig ∧ numOk (nrun r) = digOk (r.takeWhile isDig) ∧ numV (nrun r) = dval (r.takeWhile isDig) 0 := by
  have e : nrun r = r.takeWhile isDig := by rw [nrun, h]; simp
  have h' := head_no (takeWhile_all r)
  rw [e]
  exact ⟨rfl, by rw [numOk, h']; simp, by rw [numV, h']; simp⟩
theorem num_yes (t : List UInt8) : nrun (45 :: t) = 45 :: t.takeWhile isDig ∧ numOk (nrun (45 :: t)) = (digOk (t.takeWhile isDig) && decide (0 < dval (t.takeWhile isDig) 0)) ∧ numV (nrun (45 :: t)) = 0 - dval (t.takeWhile isDig) 0 := by
  have e : nrun (45 :: t) = 45 :: t.takeWhile isDig := by simp [nrun]
  rw [e]
  exact ⟨rfl, by unfold numOk; rw [if_pos (by rfl)]; rfl, by simp [numV]⟩

/-- What 'number' leaves. -/
def NumR (w : World) (b : Nat) (s : ByteArray) (R : List UInt8) (e : Ending) (w' : World) : Prop :=
  Only b w w' ∧ ((numOk (nrun R) = true ∧ CurR w' b s (R.drop (nrun R).length) ∧ e = .returned (.tuple #[.int .i64 (numV (nrun R)), .bool true])) ∨
    (numOk (nrun R) = false ∧ (∃ R', CurR w' b s R') ∧ e = .returned (.tuple #[.int .i64 0, .bool false])))

set_option maxHeartbeats 1000000 in
theorem number_R (b : Nat) (s : ByteArray) (R : List UInt8) (w : World) (h : CurR w b s R) :
    Calls Tryz.prog 95 #[.pointer (some ⟨b, 0, none⟩)] w (NumR w b s R) := by
  go_enter Tryz.func95, Tryz.ntmps95
  go_wp2_with fail
  refine (take_R b s R 45 w h).mono ?_
  rintro e w1 ⟨ho1, ⟨t, hR, hc1, rfl⟩ | ⟨hR, hc1, rfl⟩⟩
  · obtain ⟨n1, n2, n3⟩ := num_yes t
    go_wp2_with fail
    refine (digits_R b s t _ hc1).mono ?_
    rintro e w2 ⟨ho2, ⟨hd, hc2, rfl⟩ | ⟨hd, hc2, rfl⟩⟩
    · have hf := digOk_facts hd
      have HD := Lib.hid hd
      have N1 := Lib.hid n1
      have N2 := Lib.hid n2
      have N3 := Lib.hid n3
      have HR := Lib.hid hR
      clear hd n1 n2 n3 hR
      obtain ⟨v, hv⟩ : ∃ v, Hid (dval (t.takeWhile isDig) 0 = v) := ⟨_, Lib.hid rfl⟩
      rw [hv.out] at hf ⊢
      have hf1 := hf.2.2.2.1
      have hf2 := hf.2.2.2.2
      clear hf
      by_cases h0 : v = 0
      · have hz : (v == 0) = true := by simp [h0]
        have H0 := Lib.hid h0
        clear h0
        go_wp2
        go_ret2
        exact ⟨ho1.trans ho2, .inr ⟨by rw [HR.out, N2.out, hv.out, H0.out]; simp, ⟨_, hc2⟩, rfl⟩⟩
      · have hz : (v == 0) = false := by simp [h0]
        have H0 := Lib.hid h0
        clear h0
        go_wp2
        go_ret2
        exact ⟨ho1.trans ho2, .inl ⟨by rw [HR.out, N2.out, hv.out, HD.out]; have := H0.out; simp; omega, by rw [HR.out, N1.out]; simpa using hc2, by rw [HR.out, N3.out, hv.out, Int.zero_sub]; rfl⟩⟩
    · have HD := Lib.hid hd
      have N2 := Lib.hid n2
      have HR := Lib.hid hR
      clear hd n1 n2 n3 hR
      go_wp2
      go_ret2
      exact ⟨ho1.trans ho2, .inr ⟨by rw [HR.out, N2.out, HD.out]; rfl, hc2, rfl⟩⟩
  · have hh : (R.headD 0 == 45) = false := by
      cases R with
      | nil => rfl
      | cons c t =>
        simp only [List.headD_cons, beq_eq_false_iff_ne, ne_eq]
        intro he
        exact hR t (by rw [he])
    obtain ⟨n1, n2, n3⟩ := num_no hh
    have N1 := Lib.hid n1
    have N2 := Lib.hid n2
    have N3 := Lib.hid n3
    clear n1 n2 n3 hh hR
    go_wp2_with fail
    refine (digits_R b s R _ hc1).mono ?_
    rintro e w2 ⟨ho2, ⟨hd, hc2, rfl⟩ | ⟨hd, hc2, rfl⟩⟩
    · have HD := Lib.hid hd
      clear hd
      go_wp2
      go_ret2
      exact ⟨ho1.trans ho2, .inl ⟨by rw [N2.out]; exact HD.out, by rw [N1.out]; exact hc2, by rw [N3.out]; rfl⟩⟩
    · have HD := Lib.hid hd
      clear hd
      go_wp2
      go_ret2
      exact ⟨ho1.trans ho2, .inr ⟨by rw [N2.out]; exact HD.out, hc2, rfl⟩⟩

/-- What 'word' leaves. -/
def WordR (w : World) (b : Nat) (s : ByteArray) (R : List UInt8) (x : UInt8) (e : Ending) (w' : World) : Prop :=
  Only b w w' ∧ ((∃ t, R = x :: t ∧ numOk (nrun t) = true ∧ CurR w' b s (t.drop (nrun t).length) ∧ e = .returned (.tuple #[.int .i64 (numV (nrun t)), .bool true])) ∨
    ((∀ t, R = x :: t → numOk (nrun t) = false) ∧ (∃ R', CurR w' b s R') ∧ e = .returned (.tuple #[.int .i64 0, .bool false])))

set_option maxHeartbeats 1000000 in
theorem word_R (b : Nat) (s : ByteArray) (R : List UInt8) (x : UInt8) (w : World) (h : CurR w b s R) :
    Calls Tryz.prog 92 #[.pointer (some ⟨b, 0, none⟩), .int .u8 (x.toNat : Int)] w (WordR w b s R x) := by
  go_enter Tryz.func92, Tryz.ntmps92
  go_wp2_with fail
  refine (take_R b s R x w h).mono ?_
  rintro e w1 ⟨ho1, ⟨t, hR, hc1, rfl⟩ | ⟨hR, hc1, rfl⟩⟩
  · have HR := Lib.hid hR
    clear hR
    go_wp2_with fail
    refine (number_R b s t _ hc1).mono ?_
    rintro e w2 ⟨ho2, ⟨hd, hc2, rfl⟩ | ⟨hd, hc2, rfl⟩⟩
    · have HD := Lib.hid hd
      clear hd
      go_wp2
      go_ret2
      exact ⟨ho1.trans ho2, .inl ⟨t, HR.out, HD.out, hc2, rfl⟩⟩
    · have HD := Lib.hid hd
      clear hd
      go_wp2
      go_ret2
      exact ⟨ho1.trans ho2, .inr ⟨fun t' ht' => by rw [HR.out] at ht'; rw [← (List.cons.inj ht').2]; exact HD.out, hc2, rfl⟩⟩
  · have HR := Lib.hid hR
    clear hR
    go_wp2
    go_ret2
    exact ⟨ho1, .inr ⟨fun t ht => absurd ht (HR.out t), ⟨_, hc1⟩, rfl⟩⟩
end Go.Proofs.YtnemdnidlbekbaaGreatDoor
