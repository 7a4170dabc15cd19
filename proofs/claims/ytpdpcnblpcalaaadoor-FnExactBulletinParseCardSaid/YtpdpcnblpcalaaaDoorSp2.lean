/- The model's numbers with a sign, and words. -/
import Derived.Test.YtpdpcnblpcalaaaDoorSp
import Derived.Outline
namespace Go.Proofs.YtpdpcnblpcalaaaDoor
open Go.RowKit
set_option linter.unusedVariables false

theorem digs_bounds (u : List UInt8) : -1 ≤ digs u ∧ digs u ≤ 99999 := by
  unfold digs
  by_cases h : digOk u = true
  · have := digOk_facts h; rw [if_pos h]; omega
  · rw [if_neg h]; omega
theorem digs_ok {u : List UInt8} (h : digOk u = true) : digs u = dval u 0 ∧ 0 ≤ digs u := by
  have := digOk_facts h; simp [digs, h]; omega
theorem digs_no {u : List UInt8} (h : digOk u = false) : digs u = -1 := by simp [digs, h]

theorem ext_tail (s : ByteArray) : (s.extract 1 s.size).data.toList = s.data.toList.tail := by
  rw [ByteArray.data_extract]
  simp
  exact List.take_of_length_le (by simp)
theorem ext_size (s : ByteArray) : (s.extract 1 s.size).size = s.size - 1 := by simp

/-- What the model answers for a number, good or not. -/
def numRaw (l : List UInt8) : Int := if l.headD 0 == 45 then -digs l.tail else digs l
theorem numRaw_ok {l : List UInt8} (h : numOk l = true) : numRaw l = numV l := by
  rcases numOk_cases h with ⟨t, rfl, h1, _⟩ | ⟨hc, h1⟩
  · have := (digs_ok h1).1
    simp [numRaw, numV, this]
  · have := (digs_ok h1).1
    rw [numRaw, numV, hc]; simpa using this
def SNum (l : List UInt8) (w : World) (e : Ending) (w' : World) : Prop := w = w' ∧ e = .returned (.tuple #[.int .i64 (numRaw l), .bool (numOk l)])

set_option maxHeartbeats 1000000 in
theorem snumber_any (s : ByteArray) (w : World) (hs : s.size ≤ 1048576) :
    Calls Tryd.prog 53 #[.string s] w (SNum s.data.toList w) := by
  have hb := digs_bounds s.data.toList
  by_cases h0 : s.size = 0
  · have hl : s.data.toList = [] := List.eq_nil_of_length_eq_zero (by rw [list_len]; exact h0)
    have HL : Hid (numOk s.data.toList = false) := Lib.hid (by rw [hl]; rfl)
    have HD : Hid (digs s.data.toList = -1) := Lib.hid (by rw [hl]; rfl)
    have HR : Hid (numRaw s.data.toList = -1) := Lib.hid (by rw [hl]; rfl)
    have h0d : decide (0 < s.size) = false := decide_eq_false (by omega)
    clear hl h0
    go_enter Tryd.func53, Tryd.ntmps53
    go_wp2_with fail
    (with_reducible refine (sdigits_any s _ hs).mono ?_)
    rintro e w' ⟨rfl, rfl⟩
    rw [HD.out]
    go_wp2
    go_ret2
    exact ⟨rfl, by rw [HL.out, HR.out]; rfl⟩
  · have hp : 0 < s.size := by omega
    have h0d : decide (0 < s.size) = true := decide_eq_true hp
    have h0i : (0 : Int) < s.size := by omega
    have h1i : (1 : Int) ≤ s.size := by omega
    have hh := list_head hp
    by_cases h45 : (s[0].toNat : Int) = 45
    · have hc : ((s[0].toNat : Int) == 45) = true := by simpa using h45
      have e45 : s[0] = 45 := UInt8.toNat_inj.1 (show s[0].toNat = 45 by omega)
      have hd : (s.data.toList.headD 0 == 45) = true := by rw [hh, e45]; rfl
      have HK : Hid (numOk s.data.toList = (digOk s.data.toList.tail && decide (0 < dval s.data.toList.tail 0)) ∧ numV s.data.toList = 0 - dval s.data.toList.tail 0) :=
        Lib.hid ⟨by unfold numOk; rw [if_pos hd], by unfold numV; rw [if_pos hd]⟩
      have HR : Hid (numRaw s.data.toList = -digs s.data.toList.tail) := Lib.hid (by unfold numRaw; rw [if_pos hd])
      obtain ⟨b1, b2⟩ := digs_bounds s.data.toList.tail
      clear h45 e45 hd hh hb
      go_enter Tryd.func53, Tryd.ntmps53
      go_wp2_with fail
      refine (sdigits_any (s.extract 1 s.size) _ (Nat.le_trans (by rw [ext_size]; exact Nat.sub_le _ _) hs)).mono ?_
      rintro e w' ⟨he, rfl⟩
      rw [ext_tail] at he
      subst he
      obtain ⟨v, hv⟩ : ∃ v : Int, Hid (digs s.data.toList.tail = v) := ⟨_, Lib.hid rfl⟩
      rw [hv.out] at b1 b2 ⊢
      go_wp2
      go_ret2
      have hb : numOk s.data.toList = decide (0 < v) := by
        rw [HK.out.1]
        rcases Bool.eq_false_or_eq_true (digOk s.data.toList.tail) with hk | hk
        · have h3 := (digs_ok hk).1
          rw [hv.out] at h3
          rw [hk, ← h3]
          simp
        · have h3 := digs_no hk
          rw [hv.out] at h3
          rw [hk, h3]
          simp
      exact ⟨rfl, by rw [hb, HR.out, hv.out]; rfl⟩
    · have hc : ((s[0].toNat : Int) == 45) = false := by simpa using h45
      have hd : (s.data.toList.headD 0 == 45) = false := by
        rw [hh]
        simp only [beq_eq_false_iff_ne, ne_eq]
        intro he
        rw [he] at h45
        exact h45 rfl
      have HK : Hid (numOk s.data.toList = digOk s.data.toList ∧ numV s.data.toList = dval s.data.toList 0) :=
        Lib.hid ⟨by unfold numOk; rw [if_neg (by rw [hd]; decide)], by unfold numV; rw [if_neg (by rw [hd]; decide)]⟩
      have HR : Hid (numRaw s.data.toList = digs s.data.toList) := Lib.hid (by unfold numRaw; rw [if_neg (by rw [hd]; decide)])
      obtain ⟨b1, b2⟩ := hb
      clear h45 hd hh
      go_enter Tryd.func53, Tryd.ntmps53
      go_wp2_with fail
      refine (sdigits_any s _ hs).mono ?_
      rintro e w' ⟨rfl, rfl⟩
      obtain ⟨v, hv⟩ : ∃ v : Int, Hid (digs s.data.toList = v) := ⟨_, Lib.hid rfl⟩
      rw [hv.out] at b1 b2 ⊢
      go_wp2
      go_ret2
      have hb : numOk s.data.toList = decide (0 ≤ v) := by
        rw [HK.out.1]
        rcases Bool.eq_false_or_eq_true (digOk s.data.toList) with hk | hk
        · have h3 := (digs_ok hk).2
          rw [hv.out] at h3
          rw [hk, decide_eq_true h3]
        · have h3 := digs_no hk
          rw [hv.out] at h3
          rw [hk, h3]
          rfl
      exact ⟨rfl, by rw [hb, HR.out, hv.out]; rfl⟩

/-- The number behind a word's first letter. -/
def wordOk (l : List UInt8) (x : UInt8) : Bool := match l with | c :: t => c == x && numOk t | [] => false
def wordRaw (l : List UInt8) (x : UInt8) : Int := match l with | c :: t => if c = x then numRaw t else 0 | [] => 0
def SWord (l : List UInt8) (x : UInt8) (w : World) (e : Ending) (w' : World) : Prop := w = w' ∧ e = .returned (.tuple #[.int .i64 (wordRaw l x), .bool (wordOk l x)])
theorem wordOk_cases {l : List UInt8} {x : UInt8} (h : wordOk l x = true) : ∃ t, l = x :: t ∧ numOk t = true ∧ wordRaw l x = numV t := by
  cases l with
  | nil => cases h
  | cons c t =>
    simp [wordOk] at h
    obtain ⟨rfl, h2⟩ := h
    exact ⟨t, rfl, h2, by simp [wordRaw, numRaw_ok h2]⟩
theorem wordOk_of {t : List UInt8} {x : UInt8} (h : numOk t = true) : wordOk (x :: t) x = true := by simp [wordOk, h]
theorem wordOk_no {l : List UInt8} {c x : UInt8} {t : List UInt8} (h : l = c :: t) (hne : c ≠ x) : wordOk l x = false := by simp [h, wordOk, hne]

set_option maxHeartbeats 1000000 in
theorem sword_any (s : ByteArray) (x : UInt8) (w : World) (hs : s.size ≤ 1048576) :
    Calls Tryd.prog 35 #[.string s, .int .u8 (x.toNat : Int)] w (SWord s.data.toList x w) := by
  by_cases h0 : s.size = 0
  · have hl : s.data.toList = [] := List.eq_nil_of_length_eq_zero (by rw [list_len]; exact h0)
    have HL : Hid (wordOk s.data.toList x = false) := Lib.hid (by rw [hl]; rfl)
    have HR : Hid (wordRaw s.data.toList x = 0) := Lib.hid (by rw [hl]; rfl)
    have he1 : s.toList.isEmpty = true := by rw [ByteArray.toList_eq, hl]; rfl
    have he2 : s.toList = [] := by rw [ByteArray.toList_eq, hl]
    have he3 : s.data.toList.isEmpty = true := by rw [hl]; rfl
    clear h0
    go_enter Tryd.func35, Tryd.ntmps35
    go_wp2
    go_ret2
    exact ⟨rfl, by rw [HL.out, HR.out]; rfl⟩
  · have hp : 0 < s.size := by omega
    have h0i : (0 : Int) < s.size := by omega
    have h1i : (1 : Int) ≤ s.size := by omega
    have hne : s.data.toList ≠ [] := by intro h; have := list_len s; rw [h] at this; simp at this; omega
    have hcons : s.data.toList = s[0] :: s.data.toList.tail := by
      have h1 := List.drop_eq_getElem_cons (l := s.data.toList) (i := 0) (by simpa using hp)
      rw [List.drop_zero] at h1
      have h2 : s.data.toList.tail = s.data.toList.drop 1 := by simp
      rw [h2]; exact h1
    have HC := Lib.hid hcons
    have he1 : s.toList.isEmpty = false := by rw [ByteArray.toList_eq]; simpa using hne
    have he3 : s.data.toList.isEmpty = false := by simpa using hne
    clear hcons hne h0
    by_cases hx : s[0] = x
    · have hxd : ((s[0].toNat : Int) != (x.toNat : Int)) = false := by rw [hx]; simp
      have HX := Lib.hid hx
      clear hx
      go_enter Tryd.func35, Tryd.ntmps35
      go_wp2_with fail
      refine (snumber_any (s.extract 1 s.size) _ (Nat.le_trans (by rw [ext_size]; exact Nat.sub_le _ _) hs)).mono ?_
      rintro e w' ⟨rfl, he⟩
      rw [ext_tail] at he
      subst he
      go_wp2
      go_ret2
      exact ⟨rfl, by rw [HC.out]; simp [wordOk, wordRaw, HX.out]⟩
    · have hxd : ((s[0].toNat : Int) != (x.toNat : Int)) = true := by
        simp only [bne_iff_ne, ne_eq]
        intro h
        exact hx (UInt8.toNat_inj.1 (by omega))
      have HX := Lib.hid hx
      clear hx
      have HW : Hid (wordOk s.data.toList x = false) := Lib.hid (by rw [HC.out]; simp [wordOk, HX.out])
      have HR : Hid (wordRaw s.data.toList x = 0) := Lib.hid (by rw [HC.out]; simp [wordRaw, HX.out])
      go_enter Tryd.func35, Tryd.ntmps35
      go_wp2
      go_ret2
      exact ⟨rfl, by rw [HW.out, HR.out]; rfl⟩
end Go.Proofs.YtpdpcnblpcalaaaDoor
