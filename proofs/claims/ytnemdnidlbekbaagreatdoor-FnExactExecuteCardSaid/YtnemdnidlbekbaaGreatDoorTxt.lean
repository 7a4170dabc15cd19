/- The text of a report, as a list of bytes: its numbers in decimals. Plain mathematics: nothing here speaks of the program. -/
import Derived.Test.YtnemdnidlbekbaaGreatDoorNum
import Derived.Test.YtnemdnidlbekbaaGreatDoorCut
import Derived.Lib.ItoaNum
import Derived.Lib.ItoaMem
namespace Go.Proofs.YtnemdnidlbekbaaGreatDoor
open Go.RowKit Go.Lib
set_option linter.unusedVariables false

theorem digN {n : Nat} (h : n < 10) : (UInt8.ofNat (48 + n)).toNat = 48 + n := by
  simp [UInt8.toNat_ofNat']; omega
theorem isDig_digN {n : Nat} (h : n < 10) : isDig (UInt8.ofNat (48 + n)) = true := by
  simp only [isDig, digN h]; simp; omega
theorem dec_small {u : Nat} (h : u < 10) : decDigits u = [UInt8.ofNat (48 + u)] := decDigits_one h
theorem dec_big {u : Nat} (h : ¬ u < 10) : decDigits u = decDigits (u / 10) ++ [UInt8.ofNat (48 + u % 10)] := by rw [decDigits, dif_neg h]

theorem dec_facts (u : Nat) : (decDigits u).all isDig = true ∧ dval (decDigits u) 0 = (u : Int) ∧ decDigits u ≠ [] ∧ (1 ≤ u → (decDigits u).headD 0 ≠ 48) := by
  induction u using Nat.strongRecOn with
  | _ u ih =>
    by_cases h : u < 10
    · rw [dec_small h]
      refine ⟨by simp only [List.all_cons, List.all_nil, Bool.and_true]; exact isDig_digN h, ?_, by simp, fun h1 => ?_⟩
      · simp only [dval, digN h]; omega
      · intro e
        have : (UInt8.ofNat (48 + u)).toNat = (48 : UInt8).toNat := congrArg UInt8.toNat e
        rw [digN h] at this
        have h48 : (48 : UInt8).toNat = 48 := rfl
        omega
    · obtain ⟨a, b, c, d⟩ := ih (u / 10) (by omega)
      rw [dec_big h]
      have hm : u % 10 < 10 := by omega
      refine ⟨by rw [List.all_append, a]; simp only [List.all_cons, List.all_nil, Bool.and_true, Bool.true_and]; exact isDig_digN hm, ?_, by simp, fun _ => ?_⟩
      · rw [dval_append, b]; simp only [dval, digN hm]; omega
      · have := d (by omega)
        cases hl : decDigits (u / 10) with
        | nil => exact absurd hl c
        | cons x t => rw [hl] at this; simpa using this
theorem dec_len {u : Nat} (h : u ≤ 99999) : 1 ≤ (decDigits u).length ∧ (decDigits u).length ≤ 5 := by
  have h1 : ∀ u, u < 10 → (decDigits u).length = 1 := fun u hu => by rw [dec_small hu]; rfl
  have hs : ∀ u, ¬ u < 10 → (decDigits u).length = (decDigits (u / 10)).length + 1 := fun u hu => by rw [dec_big hu]; simp
  by_cases a1 : u < 10
  · have := h1 u a1; omega
  · have b1 := hs u a1
    by_cases a2 : u / 10 < 10
    · have := h1 _ a2; omega
    · have b2 := hs _ a2
      by_cases a3 : u / 10 / 10 < 10
      · have := h1 _ a3; omega
      · have b3 := hs _ a3
        by_cases a4 : u / 10 / 10 / 10 < 10
        · have := h1 _ a4; omega
        · have b4 := hs _ a4
          have := h1 (u / 10 / 10 / 10 / 10) (by omega)
          omega
theorem dec_ok {u : Nat} (h : u ≤ 99999) : digOk (decDigits u) = true := by
  obtain ⟨a, b, c, d⟩ := dec_facts u
  obtain ⟨l1, l2⟩ := dec_len h
  simp only [digOk, Bool.and_eq_true, decide_eq_true_eq]
  refine ⟨⟨⟨l1, l2⟩, ?_⟩, a⟩
  by_cases h1 : 1 ≤ u
  · have hb : ((decDigits u).headD 0 == 48) = false := beq_eq_false_iff_ne.2 (d h1)
    rw [hb]; simp
  · have : u = 0 := by omega
    subst this
    rw [dec_small (by omega)]; rfl
/-- Digits without a leading zero are the decimals of their number. -/
theorem dec_back (l : List UInt8) : l.all isDig = true → l.headD 0 ≠ 48 → l ≠ [] → 1 ≤ dval l 0 ∧ decDigits (dval l 0).toNat = l := by
  induction hl : l.length generalizing l with
  | zero => intro _ _ h; exact absurd (List.eq_nil_of_length_eq_zero hl) h
  | succ n ih =>
    intro ha hh hne
    obtain ⟨init, c, rfl⟩ : ∃ init c, l = init ++ [c] := ⟨l.dropLast, l.getLast hne, (List.dropLast_concat_getLast hne).symm⟩
    rw [List.all_append] at ha
    simp only [List.all_cons, List.all_nil, Bool.and_true, Bool.and_eq_true] at ha
    obtain ⟨hi, hc⟩ := ha
    have hcb : 48 ≤ c.toNat ∧ c.toNat ≤ 57 := by simpa [isDig] using hc
    have hce : UInt8.ofNat (48 + (c.toNat - 48)) = c := by rw [show 48 + (c.toNat - 48) = c.toNat by omega]; simp
    rw [dval_append]
    simp only [dval]
    cases init with
    | nil =>
      simp only [List.nil_append] at *
      have hne : c.toNat ≠ 48 := by
        intro e
        apply hh
        have : c = 48 := UInt8.toNat_inj.1 e
        simp [this]
      simp only [dval]
      refine ⟨by omega, ?_⟩
      rw [show (10 * 0 + ((c.toNat : Int) - 48)).toNat = c.toNat - 48 by omega, dec_small (by omega), hce]
    | cons a t =>
      obtain ⟨h1, h2⟩ := ih (a :: t) (by simp at hl ⊢; omega) hi (by simpa using hh) (by simp)
      refine ⟨by omega, ?_⟩
      generalize hv : dval (a :: t) 0 = v at *
      rw [show (10 * v + ((c.toNat : Int) - 48)).toNat = 10 * v.toNat + (c.toNat - 48) by omega]
      rw [dec_big (by omega), show (10 * v.toNat + (c.toNat - 48)) / 10 = v.toNat by omega, show (10 * v.toNat + (c.toNat - 48)) % 10 = c.toNat - 48 by omega, h2, hce]
theorem dig_back {l : List UInt8} (h : digOk l = true) : decDigits (dval l 0).toNat = l := by
  have h' := h
  simp only [digOk, Bool.and_eq_true, decide_eq_true_eq] at h
  obtain ⟨⟨⟨l1, l2⟩, hz⟩, ha⟩ := h
  by_cases hh : l.headD 0 = 48
  · cases l with
    | nil => simp at l1
    | cons a t =>
      simp at hh
      subst hh
      cases t with
      | nil => show decDigits 0 = [48]; rw [dec_small (by omega)]; rfl
      | cons b r => simp at hz
  · exact (dec_back l ha hh (by intro e; rw [e] at l1; simp at l1)).2

theorem itoa_ok {n : Int} (h1 : -99999 ≤ n) (h2 : n ≤ 99999) : numOk (itoa n) = true ∧ numV (itoa n) = n := by
  unfold itoa
  by_cases hn : n < 0
  · rw [if_pos hn]
    have a := dec_ok (u := n.natAbs) (by omega)
    have b := (dec_facts n.natAbs).2.1
    refine ⟨?_, ?_⟩
    · simp only [numOk, List.headD_cons, beq_self_eq_true, if_true, List.tail_cons, a, b, Bool.true_and]; simp; omega
    · simp only [numV, List.headD_cons, beq_self_eq_true, if_true, List.tail_cons, b]; omega
  · rw [if_neg hn]
    have a := dec_ok (u := n.toNat) (by omega)
    have b := (dec_facts n.toNat).2.1
    have c := head_no (digOk_facts a).2.2.1
    refine ⟨?_, ?_⟩
    · simp only [numOk, c, a, if_false, Bool.false_eq_true]
    · simp only [numV, c, b, if_false, Bool.false_eq_true]; omega
theorem num_back {l : List UInt8} (h : numOk l = true) : itoa (numV l) = l := by
  rcases numOk_cases h with ⟨t, rfl, h1, h2⟩ | ⟨hc, h1⟩
  · have e : numV (45 :: t) = 0 - dval t 0 := by simp [numV]
    have hb := dig_back h1
    rw [e]
    unfold itoa
    rw [if_pos (by omega), show (0 - dval t 0).natAbs = (dval t 0).toNat by omega, hb]
  · have e : numV l = dval l 0 := by simp only [numV, hc, Bool.false_eq_true, if_false]
    have hb := dig_back h1
    have hn := (digOk_facts h1).2.2.2.1
    rw [e]
    unfold itoa
    rw [if_neg (by omega), hb]

/-- The letter of a kind. -/
def kLet (k : Int) : UInt8 := if k = 1 then 116 else if k = 2 then 114 else 112
/-- The text of a report. -/
def txt (s d k v : Int) : List UInt8 := (115 :: itoa s) ++ 32 :: ((100 :: itoa d) ++ 32 :: (kLet k :: itoa v))
theorem kLet_ok {k : Int} (h : kOk k = true) : letter (kLet k) = k ∧ 1 ≤ k := by
  have : k = 1 ∨ k = 2 ∨ k = 3 := by simp [kOk] at h; omega
  rcases this with rfl | rfl | rfl <;> exact ⟨by decide, by omega⟩
theorem kLet_back {c : UInt8} {k : Int} (h : letter c = k) (h1 : 1 ≤ k) : kLet k = c := by
  unfold letter at h
  split at h
  · rename_i e; subst h; subst e; rfl
  · split at h
    · rename_i e; subst h; subst e; rfl
    · split at h
      · rename_i e; subst h; subst e; rfl
      · omega
theorem rOk_bd {s d k v : Int} (h : rOk s d k v = true) : kOk k = true ∧ (1 ≤ s ∧ s ≤ 9) ∧ (0 ≤ d ∧ d ≤ 999) ∧ (-600 ≤ v ∧ v ≤ 10900) := by
  simp only [rOk, inB, Bool.and_eq_true, decide_eq_true_eq] at h
  obtain ⟨⟨⟨hk, hs⟩, hd⟩, hv1, hv2⟩ := h
  have hk3 : k = 1 ∨ k = 2 ∨ k = 3 := by simp [kOk] at hk; omega
  refine ⟨hk, hs, hd, ?_⟩
  rcases hk3 with rfl | rfl | rfl <;> simp [kLo, kHi] at hv1 hv2 <;> omega
theorem txt_rep {s d k v : Int} (h : rOk s d k v = true) : Rep (txt s d k v) s d k v := by
  obtain ⟨hk, hs, hd, hv⟩ := rOk_bd h
  obtain ⟨a1, a2⟩ := itoa_ok (n := s) (by omega) (by omega)
  obtain ⟨b1, b2⟩ := itoa_ok (n := d) (by omega) (by omega)
  obtain ⟨c1, c2⟩ := itoa_ok (n := v) (by omega) (by omega)
  obtain ⟨k1, k2⟩ := kLet_ok hk
  exact (rep_words _ _ _ _ _).2 ⟨itoa s, itoa d, itoa v, kLet k, rfl, a1, a2, b1, b2, k1, k2, c1, c2⟩
theorem rep_txt {l : List UInt8} {s d k v : Int} (h : Rep l s d k v) : l = txt s d k v := by
  obtain ⟨a, b, e, c, rfl, a1, rfl, b1, rfl, k1, k2, c1, rfl⟩ := (rep_words _ _ _ _ _).1 h
  rw [txt, num_back a1, num_back b1, num_back c1, kLet_back k1 k2]
theorem itoa_len {n : Int} (h1 : -99999 ≤ n) (h2 : n ≤ 99999) : (itoa n).length ≤ 6 := by
  unfold itoa
  split
  · have := dec_len (u := n.natAbs) (by omega); simp; omega
  · have := dec_len (u := n.toNat) (by omega); omega
theorem txt_len {s d k v : Int} (h : rOk s d k v = true) : (txt s d k v).length ≤ 24 := by
  obtain ⟨hk, hs, hd, hv⟩ := rOk_bd h
  have a := itoa_len (n := s) (by omega) (by omega)
  have b := itoa_len (n := d) (by omega) (by omega)
  have c := itoa_len (n := v) (by omega) (by omega)
  simp [txt]; omega

/-- A text with a blank behind it is none. -/
theorem rep_blank {l : List UInt8} {s d k v s' d' k' v' : Int} (h : Rep l s d k v) : ¬ Rep (l ++ [32]) s' d' k' v' := by
  intro h'
  obtain ⟨a, b, e, c, rfl, a1, _, b1, _, k1, k2, c1, _⟩ := (rep_words _ _ _ _ _).1 h
  obtain ⟨a', b', e', c', he, a1', _, b1', _, k1', k2', c1', _⟩ := (rep_words _ _ _ _ _).1 h'
  have n1 := numOk_no a1
  have n2 := numOk_no b1
  have n3 := numOk_no c1
  have m1 := numOk_no a1'
  have m2 := numOk_no b1'
  have m3 := numOk_no c1'
  have hcl : c' ≠ 32 := by rintro rfl; simp [letter] at k1'; omega
  have he1 : (115 :: a) ++ 32 :: ((100 :: b) ++ 32 :: ((c :: e) ++ [32])) = (115 :: a') ++ 32 :: ((100 :: b') ++ 32 :: (c' :: e')) := by simpa using he
  obtain ⟨_, t1⟩ := split_first (by simp [n1]) (by simp [m1]) he1
  obtain ⟨_, t2⟩ := split_first (by simp [n2]) (by simp [m2]) t1
  have : (32 : UInt8) ∈ c' :: e' := by rw [← t2]; simp
  simp at this
  rcases this with h | h
  · exact hcl h.symm
  · exact m3 h
/-- A text with a zero behind its first letter is none. -/
theorem rep_zero {t : List UInt8} {s d k v s' d' k' v' : Int} (h : Rep (115 :: t) s d k v) : ¬ Rep (115 :: 48 :: t) s' d' k' v' := by
  intro h'
  obtain ⟨a, b, e, c, he, a1, _⟩ := (rep_words _ _ _ _ _).1 h
  obtain ⟨a', b', e', c', he', a1', _⟩ := (rep_words _ _ _ _ _).1 h'
  have n1 := numOk_no a1
  have m1 := numOk_no a1'
  have ht : t = a ++ 32 :: ((100 :: b) ++ 32 :: (c :: e)) := by simpa using he
  have he1 : (115 :: 48 :: a) ++ 32 :: ((100 :: b) ++ 32 :: (c :: e)) = (115 :: a') ++ 32 :: ((100 :: b') ++ 32 :: (c' :: e')) := by
    rw [← he', ht]; simp
  obtain ⟨h1, _⟩ := split_first (x := 32) (by simp [n1]) (by simp [m1]) he1
  have h2 : 48 :: a = a' := (List.cons.inj h1).2
  rw [← h2] at a1'
  have hne : a ≠ [] := by rintro rfl; simp [numOk, digOk] at a1
  rcases numOk_cases a1' with ⟨u, hu, _⟩ | ⟨_, h3⟩
  · simp at hu
  · cases a with
    | nil => exact hne rfl
    | cons x r => simp [digOk] at h3
end Go.Proofs.YtnemdnidlbekbaaGreatDoor
