/- Numbers and reports as lists of bytes. Plain mathematics: nothing here speaks of the program. -/
import Derived.Test.YtnemdnidlbekbaaGreatDoorKl
import Derived.Test.YtnemdnidlbekbaaGreatDoorRv
namespace Go.Proofs.YtnemdnidlbekbaaGreatDoor
open Go.RowKit
set_option linter.unusedVariables false

/-- A byte is a digit. -/
def isDig (c : UInt8) : Bool := decide (48 ≤ c.toNat) && decide (c.toNat ≤ 57)
/-- The number that digits go on with. -/
def dval : List UInt8 → Int → Int
  | [], a => a
  | c :: t, a => dval t (10 * a + ((c.toNat : Int) - 48))
/-- A word of one to five digits without a leading zero. -/
def digOk (u : List UInt8) : Bool := decide (1 ≤ u.length) && decide (u.length ≤ 5) && !(decide (1 < u.length) && (u.headD 0 == 48)) && u.all isDig
/-- .. its number, or -1. -/
def digs (u : List UInt8) : Int := if digOk u then dval u 0 else -1

theorem dval_append (u v : List UInt8) (a : Int) : dval (u ++ v) a = dval v (dval u a) := by
  induction u generalizing a with
  | nil => rfl
  | cons c t ih => exact ih _
theorem dval_nonneg (u : List UInt8) (a : Int) (h : u.all isDig = true) (ha : 0 ≤ a) : 0 ≤ dval u a := by
  induction u generalizing a with
  | nil => exact ha
  | cons c t ih =>
    simp only [List.all_cons, Bool.and_eq_true] at h
    have : 48 ≤ c.toNat := by have := h.1; simp [isDig] at this; omega
    exact ih _ h.2 (by omega)
theorem dval_bound (u : List UInt8) (a : Int) (h : u.all isDig = true) : dval u a ≤ 10 ^ u.length * a + (10 ^ u.length - 1) := by
  induction u generalizing a with
  | nil => simp [dval]
  | cons c t ih =>
    simp only [List.all_cons, Bool.and_eq_true] at h
    have hc : c.toNat ≤ 57 := by have := h.1; simp [isDig] at this; omega
    have := ih (10 * a + ((c.toNat : Int) - 48)) h.2
    simp only [dval, List.length_cons, Int.pow_succ]
    have hP : (0 : Int) ≤ 10 ^ t.length := Int.pow_nonneg (by omega)
    generalize (10 : Int) ^ t.length = P at *
    have h2 : P * (10 * a + ((c.toNat : Int) - 48)) ≤ P * (10 * a + 9) := Int.mul_le_mul_of_nonneg_left (by omega) hP
    have h3 : P * (10 * a + 9) = P * 10 * a + P * 9 := by rw [Int.mul_add, Int.mul_assoc]
    omega
theorem digOk_facts {u : List UInt8} (h : digOk u = true) : 1 ≤ u.length ∧ u.length ≤ 5 ∧ u.all isDig = true ∧ 0 ≤ dval u 0 ∧ dval u 0 ≤ 99999 := by
  simp only [digOk, Bool.and_eq_true, decide_eq_true_eq] at h
  obtain ⟨⟨⟨h1, h2⟩, _⟩, h3⟩ := h
  refine ⟨h1, h2, h3, dval_nonneg u 0 h3 (by omega), ?_⟩
  have hb := dval_bound u 0 h3
  have h5 : u.length = 1 ∨ u.length = 2 ∨ u.length = 3 ∨ u.length = 4 ∨ u.length = 5 := by omega
  rcases h5 with h | h | h | h | h <;> rw [h] at hb <;> simp at hb <;> omega

/-- A number with a sign. -/
def numOk (u : List UInt8) : Bool := if u.headD 0 == 45 then digOk u.tail && decide (0 < dval u.tail 0) else digOk u
def numV (u : List UInt8) : Int := if u.headD 0 == 45 then 0 - dval u.tail 0 else dval u 0
/-- What a reader takes for a number, whatever follows. -/
def nrun (r : List UInt8) : List UInt8 := if r.headD 0 == 45 then 45 :: r.tail.takeWhile isDig else r.takeWhile isDig

theorem takeWhile_all (r : List UInt8) : (r.takeWhile isDig).all isDig = true := by
  induction r with
  | nil => rfl
  | cons c t ih => by_cases h : isDig c = true <;> simp [h, ih]
theorem takeWhile_self (u : List UInt8) (h : u.all isDig = true) : u.takeWhile isDig = u := by
  induction u with
  | nil => rfl
  | cons c t ih =>
    simp only [List.all_cons, Bool.and_eq_true] at h
    simp [h.1, ih h.2]
theorem takeWhile_stop (u : List UInt8) (c : UInt8) (rest : List UInt8) (h : u.all isDig = true) (hc : isDig c = false) : (u ++ c :: rest).takeWhile isDig = u := by
  induction u with
  | nil => simp [hc]
  | cons a t ih =>
    simp only [List.all_cons, Bool.and_eq_true] at h
    simp [h.1, ih h.2]
theorem takeWhile_prefix (r : List UInt8) : r.takeWhile isDig ++ r.drop (r.takeWhile isDig).length = r := by
  induction r with
  | nil => rfl
  | cons c t ih => by_cases h : isDig c = true <;> simp [h, ih]
theorem dig_ne {c : UInt8} (h : isDig c = true) : c ≠ 32 ∧ c ≠ 45 := by
  constructor <;> rintro rfl <;> simp [isDig] at h
theorem all_no {u : List UInt8} (h : u.all isDig = true) : (32 : UInt8) ∉ u := by
  intro hm
  have := List.all_eq_true.1 h 32 hm
  simp [isDig] at this
theorem head_no {u : List UInt8} (h : u.all isDig = true) : (u.headD 0 == 45) = false := by
  cases u with
  | nil => rfl
  | cons c t =>
    simp only [List.all_cons, Bool.and_eq_true] at h
    simp [(dig_ne h.1).2]

theorem nrun_prefix (r : List UInt8) : nrun r ++ r.drop (nrun r).length = r := by
  unfold nrun
  by_cases h : (r.headD 0 == 45) = true
  · cases r with
    | nil => simp at h
    | cons c t =>
      simp at h
      subst h
      simp [takeWhile_prefix t]
  · simp only [h, if_false, Bool.false_eq_true]
    exact takeWhile_prefix r
theorem nrun_len (r : List UInt8) : (nrun r).length ≤ r.length := by
  have := congrArg List.length (nrun_prefix r)
  simp at this
  omega

theorem numOk_cases {u : List UInt8} (h : numOk u = true) : (∃ t, u = 45 :: t ∧ digOk t = true ∧ 0 < dval t 0) ∨ ((u.headD 0 == 45) = false ∧ digOk u = true) := by
  unfold numOk at h
  by_cases hc : (u.headD 0 == 45) = true
  · left
    rw [if_pos hc] at h
    cases u with
    | nil => simp at hc
    | cons c t =>
      simp at hc
      subst hc
      simp at h
      exact ⟨t, rfl, h.1, of_decide_eq_true h.2⟩
  · right
    rw [if_neg hc] at h
    exact ⟨by simpa using hc, h⟩
theorem numOk_no {u : List UInt8} (h : numOk u = true) : (32 : UInt8) ∉ u := by
  rcases numOk_cases h with ⟨t, rfl, h1, _⟩ | ⟨_, h1⟩
  · have := all_no (digOk_facts h1).2.2.1
    simp [this]
  · exact all_no (digOk_facts h1).2.2.1
theorem numV_bound {u : List UInt8} (h : numOk u = true) : -99999 ≤ numV u ∧ numV u ≤ 99999 := by
  rcases numOk_cases h with ⟨t, rfl, h1, h2⟩ | ⟨hc, h1⟩
  · have := digOk_facts h1
    simp [numV]; omega
  · have := digOk_facts h1
    rw [numV, hc]; simp; omega
theorem nrun_self {u : List UInt8} (h : numOk u = true) : nrun u = u := by
  rcases numOk_cases h with ⟨t, rfl, h1, _⟩ | ⟨hc, h1⟩
  · simp [nrun, takeWhile_self t (digOk_facts h1).2.2.1]
  · rw [nrun, hc]; simp [takeWhile_self u (digOk_facts h1).2.2.1]
theorem nrun_stop {u : List UInt8} (h : numOk u = true) (rest : List UInt8) : nrun (u ++ 32 :: rest) = u := by
  have h32 : isDig 32 = false := by decide
  rcases numOk_cases h with ⟨t, rfl, h1, _⟩ | ⟨hc, h1⟩
  · simp [nrun, takeWhile_stop t 32 rest (digOk_facts h1).2.2.1 h32]
  · have hf := digOk_facts h1
    have hd : ((u ++ 32 :: rest).headD 0 == 45) = false := by
      cases u with
      | nil => simp at hf
      | cons c t => simpa using hc
    rw [nrun, hd]; simp [takeWhile_stop u 32 rest hf.2.2.1 h32]

/-- The kind of a letter: 0 if there is none. -/
def letter (c : UInt8) : Int := if c = 116 then 1 else if c = 114 then 2 else if c = 112 then 3 else 0

/-- The rest of a report behind its words: the value; the day, the letter and the value; all. As a reader finds it. -/
def Rep3 (t : List UInt8) (v : Int) : Prop := numOk (nrun t) = true ∧ numV (nrun t) = v ∧ t.drop (nrun t).length = []
def Rep2 (t : List UInt8) (d k v : Int) : Prop := numOk (nrun t) = true ∧ numV (nrun t) = d ∧ ∃ c t3, t.drop (nrun t).length = 32 :: c :: t3 ∧ letter c = k ∧ 1 ≤ k ∧ Rep3 t3 v
def Rep1 (t : List UInt8) (s d k v : Int) : Prop := numOk (nrun t) = true ∧ numV (nrun t) = s ∧ ∃ t2, t.drop (nrun t).length = 32 :: 100 :: t2 ∧ Rep2 t2 d k v
def Rep (l : List UInt8) (s d k v : Int) : Prop := ∃ t, l = 115 :: t ∧ Rep1 t s d k v

theorem Rep.unique {l : List UInt8} {s d k v s' d' k' v' : Int} (h : Rep l s d k v) (h' : Rep l s' d' k' v') : s = s' ∧ d = d' ∧ k = k' ∧ v = v' := by
  obtain ⟨t, rfl, _, e1, t2, e2, _, e3, c, t3, e4, e5, _, _, e6, _⟩ := h
  obtain ⟨t', he, _, f1, t2', f2, _, f3, c', t3', f4, f5, _, _, f6, _⟩ := h'
  simp at he
  subst he
  rw [e2] at f2
  simp at f2
  subst f2
  rw [e4] at f4
  simp at f4
  obtain ⟨rfl, rfl⟩ := f4
  exact ⟨e1.symm.trans f1, e3.symm.trans f3, e5.symm.trans f5, e6.symm.trans f6⟩

/-- As words: three words without blanks. -/
theorem rep_words (l : List UInt8) (s d k v : Int) : Rep l s d k v ↔ ∃ a b e c, l = (115 :: a) ++ 32 :: ((100 :: b) ++ 32 :: (c :: e)) ∧ numOk a = true ∧ numV a = s ∧ numOk b = true ∧ numV b = d ∧ letter c = k ∧ 1 ≤ k ∧ numOk e = true ∧ numV e = v := by
  constructor
  · rintro ⟨t, rfl, h1, h2, t2, h3, h4, h5, c, t3, h6, h7, h8, h9, h10, h11⟩
    refine ⟨nrun t, nrun t2, nrun t3, c, ?_, h1, h2, h4, h5, h7, h8, h9, h10⟩
    have p1 := nrun_prefix t
    have p2 := nrun_prefix t2
    have p3 := nrun_prefix t3
    rw [h11, List.append_nil] at p3
    rw [h6] at p2
    rw [h3] at p1
    simp only [List.cons_append]
    rw [p3, p2, p1]
  · rintro ⟨a, b, e, c, rfl, h1, h2, h3, h4, h5, h6, h7, h8⟩
    have n1 : nrun (a ++ 32 :: ((100 :: b) ++ 32 :: (c :: e))) = a := nrun_stop h1 _
    have n2 : nrun (b ++ 32 :: (c :: e)) = b := nrun_stop h3 _
    have n3 := nrun_self h7
    refine ⟨a ++ 32 :: ((100 :: b) ++ 32 :: (c :: e)), rfl, by rw [n1]; exact h1, by rw [n1]; exact h2, b ++ 32 :: (c :: e), by rw [n1]; simp, by rw [n2]; exact h3, by rw [n2]; exact h4, c, e, by rw [n2]; simp, h5, h6, by rw [n3]; exact h7, by rw [n3]; exact h8, by rw [n3]; simp⟩

/-- What a parser of reports answers. -/
def Parsed (l : List UInt8) (e : Ending) : Prop :=
  (∃ s d k v, Rep l s d k v ∧ rOk s d k v = true ∧ e = .returned (.tuple #[.agg #[.int .i64 s, .int .i64 d, .int .i64 k, .int .i64 v], .bool true])) ∨
  ((∀ s d k v, Rep l s d k v → rOk s d k v = false) ∧ e = .returned (.tuple #[.agg #[.int .i64 0, .int .i64 0, .int .i64 0, .int .i64 0], .bool false]))

theorem Parsed.same {l : List UInt8} {e e' : Ending} (h : Parsed l e) (h' : Parsed l e') : e = e' := by
  rcases h with ⟨s, d, k, v, h1, h2, rfl⟩ | ⟨h1, rfl⟩ <;> rcases h' with ⟨s', d', k', v', h3, h4, rfl⟩ | ⟨h3, rfl⟩
  · obtain ⟨rfl, rfl, rfl, rfl⟩ := h1.unique h3; rfl
  · rw [h3 _ _ _ _ h1] at h2; cases h2
  · rw [h1 _ _ _ _ h3] at h4; cases h4
  · rfl
end Go.Proofs.YtnemdnidlbekbaaGreatDoor
