/- The nearest sites: what the program and the model answer. -/
import Derived.Test.YtpgdbhafdnfhcaaNs
namespace Go.Proofs.Ytpgdbhafdnfhcaa
open Go.RowKit
set_option linter.unusedVariables false

theorem far_sym (a b : R3) : far a b = far b a := by
  have h : ∀ x y : Int, (x - y) * (x - y) = (y - x) * (y - x) := fun x y => by
    rw [show x - y = -(y - x) by omega, Int.neg_mul_neg]
  unfold far
  rw [h (tX a) (tX b), h (tY a) (tY b)]
theorem si_tB {ts : List R3} (h : siB ts = true) {k : Nat} (hk : k < ts.length) : tB (ts.getD k t0) = true := by
  have := si_at h hk
  simp only [stp, Bool.and_eq_true] at this
  exact this.1
theorem si_asc {ts : List R3} (h : siB ts = true) : ∀ (d i : Nat), i + d + 1 < ts.length → tS (ts.getD i t0) < tS (ts.getD (i + d + 1) t0)
  | 0, i, hi => by
    have := si_at h hi
    simp only [stp, Bool.and_eq_true, Bool.or_eq_true, decide_eq_true_eq, Nat.add_sub_cancel] at this
    rcases this.2 with h | h
    · omega
    · exact h
  | d + 1, i, hi => by
    have h1 := si_asc h d i (by omega)
    have := si_at h hi
    simp only [stp, Bool.and_eq_true, Bool.or_eq_true, decide_eq_true_eq, Nat.add_sub_cancel] at this
    rcases this.2 with h2 | h2
    · omega
    · exact Int.lt_trans h1 h2
theorem si_lt {ts : List R3} (h : siB ts = true) {i j : Nat} (hij : i < j) (hj : j < ts.length) : tS (ts.getD i t0) < tS (ts.getD j t0) := by
  have := si_asc h (j - i - 1) i (by omega)
  rwa [show i + (j - i - 1) + 1 = j by omega] at this
theorem si_inj {ts : List R3} (h : siB ts = true) {i j : Nat} (hi : i < ts.length) (hj : j < ts.length) (he : tS (ts.getD i t0) = tS (ts.getD j t0)) : i = j := by
  rcases Nat.lt_trichotomy i j with h1 | h1 | h1
  · have := si_lt h h1 hj; omega
  · exact h1
  · have := si_lt h h1 hi; omega
theorem mem_at {ts : List R3} {r : R3} (h : r ∈ ts) : ∃ i, i < ts.length ∧ ts.getD i t0 = r := by
  obtain ⟨i, hi, rfl⟩ := List.getElem_of_mem h
  exact ⟨i, hi, by simp [List.getD_eq_getElem?_getD, hi]⟩
/-- The place of a station, or the length. -/
def plc (ts : List R3) (st : Int) : Nat := (ts.takeWhile fun r => tS r != st).length
theorem plc_eq {ts : List R3} {st : Int} : ∀ {i : Nat}, i < ts.length → tS (ts.getD i t0) = st → (∀ j, j < i → tS (ts.getD j t0) ≠ st) → plc ts st = i := by
  induction ts with
  | nil => intro i hi; simp at hi
  | cons r ts ih =>
    intro i hi he hb
    cases i with
    | zero =>
      have e : (tS r != st) = false := by simpa using he
      simp [plc, e]
    | succ i =>
      have e : (tS r != st) = true := bne_iff_ne.2 (hb 0 (by omega))
      have h2 := ih (i := i) (by simpa using hi) (by simpa using he) (fun j hj => by simpa using hb (j + 1) (by omega))
      unfold plc at h2 ⊢
      rw [List.takeWhile_cons, e]
      simp [h2]
theorem plc_none {ts : List R3} {st : Int} (h : ∀ i, i < ts.length → tS (ts.getD i t0) ≠ st) : plc ts st = ts.length := by
  induction ts with
  | nil => rfl
  | cons r ts ih =>
    have e : (tS r != st) = true := bne_iff_ne.2 (h 0 (by simp))
    have h2 := ih (fun i hi => by simpa using h (i + 1) (by simpa using hi))
    unfold plc at h2 ⊢
    rw [List.takeWhile_cons, e]
    simp [h2]
theorem plc_self {ts : List R3} (h : siB ts = true) {p : Nat} (hp : p < ts.length) : plc ts (tS (ts.getD p t0)) = p :=
  plc_eq hp rfl (fun j hj he => by have := si_inj h (by omega) hp he; omega)
theorem plc_at {ts : List R3} {st : Int} (h : plc ts st < ts.length) : tS (ts.getD (plc ts st) t0) = st := by
  by_cases hx : ∃ i, i < ts.length ∧ tS (ts.getD i t0) = st
  · have hm : ∃ i, (i < ts.length ∧ tS (ts.getD i t0) = st) ∧ ∀ j, j < i → ¬ (j < ts.length ∧ tS (ts.getD j t0) = st) := by
      obtain ⟨i, hi⟩ := hx
      induction i using Nat.strongRecOn with
      | ind i ih =>
        by_cases hc : ∃ j, j < i ∧ (j < ts.length ∧ tS (ts.getD j t0) = st)
        · obtain ⟨j, hj, hjj⟩ := hc
          exact ih j hj hjj
        · exact ⟨i, hi, fun j hj hjj => hc ⟨j, hj, hjj⟩⟩
    obtain ⟨i, ⟨hi, he⟩, hb⟩ := hm
    rw [plc_eq hi he (fun j hj hjs => hb j hj ⟨by omega, hjs⟩)]
    exact he
  · have := plc_none (ts := ts) (st := st) (fun i hi he => hx ⟨i, hi, he⟩)
    omega
/-- The other sites, by their distance. -/
def nrP (ts : List R3) (p : Nat) : List R3 := srt (kf (ts.getD p t0)) (ts.take p ++ ts.drop (p + 1))
def nrOk (ts : List R3) (st many : Int) : Bool := siB ts && decide (plc ts st < ts.length) && inB many 0 6
def nrL (ts : List R3) (st many : Int) : List Int := if nrOk ts st many then ((nrP ts (plc ts st)).take many.toNat).map tS else []
theorem nrL_no {ts : List R3} {st many : Int} (h : nrOk ts st many = false) : nrL ts st many = [] := by simp [nrL, h]
theorem nrL_yes {ts : List R3} {st many : Int} (h : nrOk ts st many = true) : nrL ts st many = ((nrP ts (plc ts st)).take many.toNat).map tS := by simp [nrL, h]
theorem nrOk_facts {ts : List R3} {st many : Int} (h : nrOk ts st many = true) : siB ts = true ∧ plc ts st < ts.length ∧ (0 ≤ many ∧ many ≤ 6) := by
  simp only [nrOk, Bool.and_eq_true, decide_eq_true_eq] at h
  refine ⟨h.1.1, h.1.2, ?_⟩
  have := h.2
  simp [inB] at this; omega
theorem nrL_len (ts : List R3) (st many : Int) : (nrL ts st many).length ≤ 6 := by
  unfold nrL
  split
  · rename_i h
    have := nrOk_facts h
    rw [List.length_map, List.length_take]; omega
  · simp
theorem nrP_len {ts : List R3} {p : Nat} (hp : p < ts.length) : (nrP ts p).length = ts.length - 1 := by
  rw [nrP, (srt_perm _ _).length_eq, List.length_append, List.length_take, List.length_drop]; omega
theorem oth_mem {ts : List R3} {p : Nat} {r : R3} (hp : p < ts.length) : r ∈ ts.take p ++ ts.drop (p + 1) ↔ ∃ i, i < ts.length ∧ i ≠ p ∧ ts.getD i t0 = r := by
  rw [List.mem_append]
  constructor
  · rintro (h | h)
    · obtain ⟨i, hi, rfl⟩ := List.getElem_of_mem h
      rw [List.length_take] at hi
      refine ⟨i, by omega, by omega, ?_⟩
      rw [List.getElem_take]; simp [List.getD_eq_getElem?_getD, (show i < ts.length by omega)]
    · obtain ⟨i, hi, rfl⟩ := List.getElem_of_mem h
      rw [List.length_drop] at hi
      refine ⟨p + 1 + i, by omega, by omega, ?_⟩
      rw [List.getElem_drop]; simp [List.getD_eq_getElem?_getD, (show p + 1 + i < ts.length by omega)]
  · rintro ⟨i, hi, hne, rfl⟩
    have e : ts.getD i t0 = ts[i] := by simp [List.getD_eq_getElem?_getD, hi]
    rw [e]
    by_cases h : i < p
    · left; rw [← List.getElem_take (j := p) (h := by rw [List.length_take]; omega)]; exact List.getElem_mem _
    · right
      have h2 : (ts.drop (p + 1))[i - (p + 1)]'(by rw [List.length_drop]; omega) = ts[i] := by
        rw [List.getElem_drop]
        congr 1
        omega
      rw [← h2]; exact List.getElem_mem _
theorem kf_inj {ts : List R3} (h : siB ts = true) {p : Nat} (hp : p < ts.length) (c : R3) : ∀ a ∈ ts.take p ++ ts.drop (p + 1), ∀ b ∈ ts.take p ++ ts.drop (p + 1), kf c a = kf c b → a = b := by
  intro a ha b hb he
  obtain ⟨i, hi, _, rfl⟩ := (oth_mem hp).1 ha
  obtain ⟨j, hj, _, rfl⟩ := (oth_mem hp).1 hb
  have h1 := tB_bd (si_tB h hi)
  have h2 := tB_bd (si_tB h hj)
  have h3 : tS (ts.getD i t0) = tS (ts.getD j t0) := by unfold kf at he; omega
  rw [si_inj h hi hj h3]
/-- The other sites, as the program collects them. -/
theorem oth_eq {ts : List R3} (h : siB ts = true) {p : Nat} (hp : p < ts.length) : ts.filter (fun r => tS r != tS (ts.getD p t0)) = ts.take p ++ ts.drop (p + 1) := by
  have e : ts = ts.take p ++ ts.getD p t0 :: ts.drop (p + 1) := by
    have h3 : ts.getD p t0 = ts[p] := by simp [List.getD_eq_getElem?_getD, hp]
    rw [h3, ← List.drop_eq_getElem_cons hp, List.take_append_drop]
  have f1 : (ts.take p).filter (fun r => tS r != tS (ts.getD p t0)) = ts.take p := by
    rw [List.filter_eq_self]
    intro r hr
    obtain ⟨i, hi, rfl⟩ := List.getElem_of_mem hr
    rw [List.length_take] at hi
    refine bne_iff_ne.2 (fun he => ?_)
    rw [List.getElem_take] at he
    have e2 : ts[i] = ts.getD i t0 := by simp [List.getD_eq_getElem?_getD, (show i < ts.length by omega)]
    rw [e2] at he
    have := si_inj h (by omega) hp he
    omega
  have f2 : (ts.drop (p + 1)).filter (fun r => tS r != tS (ts.getD p t0)) = ts.drop (p + 1) := by
    rw [List.filter_eq_self]
    intro r hr
    obtain ⟨i, hi, rfl⟩ := List.getElem_of_mem hr
    rw [List.length_drop] at hi
    refine bne_iff_ne.2 (fun he => ?_)
    rw [List.getElem_drop] at he
    have e2 : ts[p + 1 + i] = ts.getD (p + 1 + i) t0 := by simp [List.getD_eq_getElem?_getD, (show p + 1 + i < ts.length by omega)]
    rw [e2] at he
    have := si_inj h (by omega) hp he
    omega
  have e3 := congrArg (List.filter (fun r => tS r != tS (ts.getD p t0))) e
  have f3 : (tS (ts.getD p t0) != tS (ts.getD p t0)) = false := by simp
  rw [e3, List.filter_append, List.filter_cons, f2, f3, f1]
  rfl
theorem nrP_mem {ts : List R3} {p : Nat} (hp : p < ts.length) {r : R3} : r ∈ nrP ts p ↔ ∃ i, i < ts.length ∧ i ≠ p ∧ ts.getD i t0 = r := by
  rw [nrP, (srt_perm _ _).mem_iff, oth_mem hp]
theorem nrP_nodup {ts : List R3} (h : siB ts = true) {p : Nat} (hp : p < ts.length) {i j : Nat} (hij : i < j) (hj : j < (nrP ts p).length) : (nrP ts p).getD i t0 ≠ (nrP ts p).getD j t0 := by
  have hn : ts.Nodup := by
    rw [List.Nodup, List.pairwise_iff_getElem]
    intro a b ha hb hab he
    have h1 := si_lt h hab hb
    have e1 : ts[a] = ts.getD a t0 := by simp [List.getD_eq_getElem?_getD, ha]
    have e2 : ts[b] = ts.getD b t0 := by simp [List.getD_eq_getElem?_getD, hb]
    rw [e1, e2] at he
    rw [he] at h1; omega
  have hs : (ts.take p ++ ts.drop (p + 1)).Nodup := by
    rw [← oth_eq h hp]; exact hn.filter _
  have hd : (nrP ts p).Nodup := (srt_perm _ _).nodup_iff.2 hs
  have hi : i < (nrP ts p).length := by omega
  have := (List.pairwise_iff_getElem.1 hd) i j hi hj hij
  simpa [List.getD_eq_getElem?_getD, hi, hj] using this
end Go.Proofs.Ytpgdbhafdnfhcaa
