/- Differences of two versions, without the program: the keys of a store in order, each once, whose values differ ('dfL'). -/
import Derived.Test.YtamdfdbhkmgflaaVe
namespace Go.Proofs.Ytamdfdbhkmgflaa
open Go.RowKit
set_option linter.unusedVariables false

/-- Station, day, kind. -/
abbrev K3 := Int × Int × Int
def k0 : K3 := (0, 0, 0)
def kS (k : K3) : Int := k.1
def kD (k : K3) : Int := k.2.1
def kT (k : K3) : Int := k.2.2
theorem K3.ext' {a b : K3} (h1 : kS a = kS b) (h2 : kD a = kD b) (h3 : kT a = kT b) : a = b := by
  obtain ⟨a1, a2, a3⟩ := a
  obtain ⟨b1, b2, b3⟩ := b
  simp only [kS, kD, kT] at h1 h2 h3
  subst h1; subst h2; subst h3; rfl
def keyR (r : R4) : K3 := (rS r, rD r, rK r)
/-- The order of keys: station, kind, day. -/
def klt (a b : K3) : Bool := decide (kS a < kS b) || (decide (kS a = kS b) && (decide (kT a < kT b) || (decide (kT a = kT b) && decide (kD a < kD b))))
theorem klt_iff {a b : K3} : klt a b = true ↔ kS a < kS b ∨ (kS a = kS b ∧ (kT a < kT b ∨ (kT a = kT b ∧ kD a < kD b))) := by
  simp [klt]
theorem klt_no {a b : K3} : klt a b = false ↔ ¬ (kS a < kS b ∨ (kS a = kS b ∧ (kT a < kT b ∨ (kT a = kT b ∧ kD a < kD b)))) := by
  rw [← klt_iff]; simp
theorem klt_irr (a : K3) : klt a a = false := by rw [klt_no]; omega
theorem klt_trans {a b c : K3} (h1 : klt a b = true) (h2 : klt b c = true) : klt a c = true := by
  rw [klt_iff] at *; omega
theorem klt_tri {a b : K3} (h1 : klt a b = false) (h2 : klt b a = false) : a = b := by
  rw [klt_no] at h1 h2
  exact K3.ext' (by omega) (by omega) (by omega)
theorem klt_of {a b : K3} (h1 : klt b a = false) (h2 : a ≠ b) : klt a b = true := by
  cases h : klt a b
  · exact absurd (klt_tri h h1) h2
  · rfl
/-- Ascending, each once. -/
def Kasc (l : List K3) : Prop := l.Pairwise fun a b => klt a b = true
theorem kasc_ext : ∀ {A B : List K3}, Kasc A → Kasc B → (∀ x, x ∈ A ↔ x ∈ B) → A = B
  | [], [], _, _, _ => rfl
  | [], b :: B, _, _, h => absurd ((h b).2 List.mem_cons_self) (by simp)
  | a :: A, [], _, _, h => absurd ((h a).1 List.mem_cons_self) (by simp)
  | a :: A, b :: B, hA, hB, h => by
    unfold Kasc at hA hB
    rw [List.pairwise_cons] at hA hB
    have h1 : a = b := by
      have e1 := (h a).1 List.mem_cons_self
      have e2 := (h b).2 List.mem_cons_self
      rw [List.mem_cons] at e1 e2
      rcases e1 with e1 | e1
      · exact e1
      · rcases e2 with e2 | e2
        · exact e2.symm
        · have := klt_trans (hA.1 b e2) (hB.1 a e1)
          rw [klt_irr] at this; cases this
    subst h1
    rw [kasc_ext hA.2 hB.2 fun x => ⟨fun hx => ?_, fun hx => ?_⟩]
    · have e := (h x).1 (List.mem_cons_of_mem _ hx)
      rw [List.mem_cons] at e
      rcases e with e | e
      · subst e; have := hA.1 x hx; rw [klt_irr] at this; cases this
      · exact e
    · have e := (h x).2 (List.mem_cons_of_mem _ hx)
      rw [List.mem_cons] at e
      rcases e with e | e
      · subst e; have := hB.1 x hx; rw [klt_irr] at this; cases this
      · exact e
/-- A key put at its place, once. -/
def kput : List K3 → K3 → List K3
  | [], k => [k]
  | x :: xs, k => if klt x k then x :: kput xs k else if x = k then x :: xs else k :: x :: xs
/-- How many keys come ahead of a key. -/
def kpos (l : List K3) (k : K3) : Nat := (l.takeWhile fun x => klt x k).length
theorem kput_mem {l : List K3} {k x : K3} : x ∈ kput l k ↔ x ∈ l ∨ x = k := by
  induction l with
  | nil => simp [kput]
  | cons a l ih =>
    rw [kput]
    split
    · rw [List.mem_cons, List.mem_cons, ih]
      constructor
      · rintro (h | h | h)
        · exact .inl (.inl h)
        · exact .inl (.inr h)
        · exact .inr h
      · rintro ((h | h) | h)
        · exact .inl h
        · exact .inr (.inl h)
        · exact .inr (.inr h)
    · split
      · rename_i _ h
        subst h
        constructor
        · exact fun h => .inl h
        · rintro (h | h)
          · exact h
          · rw [h]; exact List.mem_cons_self
      · rw [List.mem_cons]
        constructor
        · rintro (h | h)
          · exact .inr h
          · exact .inl h
        · rintro (h | h)
          · exact .inr h
          · exact .inl h
theorem kput_asc : ∀ {l : List K3} {k : K3}, Kasc l → Kasc (kput l k)
  | [], k, _ => by unfold Kasc kput; simp
  | a :: l, k, h => by
    have h0 := h
    unfold Kasc at h
    rw [List.pairwise_cons] at h
    rw [kput]
    split
    · rename_i hak
      refine List.pairwise_cons.2 ⟨fun x hx => ?_, kput_asc h.2⟩
      rcases kput_mem.1 hx with hx | rfl
      · exact h.1 x hx
      · exact hak
    · rename_i hak
      have hak : klt a k = false := by simpa using hak
      split
      · exact h0
      · rename_i hne
        have hka := klt_of hak (fun e => hne e.symm)
        refine List.pairwise_cons.2 ⟨fun x hx => ?_, h0⟩
        rcases List.mem_cons.1 hx with rfl | hx
        · exact hka
        · exact klt_trans hka (h.1 x hx)
/-- .. as the model puts it: what is ahead, the key, the rest. -/
theorem kput_parts : ∀ (l : List K3) (k : K3), kput l k = if kpos l k < l.length ∧ l.getD (kpos l k) k0 = k then l else l.take (kpos l k) ++ k :: l.drop (kpos l k)
  | [], k => by simp [kput, kpos]
  | a :: l, k => by
    rw [kput]
    by_cases h : klt a k = true
    · have e : kpos (a :: l) k = kpos l k + 1 := by simp [kpos, h]
      rw [if_pos h, kput_parts l k, e]
      simp only [List.length_cons, Nat.add_lt_add_iff_right, List.getD_cons_succ, List.take_succ_cons, List.drop_succ_cons, List.cons_append]
      split <;> rfl
    · have e : kpos (a :: l) k = 0 := by simp [kpos, h]
      rw [if_neg h, e]
      simp only [List.length_cons, List.getD_cons_zero, List.take_zero, List.drop_zero, List.nil_append, Nat.zero_lt_succ, true_and]
theorem kpos_le (l : List K3) (k : K3) : kpos l k ≤ l.length := by
  unfold kpos; exact (List.takeWhile_prefix _).length_le
theorem kpos_ahead {l : List K3} {k : K3} : ∀ {i : Nat}, i < kpos l k → klt (l.getD i k0) k = true := by
  induction l with
  | nil => intro i hi; simp [kpos] at hi
  | cons a l ih =>
    intro i hi
    by_cases h : klt a k = true
    · cases i with
      | zero => simpa using h
      | succ i =>
        have e : kpos (a :: l) k = kpos l k + 1 := by simp [kpos, h]
        rw [e] at hi
        simpa using ih (i := i) (by omega)
    · simp [kpos, h] at hi
theorem kpos_stop {l : List K3} {k : K3} : ∀ {i : Nat}, i ≤ l.length → (∀ j, j < i → klt (l.getD j k0) k = true) → (i = l.length ∨ klt (l.getD i k0) k = false) → kpos l k = i := by
  induction l with
  | nil => intro i hi _ _; simp at hi; simp [kpos, hi]
  | cons a l ih =>
    intro i hi ha hs
    cases i with
    | zero =>
      rcases hs with hs | hs
      · simp at hs
      · have h : klt a k = false := by simpa using hs
        simp [kpos, h]
    | succ i =>
      have h : klt a k = true := by simpa using ha 0 (by omega)
      have e : kpos (a :: l) k = kpos l k + 1 := by simp [kpos, h]
      rw [e, ih (i := i) (by simpa using hi) (fun j hj => by simpa using ha (j + 1) (by omega)) (by simpa using hs)]
theorem kput_len (l : List K3) (k : K3) : (kput l k).length ≤ l.length + 1 := by
  induction l with
  | nil => simp [kput]
  | cons a l ih =>
    rw [kput]
    split
    · simpa using ih
    · split <;> simp
/-- Whether the value of a key differs between two versions. -/
def dfB (rs : List R4) (a b : Nat) (k : K3) : Bool := vN rs (kS k) (kD k) (kT k) a != vN rs (kS k) (kD k) (kT k) b
/-- The keys of the first n reports whose values differ, as the model collects them. -/
def dfN (rs : List R4) (a b : Nat) : Nat → List K3
  | 0 => []
  | n + 1 => if dfB rs a b (keyR (rs.getD n r0)) then kput (dfN rs a b n) (keyR (rs.getD n r0)) else dfN rs a b n
theorem dfN_asc (rs : List R4) (a b : Nat) : ∀ n, Kasc (dfN rs a b n)
  | 0 => List.Pairwise.nil
  | n + 1 => by
    rw [dfN]; split
    · exact kput_asc (dfN_asc rs a b n)
    · exact dfN_asc rs a b n
theorem dfN_len (rs : List R4) (a b : Nat) : ∀ n, (dfN rs a b n).length ≤ n
  | 0 => by simp [dfN]
  | n + 1 => by
    have := dfN_len rs a b n
    rw [dfN]; split
    · have := kput_len (dfN rs a b n) (keyR (rs.getD n r0)); omega
    · omega
theorem dfN_mem (rs : List R4) (a b : Nat) (k : K3) : ∀ n, k ∈ dfN rs a b n ↔ (∃ i, i < n ∧ keyR (rs.getD i r0) = k) ∧ dfB rs a b k = true
  | 0 => by simp [dfN]
  | n + 1 => by
    rw [dfN]
    split
    · rename_i h
      rw [kput_mem, dfN_mem rs a b k n]
      constructor
      · rintro (⟨⟨i, hi, he⟩, hd⟩ | rfl)
        · exact ⟨⟨i, by omega, he⟩, hd⟩
        · exact ⟨⟨n, by omega, rfl⟩, h⟩
      · rintro ⟨⟨i, hi, he⟩, hd⟩
        by_cases hin : i < n
        · exact .inl ⟨⟨i, hin, he⟩, hd⟩
        · obtain rfl : i = n := by omega
          exact .inr he.symm
    · rename_i h
      rw [dfN_mem rs a b k n]
      constructor
      · rintro ⟨⟨i, hi, he⟩, hd⟩
        exact ⟨⟨i, by omega, he⟩, hd⟩
      · rintro ⟨⟨i, hi, he⟩, hd⟩
        by_cases hin : i < n
        · exact ⟨⟨i, hin, he⟩, hd⟩
        · obtain rfl : i = n := by omega
          rw [he] at h; exact absurd hd h
def dfOk (rs : List R4) (a b : Int) : Bool := vrB rs a && vrB rs b
def dfL (rs : List R4) (a b : Int) : List K3 := if dfOk rs a b then dfN rs a.toNat b.toNat rs.length else []
theorem dfL_no {rs : List R4} {a b : Int} (h : dfOk rs a b = false) : dfL rs a b = [] := by simp [dfL, h]
theorem dfL_yes {rs : List R4} {a b : Int} (h : dfOk rs a b = true) : dfL rs a b = dfN rs a.toNat b.toNat rs.length := by simp [dfL, h]
/-- Each once: a list whose neighbours are equal or ascend, without repetition. -/
def kcp : List K3 → List K3
  | a :: b :: l => if a = b then kcp (b :: l) else a :: kcp (b :: l)
  | l => l
theorem kcp_mem : ∀ (l : List K3) (x : K3), x ∈ kcp l ↔ x ∈ l
  | [], x => Iff.rfl
  | [a], x => Iff.rfl
  | a :: b :: l, x => by
    rw [kcp]
    split
    · rename_i h
      subst h
      rw [kcp_mem (a :: l) x]; simp
    · rw [List.mem_cons, kcp_mem (b :: l) x]; simp only [List.mem_cons]
theorem kcp_asc : ∀ {l : List K3}, l.Pairwise (fun a b => klt b a = false) → Kasc (kcp l)
  | [], _ => List.Pairwise.nil
  | [a], _ => by unfold Kasc kcp; simp
  | a :: b :: l, h => by
    rw [List.pairwise_cons] at h
    rw [kcp]
    split
    · exact kcp_asc h.2
    · rename_i hne
      refine List.pairwise_cons.2 ⟨fun x hx => ?_, kcp_asc h.2⟩
      rw [kcp_mem] at hx
      have hab := klt_of (h.1 b List.mem_cons_self) hne
      rcases List.mem_cons.1 hx with rfl | hx
      · exact hab
      · have h2 := (List.pairwise_cons.1 h.2).1 x hx
        cases hbx : klt b x
        · rw [klt_tri hbx h2] at hab; exact hab
        · exact klt_trans hab hbx
/-- What the program makes of the sorted keys is what the model collects. -/
theorem df_one {rs : List R4} {a b : Nat} {l : List K3} (hp : l.Perm (rs.map keyR)) (hs : l.Pairwise (fun a b => klt b a = false)) : (kcp l).filter (dfB rs a b) = dfN rs a b rs.length := by
  refine kasc_ext ((kcp_asc hs).filter _) (dfN_asc rs a b _) fun x => ?_
  rw [List.mem_filter, kcp_mem, hp.mem_iff, dfN_mem, List.mem_map]
  constructor
  · rintro ⟨⟨r, hr, rfl⟩, hd⟩
    obtain ⟨i, hi, rfl⟩ := List.getElem_of_mem hr
    exact ⟨⟨i, hi, by simp [List.getD_eq_getElem?_getD, hi]⟩, hd⟩
  · rintro ⟨⟨i, hi, rfl⟩, hd⟩
    refine ⟨⟨rs.getD i r0, ?_, rfl⟩, hd⟩
    simp [List.getD_eq_getElem?_getD, hi]
theorem dfB_sym (rs : List R4) (a b : Nat) (k : K3) : dfB rs a b k = dfB rs b a k := by
  unfold dfB
  rw [Bool.eq_iff_iff, bne_iff_ne, bne_iff_ne]
  exact ⟨fun h e => h e.symm, fun h e => h e.symm⟩
theorem dfN_sym (rs : List R4) (a b : Nat) : ∀ n, dfN rs a b n = dfN rs b a n
  | 0 => rfl
  | n + 1 => by rw [dfN, dfN, dfN_sym rs a b n, dfB_sym]
theorem dfL_sym (rs : List R4) (a b : Int) : dfL rs a b = dfL rs b a := by
  unfold dfL dfOk
  rw [Bool.and_comm, dfN_sym]
theorem dfN_self (rs : List R4) (a : Nat) : ∀ n, dfN rs a a n = []
  | 0 => rfl
  | n + 1 => by rw [dfN, if_neg (by simp [dfB]), dfN_self rs a n]
theorem dfL_self (rs : List R4) (a : Int) : dfL rs a a = [] := by
  unfold dfL; rw [dfN_self]; simp
/-- No key is there twice. -/
theorem kasc_nodup {l : List K3} (h : Kasc l) {i j : Nat} (hij : i < j) (hj : j < l.length) : l.getD i k0 ≠ l.getD j k0 := by
  have h1 := (List.pairwise_iff_getElem.1 h) i j (by omega) hj hij
  intro e
  rw [show l.getD i k0 = l[i] by simp [List.getD_eq_getElem?_getD, show i < l.length by omega], show l.getD j k0 = l[j] by simp [List.getD_eq_getElem?_getD, hj]] at e
  rw [e, klt_irr] at h1; cases h1
/-- How often a key stands in the first n of a list. -/
def kcn (l : List K3) (k : K3) (n : Nat) : Nat := (l.take n).countP fun x => decide (x = k)
theorem kcn_zero (l : List K3) (k : K3) : kcn l k 0 = 0 := by simp [kcn]
theorem kcn_succ {l : List K3} {k : K3} {n : Nat} (h : n < l.length) : kcn l k (n + 1) = kcn l k n + (if l.getD n k0 = k then 1 else 0) := by
  unfold kcn
  rw [List.take_succ_eq_append_getElem h, List.countP_append, show l.getD n k0 = l[n] by simp [List.getD_eq_getElem?_getD, h]]
  by_cases e : l[n] = k <;> simp [e]
theorem kcn_all : ∀ {l : List K3} {k : K3}, Kasc l → kcn l k l.length = if k ∈ l then 1 else 0
  | [], k, _ => by simp [kcn]
  | a :: l, k, h => by
    unfold Kasc at h
    rw [List.pairwise_cons] at h
    have ih := kcn_all (l := l) (k := k) h.2
    unfold kcn at ih ⊢
    rw [List.take_length] at ih ⊢
    rw [List.countP_cons, ih]
    by_cases e : a = k
    · subst e
      have hn : a ∉ l := fun hm => by have := h.1 a hm; rw [klt_irr] at this; cases this
      simp [hn]
    · have e2 : ¬ k = a := fun h => e h.symm
      simp [e, e2]
theorem kcn_le (l : List K3) (k : K3) (n : Nat) : kcn l k n ≤ l.length := by
  unfold kcn
  exact Nat.le_trans List.countP_le_length (by rw [List.length_take]; omega)
/-- A key of the store is told once, or not at all. -/
theorem df_says {rs : List R4} {a b : Int} (h : dfOk rs a b = true) {i : Nat} (hi : i < rs.length) : kcn (dfL rs a b) (keyR (rs.getD i r0)) (dfL rs a b).length = if dfB rs a.toNat b.toNat (keyR (rs.getD i r0)) then 1 else 0 := by
  rw [dfL_yes h, kcn_all (dfN_asc _ _ _ _)]
  by_cases hd : dfB rs a.toNat b.toNat (keyR (rs.getD i r0)) = true
  · rw [if_pos hd, if_pos ((dfN_mem _ _ _ _ _).2 ⟨⟨i, hi, rfl⟩, hd⟩)]
  · rw [if_neg hd, if_neg (fun hm => hd ((dfN_mem _ _ _ _ _).1 hm).2)]
theorem dfL_len (rs : List R4) (a b : Int) : (dfL rs a b).length ≤ rs.length := by
  unfold dfL; split
  · exact dfN_len _ _ _ _
  · simp
end Go.Proofs.Ytamdfdbhkmgflaa
