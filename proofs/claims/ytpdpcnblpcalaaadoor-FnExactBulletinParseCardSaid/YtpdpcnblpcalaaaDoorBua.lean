/- What a text of a series says: a reader finds exactly what was written. Plain mathematics: nothing here speaks of the program. -/
import Derived.Test.YtpdpcnblpcalaaaDoorBcb
import Derived.Test.YtpdpcnblpcalaaaDoorTxt
import Derived.Test.YtpdpcnblpcalaaaDoorBt
import Derived.Test.YtpdpcnblpcalaaaDoorBge
namespace Go.Proofs.YtpdpcnblpcalaaaDoor
open Go.RowKit
set_option linter.unusedVariables false

theorem itoa_head {v : Int} (h1 : -99999 ≤ v) (h2 : v ≤ 99999) (rest : List UInt8) : ∀ t, Lib.itoa v ++ rest ≠ 47 :: t := by
  intro t e
  rcases numOk_cases (itoa_ok h1 h2).1 with ⟨u, hu, h3, _⟩ | ⟨_, h3⟩
  · rw [hu] at e
    exact absurd (List.cons.inj e).1 (by decide)
  · obtain ⟨l1, _, ha, _⟩ := digOk_facts h3
    cases hl : Lib.itoa v with
    | nil => rw [hl] at l1; simp at l1
    | cons c r =>
      rw [hl] at e ha
      simp only [List.all_cons, Bool.and_eq_true] at ha
      obtain rfl : c = 47 := (List.cons.inj e).1
      exact absurd ha.1 (by decide)
theorem vAt_bd {v : Int} (h1 : -99999 ≤ v) (h2 : v ≤ 99999) {rest : List UInt8} (hr : rest = [] ∨ ∃ t, rest = 32 :: t) : vAt (bdW v ++ rest) = some (v, rest) := by
  by_cases hv : v = -9999
  · subst hv; rw [bdW, if_pos rfl]; rfl
  · obtain ⟨n1, n2⟩ := itoa_ok h1 h2
    have hn : nrun (Lib.itoa v ++ rest) = Lib.itoa v := by
      rcases hr with rfl | ⟨t, rfl⟩
      · rw [List.append_nil]; exact nrun_self n1
      · exact nrun_stop n1 t
    rw [bdW, if_neg hv, vAt_no (itoa_head h1 h2 rest), hn, n1, n2, decide_eq_true hv]
    simp
theorem vAt_back {t R' : List UInt8} {v : Int} (h : vAt t = some (v, R')) : t = bdW v ++ R' ∧ -99999 ≤ v ∧ v ≤ 99999 := by
  unfold vAt at h
  split at h
  · injection h with h; injection h with e1 e2; subst e1; subst e2
    exact ⟨by rw [bdW, if_pos rfl]; rfl, by omega, by omega⟩
  · split at h
    · rename_i hc
      injection h with h; injection h with e1 e2; subst e1; subst e2
      simp only [Bool.and_eq_true, decide_eq_true_eq] at hc
      have hb := numV_bound hc.1
      refine ⟨?_, hb.1, hb.2⟩
      rw [bdW, if_neg hc.2, num_back hc.1]
      exact (nrun_prefix t).symm
    · exact absurd h (by simp)
def bWs (zs : List Int) : List UInt8 := zs.flatMap fun v => 32 :: bdW v
theorem bWs_cons (v : Int) (zs : List Int) : bWs (v :: zs) = 32 :: (bdW v ++ bWs zs) := by simp [bWs]
theorem bWs_head (zs : List Int) : bWs zs = [] ∨ ∃ t, bWs zs = 32 :: t := by
  cases zs with
  | nil => exact .inl rfl
  | cons v r => exact .inr ⟨_, bWs_cons v r⟩
theorem Vals.back {R : List UInt8} {zs : List Int} (h : Vals R zs) : R = bWs zs ∧ ∀ v ∈ zs, -99999 ≤ v ∧ v ≤ 99999 := by
  induction h with
  | nil => exact ⟨rfl, fun v hv => absurd hv (by simp)⟩
  | cons h1 h2 ih =>
    obtain ⟨e, hb⟩ := vAt_back h1
    refine ⟨by rw [bWs_cons, ← ih.1, ← e], fun x hx => ?_⟩
    rcases List.mem_cons.1 hx with rfl | hx
    · exact hb
    · exact ih.2 x hx
theorem Vals.of (zs : List Int) (h : ∀ v ∈ zs, -99999 ≤ v ∧ v ≤ 99999) : Vals (bWs zs) zs := by
  induction zs with
  | nil => exact .nil
  | cons v r ih =>
    rw [bWs_cons]
    have hv := h v List.mem_cons_self
    exact .cons (vAt_bd hv.1 hv.2 (bWs_head r)) (ih fun x hx => h x (List.mem_cons_of_mem _ hx))
theorem bdL_eq (s t f : Int) (zs : List Int) : bdL s t f zs = 98 :: (Lib.itoa s ++ 32 :: 107 :: (Lib.itoa t ++ 32 :: 100 :: (Lib.itoa f ++ bWs zs))) := by simp [bdL, bdF, bWs]
def NumB (n : Int) : Prop := -99999 ≤ n ∧ n ≤ 99999
theorem BulP.back {R : List UInt8} {s t f : Int} {zs : List Int} (h : BulP R s t f zs) : R = bdL s t f zs ∧ NumB s ∧ NumB t ∧ NumB f ∧ ∀ v ∈ zs, NumB v := by
  obtain ⟨a, rfl, n1, e1, b1, p1, b2, rfl, n2, e2, c1, p2, c2, rfl, n3, e3, hv⟩ := h
  obtain ⟨hw, hb⟩ := hv.back
  refine ⟨?_, by rw [← e1]; exact numV_bound n1, by rw [← e2]; exact numV_bound n2, by rw [← e3]; exact numV_bound n3, hb⟩
  have q1 := nrun_prefix a
  have q2 := nrun_prefix b2
  have q3 := nrun_prefix c2
  rw [p1] at q1
  rw [p2] at q2
  rw [hw] at q3
  rw [bdL_eq, ← e1, ← e2, ← e3, num_back n1, num_back n2, num_back n3, q3, q2, q1]
theorem nrun_itoa {n : Int} (h : NumB n) {rest : List UInt8} (hr : rest = [] ∨ ∃ t, rest = 32 :: t) : nrun (Lib.itoa n ++ rest) = Lib.itoa n := by
  have n1 := (itoa_ok h.1 h.2).1
  rcases hr with rfl | ⟨t, rfl⟩
  · rw [List.append_nil]; exact nrun_self n1
  · exact nrun_stop n1 t
theorem BulP.of {s t f : Int} {zs : List Int} (hs : NumB s) (ht : NumB t) (hf : NumB f) (hz : ∀ v ∈ zs, NumB v) : BulP (bdL s t f zs) s t f zs := by
  have r1 := nrun_itoa hs (rest := 32 :: 107 :: (Lib.itoa t ++ 32 :: 100 :: (Lib.itoa f ++ bWs zs))) (.inr ⟨_, rfl⟩)
  have r2 := nrun_itoa ht (rest := 32 :: 100 :: (Lib.itoa f ++ bWs zs)) (.inr ⟨_, rfl⟩)
  have r3 := nrun_itoa hf (rest := bWs zs) (bWs_head zs)
  refine ⟨_, bdL_eq s t f zs, by rw [r1]; exact (itoa_ok hs.1 hs.2).1, by rw [r1]; exact (itoa_ok hs.1 hs.2).2, _, by rw [r1]; exact List.drop_left, _, rfl,
    by rw [r2]; exact (itoa_ok ht.1 ht.2).1, by rw [r2]; exact (itoa_ok ht.1 ht.2).2, _, by rw [r2]; exact List.drop_left, _, rfl,
    by rw [r3]; exact (itoa_ok hf.1 hf.2).1, by rw [r3]; exact (itoa_ok hf.1 hf.2).2, by rw [r3, List.drop_left]; exact Vals.of zs hz⟩
theorem Vals.unique {R : List UInt8} {zs : List Int} (h : Vals R zs) : ∀ {us : List Int}, Vals R us → zs = us := by
  induction h with
  | nil => intro us h'; cases h'; rfl
  | cons h1 h2 ih =>
    intro us h'
    cases h' with
    | cons h3 h4 =>
      rw [h1] at h3
      injection h3 with h3; injection h3 with e1 e2
      subst e1; subst e2
      rw [ih h4]
theorem BulP.unique {R : List UInt8} {s t f s' t' f' : Int} {zs us : List Int} (h : BulP R s t f zs) (h' : BulP R s' t' f' us) : s = s' ∧ t = t' ∧ f = f' ∧ zs = us := by
  obtain ⟨a, e0, _, e1, b1, p1, b2, e2, _, e3, c1, p2, c2, e4, _, e5, hv⟩ := h
  obtain ⟨a', g0, _, g1, b1', r1, b2', g2, _, g3, c1', r2, c2', g4, _, g5, hv'⟩ := h'
  obtain rfl := (List.cons.inj (e0.symm.trans g0)).2
  obtain rfl := (List.cons.inj (p1.symm.trans r1)).2
  obtain rfl := (List.cons.inj (e2.symm.trans g2)).2
  obtain rfl := (List.cons.inj (p2.symm.trans r2)).2
  obtain rfl := (List.cons.inj (e4.symm.trans g4)).2
  exact ⟨e1.symm.trans g1, e3.symm.trans g3, e5.symm.trans g5, hv.unique hv'⟩
/-- The text says this series. -/
def Bt (p : ByteArray) (s t f : Int) (zs : List Int) : Prop := btOk s t f zs = true ∧ p.data.toList = btL s t f zs
theorem btOk_numB {s t f : Int} {zs : List Int} (h : btOk s t f zs = true) : NumB s ∧ NumB t ∧ NumB f ∧ ∀ v ∈ zs, NumB v := by
  obtain ⟨hs, ht, hf, _, hz⟩ := btOk_facts h
  refine ⟨⟨by omega, by omega⟩, ⟨by omega, by omega⟩, ⟨by omega, by omega⟩, fun v hv => ?_⟩
  obtain ⟨k, hk, rfl⟩ := List.getElem_of_mem hv
  have := hz k hk
  rw [List.getD_eq_getElem?_getD, List.getElem?_eq_getElem hk, Option.getD_some] at this
  unfold NumB; omega
theorem btL_gd (s t f : Int) (zs : List Int) {p : ByteArray} (h : p.data.toList = btL s t f zs) : p = gd ⟨(bdL s t f zs).toArray⟩ (bsL (bdL s t f zs)) := by
  refine (bytes_eq (u := p) rfl).trans ?_
  rw [gd, h, btL, btS]
theorem bd_front (s t f : Int) (zs : List Int) : (⟨(bdL s t f zs).toArray⟩ : ByteArray).data.toList = bdL s t f zs := by simp
/-- A text of a series: its last blank, its front. -/
theorem Bt.at {p : ByteArray} {s t f : Int} {zs : List Int} (h : Bt p s t f zs) :
    ∃ m, m < p.size ∧ (∀ hm : m < p.size, p[m] = 32) ∧ (∀ (j : Nat) (hj : j < p.size), m < j → p[j] ≠ 32) ∧ gX p m = true ∧ (p.extract 0 m).data.toList = bdL s t f zs := by
  have e := btL_gd s t f zs h.2
  have hlt := bsL_lt (bdL s t f zs)
  have hfr := bd_front s t f zs
  generalize hx : (⟨(bdL s t f zs).toArray⟩ : ByteArray) = x at e hfr
  generalize bdL s t f zs = L at *
  have hs := gd_size x (bsL L)
  have h1 := fun h => gd_at x (bsL L) h
  have h2 := fun (j : Nat) (hj : j < (gd x (bsL L)).size) hm => gd_no (x := x) hlt hj hm
  have h3 := gd_front x (bsL L)
  have h4 := gd_back x (bsL L)
  rw [← e] at hs h1 h2 h3 h4
  refine ⟨x.size, by omega, h1, h2, ?_, by rw [h3, hfr]⟩
  unfold gX
  rw [h4, h3, hfr]
  simp
theorem Bt.of {p : ByteArray} {m : Nat} {s t f : Int} {zs : List Int} (hm : m < p.size) (h32 : p[m] = 32) (hg : gX p m = true) (hP : BulP (p.extract 0 m).data.toList s t f zs) (hok : btOk s t f zs = true) : Bt p s t f zs := by
  refine ⟨hok, ?_⟩
  have hb := (BulP.back hP).1
  have hs : p.data.toList = (p.data.toList.take m) ++ 32 :: p.data.toList.drop (m + 1) := by
    have hl : m < p.data.toList.length := by rw [ba_len]; exact hm
    have e1 : p.data.toList.drop m = p.data.toList[m] :: p.data.toList.drop (m + 1) := (List.drop_eq_getElem_cons hl)
    have e2 : p.data.toList[m] = 32 := h32
    rw [e2] at e1
    rw [← e1, List.take_append_drop]
  have hf : (p.extract 0 m).data.toList = p.data.toList.take m := by
    rw [ByteArray.data_extract, Array.toList_extract, List.extract_eq_take_drop, List.drop_zero, Nat.sub_zero]
  have hbk : (p.extract (m + 1) p.size).data.toList = p.data.toList.drop (m + 1) := by
    rw [ByteArray.data_extract, Array.toList_extract, List.extract_eq_take_drop, ← ba_len p, List.take_of_length_le (by rw [List.length_drop]; omega)]
  unfold gX at hg
  rw [hb] at hf hg
  have hg2 := beq_iff_eq.1 hg
  rw [ByteArray.toList_eq, ByteArray.toList_eq, hbk] at hg2
  rw [hs, ← hf, hg2, btL, btS]
  try simp
theorem Bt.unique {p : ByteArray} {s t f s' t' f' : Int} {zs us : List Int} (h : Bt p s t f zs) (h' : Bt p s' t' f' us) : s = s' ∧ t = t' ∧ f = f' ∧ zs = us := by
  obtain ⟨m, hm, h32, hno, _, hf⟩ := h.at
  obtain ⟨m', hm', h32', hno', _, hf'⟩ := h'.at
  have : m = m' := by
    rcases Nat.lt_trichotomy m m' with h9 | h9 | h9
    · exact absurd (h32' hm') (hno _ hm' h9)
    · exact h9
    · exact absurd (h32 hm) (hno' _ hm h9)
  subst this
  obtain ⟨a, b, c, d⟩ := btOk_numB h.1
  obtain ⟨a', b', c', d'⟩ := btOk_numB h'.1
  have p1 := BulP.of a b c d
  have p2 := BulP.of a' b' c' d'
  rw [← hf] at p1
  rw [← hf'] at p2
  exact p1.unique p2
/-- The last blank of a text. -/
theorem last_blank (p : ByteArray) : (∀ (j : Nat) (h : j < p.size), p[j] ≠ 32) ∨ ∃ m, ∃ hm : m < p.size, p[m] = 32 ∧ ∀ (j : Nat) (h : j < p.size), m < j → p[j] ≠ 32 := by
  suffices h : ∀ k, k ≤ p.size → (∀ (j : Nat) (h : j < p.size), p.size - k ≤ j → p[j] ≠ 32) ∨ ∃ m, ∃ hm : m < p.size, p[m] = 32 ∧ ∀ (j : Nat) (h : j < p.size), m < j → p[j] ≠ 32 by
    rcases h p.size (Nat.le_refl _) with h | h
    · exact .inl fun j hj => h j hj (by omega)
    · exact .inr h
  intro k
  induction k with
  | zero => intro _; exact .inl fun j hj h => by omega
  | succ k ih =>
    intro hk
    rcases ih (by omega) with h | h
    · have hm : p.size - (k + 1) < p.size := by omega
      by_cases h9 : p[p.size - (k + 1)] = 32
      · exact .inr ⟨_, hm, h9, fun j hj hlt => h j hj (by omega)⟩
      · refine .inl fun j hj hle => ?_
        by_cases e : j = p.size - (k + 1)
        · subst e; exact h9
        · exact h j hj (by omega)
    · exact .inr h
/-- What a reader finds in a text with a good check number. -/
theorem no_bt_blank {p : ByteArray} (h : ∀ (j : Nat) (h : j < p.size), p[j] ≠ 32) (s t f : Int) (zs : List Int) : ¬ Bt p s t f zs := fun hb => by
  obtain ⟨m, hm, h32, _⟩ := hb.at
  exact h m hm (h32 hm)
theorem bt_front {p : ByteArray} {m : Nat} (hm : m < p.size) (h32 : p[m] = 32) (hno : ∀ (j : Nat) (h : j < p.size), m < j → p[j] ≠ 32) {s t f : Int} {zs : List Int} (hb : Bt p s t f zs) :
    gX p m = true ∧ BulP (p.extract 0 m).data.toList s t f zs := by
  obtain ⟨m', hm', h32', hno', hg, hf⟩ := hb.at
  have : m = m' := by
    rcases Nat.lt_trichotomy m m' with h9 | h9 | h9
    · exact absurd (h32' hm') (hno _ hm' h9)
    · exact h9
    · exact absurd h32 (hno' _ hm h9)
  subst this
  obtain ⟨a, b, c, d⟩ := btOk_numB hb.1
  exact ⟨hg, by rw [hf]; exact BulP.of a b c d⟩
/-- The reports of a series. -/
def bvR (s t f : Int) (zs : List Int) : Nat → List R4
  | 0 => []
  | k + 1 => bvR s t f zs k ++ (if zs.getD k 0 = -9999 then [] else [(s, f + (k : Int), t, zs.getD k 0)])
theorem bvR_len (s t f : Int) (zs : List Int) : ∀ k, (bvR s t f zs k).length ≤ k
  | 0 => Nat.le_refl _
  | k + 1 => by
    have := bvR_len s t f zs k
    rw [bvR, List.length_append]
    split <;> simp <;> omega
end Go.Proofs.YtpdpcnblpcalaaaDoor
