/- One cut more costs at most its price more. -/
import Derived.Test.YtpgdbhafdnfhcaaKc
import Derived.Test.YtpgdbhafdnfhcaaPq
namespace Go.Proofs.Ytpgdbhafdnfhcaa
open Go.RowKit
set_option linter.unusedVariables false

theorem asc_ext : ∀ {A B : List Int}, A.Pairwise (· < ·) → B.Pairwise (· < ·) → (∀ x, x ∈ A ↔ x ∈ B) → A = B
  | [], [], _, _, _ => rfl
  | [], b :: B, _, _, h => absurd ((h b).2 (List.mem_cons_self)) (by simp)
  | a :: A, [], _, _, h => absurd ((h a).1 (List.mem_cons_self)) (by simp)
  | a :: A, b :: B, hA, hB, h => by
    rw [List.pairwise_cons] at hA hB
    have h1 : a = b := by
      have e1 := (h a).1 List.mem_cons_self
      have e2 := (h b).2 List.mem_cons_self
      rw [List.mem_cons] at e1 e2
      rcases e1 with e1 | e1
      · exact e1
      · rcases e2 with e2 | e2
        · exact e2.symm
        · have := hA.1 b e2; have := hB.1 a e1; omega
    subst h1
    rw [asc_ext hA.2 hB.2 fun x => ⟨fun hx => ?_, fun hx => ?_⟩]
    · have e := (h x).1 (List.mem_cons_of_mem _ hx)
      rw [List.mem_cons] at e
      rcases e with e | e
      · have := hA.1 x hx; omega
      · exact e
    · have e := (h x).2 (List.mem_cons_of_mem _ hx)
      rw [List.mem_cons] at e
      rcases e with e | e
      · have := hB.1 x hx; omega
      · exact e
theorem ct_asc {cs : List Int} {n : Int} (h : ctB cs n = true) : cs.Pairwise (· < ·) := by
  rw [List.pairwise_iff_getElem]
  intro i j hi hj hij
  have := ct_mono h hij hj
  simpa [List.getD_eq_getElem?_getD, hi, hj] using this
theorem ct_mem {cs : List Int} {n : Int} (h : ctB cs n = true) : ∀ x ∈ cs, 1 ≤ x ∧ x < n := by
  intro x hx
  obtain ⟨i, hi, rfl⟩ := List.getElem_of_mem hx
  have h1 := ct_ge h i hi
  have h2 := ((ctB_facts h).2 i hi).2
  rw [show cs.getD i 0 = cs[i] by simp [List.getD_eq_getElem?_getD, hi]] at h1 h2
  omega
theorem ct_of {ys : List Int} {n : Int} (hn : 1 ≤ n ∧ n ≤ 8) (h : ys.Pairwise (· < ·)) (h2 : ∀ x ∈ ys, 1 ≤ x ∧ x < n) : ctB ys n = true := by
  refine ctB_yes hn (ctA_all _ fun k hk => ctS_of ?_)
  have h3 := h2 _ (getD_mem hk)
  refine ⟨?_, h3.2⟩
  rw [ctP]
  split
  · omega
  · rw [List.pairwise_iff_getElem] at h
    have := h (k - 1) k (by omega) hk (by omega)
    simpa [List.getD_eq_getElem?_getD, hk, show k - 1 < ys.length by omega] using this
theorem asc_split {kk : Int} : ∀ {cs : List Int}, cs.Pairwise (· < ·) → kk ∉ cs → ∃ A B, cs = A ++ B ∧ (∀ x ∈ A, x < kk) ∧ (∀ x ∈ B, kk < x)
  | [], _, _ => ⟨[], [], rfl, by simp, by simp⟩
  | c :: cs, h, hk => by
    rw [List.pairwise_cons] at h
    rw [List.mem_cons, not_or] at hk
    by_cases hc : c < kk
    · obtain ⟨A, B, e, h1, h2⟩ := asc_split h.2 hk.2
      refine ⟨c :: A, B, by rw [e]; rfl, fun x hx => ?_, h2⟩
      rw [List.mem_cons] at hx
      rcases hx with rfl | hx
      · exact hc
      · exact h1 x hx
    · refine ⟨[], c :: cs, rfl, by simp, fun x hx => ?_⟩
      rw [List.mem_cons] at hx
      rcases hx with rfl | hx
      · have := hk.1; omega
      · have := h.1 x hx; have := hk.1; omega
/-- The cost of the parts behind position p. -/
def cR (zs : List Int) : Nat → List Int → Int
  | p, [] => pcV (seg zs p zs.length)
  | p, c :: r => pcV (seg zs p c.toNat) + cR zs c.toNat r
theorem ccR_from (zs cs : List Int) : ∀ m k, m + k = cs.length → ccR zs cs = ccN zs cs k + cR zs (ctP cs k).toNat (cs.drop k)
  | 0, k, h => by
    obtain rfl : k = cs.length := by omega
    rw [List.drop_length]; rfl
  | m + 1, k, h => by
    rw [ccR_from zs cs m (k + 1) (by omega), List.drop_eq_getElem_cons (show k < cs.length by omega), cR, ccN, ctP_succ]
    rw [show cs.getD k 0 = cs[k] by simp [List.getD_eq_getElem?_getD, show k < cs.length by omega]]
    omega
theorem ccR_cR (zs cs : List Int) : ccR zs cs = cR zs 0 cs := by
  rw [ccR_from zs cs cs.length 0 (by omega)]
  show 0 + cR zs 0 cs = _
  omega
theorem seg_app (zs : List Int) {p k q : Nat} (h : p ≤ k) (h2 : k ≤ q) : seg zs p q = seg zs p k ++ seg zs k q := by
  rw [seg, seg, seg, show q - p = (k - p) + (q - k) by omega, List.take_add, List.drop_drop, show p + (k - p) = k by omega]
theorem pc_split {zs : List Int} (h : shB zs = true) {p k q : Nat} (hp : p < k) (hk : k < q) (hq : q ≤ zs.length) : pcV (seg zs p k) + pcV (seg zs k q) ≤ pcV (seg zs p q) := by
  rw [pcV_S (seg_sh h (show p < q by omega) hq), pcV_S (seg_sh h hp (by omega)), pcV_S (seg_sh h hk hq)]
  generalize hm : mdL (seg zs p q) = m
  rw [seg_app zs (Nat.le_of_lt hp) (Nat.le_of_lt hk), pcS_app]
  have h1 := pc_least (L := seg zs p k) (by rw [seg_len zs (by omega) (by omega)]; omega) m
  have h2 := pc_least (L := seg zs k q) (by rw [seg_len zs (by omega) (by omega)]; omega) m
  omega
theorem cR_more {zs : List Int} (h : shB zs = true) {kk : Int} (hk : kk < zs.length) : ∀ (A B : List Int) (p : Nat), (∀ x ∈ A, x < kk ∧ 1 ≤ x) → (∀ x ∈ B, kk < x ∧ x < zs.length) → (p : Int) < kk → cR zs p (A ++ kk :: B) ≤ cR zs p (A ++ B)
  | [], [], p, _, _, hp => by
    simp only [List.nil_append, cR]
    exact pc_split h (by omega) (by omega) (Nat.le_refl _)
  | [], b :: B, p, _, hB, hp => by
    have := hB b List.mem_cons_self
    have h1 := pc_split h (p := p) (k := kk.toNat) (q := b.toNat) (by omega) (by omega) (by omega)
    simp only [List.nil_append, cR]
    omega
  | a :: A, B, p, hA, hB, hp => by
    have ha := hA a List.mem_cons_self
    have h1 := cR_more h hk A B a.toNat (fun x hx => hA x (List.mem_cons_of_mem _ hx)) hB (by omega)
    simp only [List.cons_append, cR]
    omega
/-- The cuts with one more, as the law makes them. -/
def flt (cs : List Int) (kk : Int) : Nat → List Int
  | 0 => []
  | i + 1 => if 1 ≤ i ∧ ((i : Int) = kk ∨ (i : Int) ∈ cs) then flt cs kk i ++ [(i : Int)] else flt cs kk i
theorem flt_one (cs : List Int) (kk : Int) : flt cs kk 1 = [] := by simp [flt]
theorem flt_mem (cs : List Int) (kk : Int) (x : Int) : ∀ n : Nat, x ∈ flt cs kk n ↔ (1 ≤ x ∧ x < n) ∧ (x = kk ∨ x ∈ cs)
  | 0 => by simp [flt]; omega
  | i + 1 => by
    rw [flt]
    split
    · rename_i h
      rw [List.mem_append, flt_mem cs kk x i, List.mem_singleton]
      constructor
      · rintro (⟨h1, h2⟩ | rfl)
        · exact ⟨by omega, h2⟩
        · exact ⟨by omega, h.2⟩
      · rintro ⟨h1, h2⟩
        by_cases e : x = i
        · exact .inr e
        · exact .inl ⟨by omega, h2⟩
    · rename_i h
      rw [flt_mem cs kk x i]
      constructor
      · rintro ⟨h1, h2⟩; exact ⟨by omega, h2⟩
      · rintro ⟨h1, h2⟩
        by_cases e : x = i
        · exact absurd ⟨by omega, e ▸ h2⟩ h
        · exact ⟨by omega, h2⟩
theorem flt_asc (cs : List Int) (kk : Int) : ∀ n : Nat, (flt cs kk n).Pairwise (· < ·)
  | 0 => by simp [flt]
  | i + 1 => by
    rw [flt]
    split
    · rw [List.pairwise_append]
      refine ⟨flt_asc cs kk i, by simp, fun a ha b hb => ?_⟩
      have := (flt_mem cs kk a i).1 ha
      simp at hb
      omega
    · exact flt_asc cs kk i
theorem flt_len (cs : List Int) (kk : Int) : ∀ n : Nat, (flt cs kk n).length ≤ n
  | 0 => by simp [flt]
  | i + 1 => by
    have := flt_len cs kk i
    rw [flt]; split
    · simp; omega
    · omega
theorem cc_more {zs cs : List Int} {price kk : Int} (h : ccB zs cs price = true) (h1 : 1 ≤ kk) (h2 : kk < zs.length) (h3 : kk ∉ cs) : ccB zs (flt cs kk zs.length) price = true ∧ 0 ≤ ccV zs (flt cs kk zs.length) price ∧ ccV zs (flt cs kk zs.length) price ≤ ccV zs cs price + price := by
  obtain ⟨a1, a2, a3, a4⟩ := ccB_facts h
  have hn := (ctB_facts a2).1
  have hv : ctB (flt cs kk zs.length) zs.length = true := ct_of hn (flt_asc cs kk _) fun x hx => ((flt_mem cs kk x _).1 hx).1
  have hb : ccB zs (flt cs kk zs.length) price = true := by rw [ccB, a1, hv, inB_yes ⟨a3, a4⟩]; rfl
  obtain ⟨A, B, e, hA, hB⟩ := asc_split (ct_asc a2) h3
  have hcm := ct_mem a2
  have hf : flt cs kk zs.length = A ++ kk :: B := by
    refine asc_ext (flt_asc cs kk _) ?_ fun x => ?_
    · have := ct_asc a2
      rw [e, List.pairwise_append] at this
      rw [List.pairwise_append, List.pairwise_cons]
      refine ⟨this.1, ⟨hB, this.2.1⟩, fun a ha b hb => ?_⟩
      rw [List.mem_cons] at hb
      rcases hb with rfl | hb
      · exact hA a ha
      · exact this.2.2 a ha b hb
    · rw [flt_mem, e]
      simp only [List.mem_append, List.mem_cons]
      constructor
      · rintro ⟨_, rfl | h | h⟩
        · exact .inr (.inl rfl)
        · exact .inl h
        · exact .inr (.inr h)
      · rintro (h | rfl | h)
        · exact ⟨hcm x (by rw [e]; exact List.mem_append_left _ h), .inr (.inl h)⟩
        · exact ⟨⟨h1, h2⟩, .inl rfl⟩
        · exact ⟨hcm x (by rw [e]; exact List.mem_append_right _ h), .inr (.inr h)⟩
  have hl : (flt cs kk zs.length).length = cs.length + 1 := by rw [hf, e]; simp; omega
  have hr : ccR zs (flt cs kk zs.length) ≤ ccR zs cs := by
    rw [ccR_cR, ccR_cR, hf, e]
    exact cR_more a1 h2 A B 0 (fun x hx => ⟨hA x hx, (hcm x (by rw [e]; exact List.mem_append_left _ hx)).1⟩) (fun x hx => ⟨hB x hx, (hcm x (by rw [e]; exact List.mem_append_right _ hx)).2⟩) (by omega)
  have hpm : price * ((cs.length : Int) + 1) = price * cs.length + price := by rw [Int.mul_add, Int.mul_one]
  refine ⟨hb, ?_, ?_⟩
  · obtain ⟨p, v, _, _, e4, _, v0, _⟩ := cc_last hb
    have := (ccN_bd hb _ (Nat.le_refl _)).1
    have := Int.mul_nonneg a3 (show 0 ≤ ((flt cs kk zs.length).length : Int) by omega)
    rw [e4]; omega
  · rw [ccV_yes hb, ccV_yes h, hl]
    rw [show ((cs.length + 1 : Nat) : Int) = (cs.length : Int) + 1 by omega, hpm]
    omega
end Go.Proofs.Ytpgdbhafdnfhcaa
