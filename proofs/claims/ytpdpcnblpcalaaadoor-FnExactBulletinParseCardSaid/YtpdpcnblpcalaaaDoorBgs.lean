/- Whether a text ends with its check number: the model. -/
import Derived.Test.YtpdpcnblpcalaaaDoorBge
namespace Go.Proofs.YtpdpcnblpcalaaaDoor
open Go.RowKit
set_option linter.unusedVariables false

theorem words_at {L : List UInt8} {m : Nat} (hm : m < L.length) (h32 : L[m] = 32) (hno : ∀ (j : Nat) (h : j < L.length), m < j → L[j] ≠ 32) {ps : List ByteArray} (h : Words 32 L (ps.map (·.data.toList))) :
    ∃ k, ps.length = k + 2 ∧ (ps.getD (k + 1) ⟨#[]⟩).data.toList = L.drop (m + 1) := by
  obtain ⟨init, last, e1, e2, e3⟩ := h
  have hl : (32 : UInt8) ∉ last := e3 last (by rw [e1]; simp)
  rcases List.eq_nil_or_concat init with rfl | ⟨i', q, rfl⟩
  · have e4 : L = last := by simpa [flat] using e2
    have : (32 : UInt8) ∈ last := by rw [← e4, ← h32]; exact List.getElem_mem _
    exact absurd this hl
  · rw [List.concat_eq_append] at e1 e2
    rw [flat_snoc] at e2
    have e4 : L = (flat 32 i' ++ q) ++ 32 :: last := by rw [e2]; simp
    have hlen := congrArg List.length e1
    simp only [List.length_map, List.length_append, List.length_cons, List.length_nil] at hlen
    have hc : (flat 32 i' ++ q).length = m := by
      generalize flat 32 i' ++ q = A at e4
      subst e4
      rcases Nat.lt_trichotomy A.length m with h9 | h9 | h9
      · exfalso
        obtain ⟨t, ht⟩ : ∃ t, m - A.length = t + 1 := ⟨m - A.length - 1, by omega⟩
        rw [List.getElem_append_right (by omega)] at h32
        simp only [ht, List.getElem_cons_succ] at h32
        exact hl (by rw [← h32]; exact List.getElem_mem _)
      · exact h9
      · exfalso
        refine hno A.length (by simp) h9 ?_
        rw [List.getElem_append_right (Nat.le_refl _)]
        simp
    refine ⟨i'.length, by omega, ?_⟩
    have e5 : (ps.getD (i'.length + 1) ⟨#[]⟩).data.toList = (ps.map (·.data.toList)).getD (i'.length + 1) [] := by
      have : i'.length + 1 < ps.length := by omega
      simp [List.getD_eq_getElem?_getD, this]
    rw [e5, e1, e4, ← hc]
    have e6 : ((flat 32 i' ++ q) ++ 32 :: last).drop ((flat 32 i' ++ q).length + 1) = last := by
      rw [List.drop_append, List.drop_of_length_le (by omega), Nat.add_sub_cancel_left]; rfl
    rw [e6]
    simp [List.getD_eq_getElem?_getD]
theorem words_none {L : List UInt8} (hno : (32 : UInt8) ∉ L) {ps : List ByteArray} (h : Words 32 L (ps.map (·.data.toList))) : ps.length = 1 := by
  obtain ⟨init, last, e1, e2, e3⟩ := h
  rcases List.eq_nil_or_concat init with rfl | ⟨i', q, rfl⟩
  · have := congrArg List.length e1
    simpa using this
  · rw [List.concat_eq_append] at e2
    rw [flat_snoc] at e2
    exact absurd (by rw [e2]; simp) hno
theorem own_str {w : World} {base : Nat} {v : Value} {ps : List ByteArray} (h : w.ownsRow base 9 1 v ps.length (ps.map Value.string)) (h0 : 0 < ps.length) :
    ∃ g cap, v = .slice (some ⟨g, 0, none⟩) ps.length cap ∧ ∀ i, i < ps.length → w.cell? ⟨g, i, none⟩ = some (.string (ps.getD i ⟨#[]⟩)) := by
  obtain ⟨g, cap, hv, _, hlt⟩ := h.form h0
  refine ⟨g, cap, hv, fun i hi => ?_⟩
  have := h.cells (g := g) (by rw [hv]; rfl) i (.string (ps.getD i ⟨#[]⟩)) (by simp [hi, List.getD_eq_getElem?_getD])
  by_cases hi0 : i = 0
  · subst hi0; simpa [Addr.add] using this
  · simpa [Addr.add, hi0] using this
theorem own_max {w : World} {base : Nat} {v : Value} {ps : List ByteArray} (h : w.ownsRow base 9 1 v ps.length (ps.map Value.string)) (h0 : 0 < ps.length) : ps.length ≤ 9223372036854775807 := by
  rcases h.2 with ⟨_, hn⟩ | ⟨g, cap, cur, hv, hb, hg, h1, h2, _⟩
  · omega
  · unfold maxLen at h2; omega
set_option maxRecDepth 100000 in
set_option maxHeartbeats 2000000 in
theorem sg_at (p : ByteArray) (m : Nat) (w : World) (hp : p.size ≤ 1048576) (hm : m < p.size) (h32 : p[m] = 32) (hno : ∀ (j : Nat) (h : j < p.size), m < j → p[j] ≠ 32) :
    Calls Tryd.prog 34 #[.string p] w fun e w' => e = .returned (.bool (gX p m)) ∧ Keep w w' := by
  have HWA := Lib.hid (fun ps h => words_at (L := p.data.toList) (m := m) (by rw [ba_len]; exact hm) h32 (fun j h => hno j (by rw [ba_len] at h; exact h)) (ps := ps) h)
  have HCT := Lib.hid (cut_any p 32 w (by omega))
  clear h32 hno
  obtain ⟨x, hxx⟩ : ∃ x, p.extract 0 m = x := ⟨_, rfl⟩
  have hxs : x.size ≤ 1048576 := by rw [← hxx, ByteArray.size_extract]; omega
  have hlt := bsL_lt x.data.toList
  have HBS := Lib.hid (fun W => bs_spec x W (by omega))
  have HG : Hid (gX p m = ((p.extract (m + 1) p.size).toList == (⟨(61 :: Lib.itoa (bsL x.data.toList : Int)).toArray⟩ : ByteArray).toList)) := Lib.hid (by rw [← hxx]; rfl)
  generalize bsL x.data.toList = n at *
  have hds := dtx_size (n := (n : Int)) (by omega) (by omega)
  have HE : Hid ((⟨#[61]⟩ : ByteArray) ++ dtx n = ⟨(61 :: Lib.itoa (n : Int)).toArray⟩) := Lib.hid (bytes_eq (by simp [dtx_list]))
  rw [← HE.out] at HG
  go_enter Tryd.func34, Tryd.ntmps34
  go_wp2_with fail
  refine HCT.out.mono ?_
  rintro e w1 ⟨ps, v, rfl, hown, hW, k1, _⟩
  obtain ⟨k, hk, hla⟩ := HWA.out ps hW
  obtain ⟨g, cap, rfl, hc⟩ := own_str hown (by omega)
  have cl := hc (k + 1) (by omega)
  obtain ⟨u, hu⟩ : ∃ u, ps.getD (k + 1) ⟨#[]⟩ = u := ⟨_, rfl⟩
  rw [hu] at cl hla
  have hue : u = p.extract (m + 1) p.size := by
    refine (bytes_eq hla).trans (bytes_eq ?_).symm
    rw [ByteArray.data_extract, Array.toList_extract, List.extract_eq_take_drop, ← ba_len p, List.take_of_length_le (by rw [List.length_drop]; omega)]
  have hus : u.size + (m + 1) = p.size := by rw [hue, ByteArray.size_extract]; omega
  rw [← hue] at HG
  obtain ⟨N, hN⟩ : ∃ N, ps.length = N := ⟨_, rfl⟩
  rw [hN] at hk
  have hcn : N ≤ 9223372036854775807 := by rw [← hN]; exact own_max hown (by omega)
  have s1 : (N : Int) - 1 = ((k + 1 : Nat) : Int) := by omega
  have s2 : IntKind.i64.wrap ((N : Int) - 1) = ((k + 1 : Nat) : Int) := by rw [s1]; exact IntWalk.i64_in _ (by omega)
  have s3 : (0 : Int) ≤ ((k + 1 : Nat) : Int) := by omega
  have s4 : ((k + 1 : Nat) : Int) < (N : Int) := by omega
  have s5 : decide ((N : Int) < 2) = false := decide_eq_false (by omega)
  have s6 : ¬ (N : Int) < 2 := by omega
  have t1 : IntKind.i64.wrap ((p.size : Int) - (u.size : Int)) = (m : Int) + 1 := by
    rw [show (p.size : Int) - (u.size : Int) = (m : Int) + 1 by omega]; exact IntWalk.i64_in _ (by omega)
  have t2 : IntKind.i64.wrap (m : Int) = (m : Int) := IntWalk.i64_in _ (by omega)
  have t3 : (0 : Int) ≤ (m : Int) := by omega
  have t4 : (m : Int) ≤ (p.size : Int) := by omega
  have t5 : m ≤ p.size := by omega
  clear hown hW hc hla hue
  rw [hN]
  go_wp2_with fail
  try rw [hxx]
  refine (HBS.out _).mono ?_
  rintro e w2 ⟨rfl, rfl⟩
  go_wp2_with fail
  refine (dec_any _ _ (by omega) (by omega)).mono ?_
  rintro e w3 ⟨rfl, k3⟩
  go_wp2
  go_ret
  exact ⟨retB HG.out.symm, k1.trans k3⟩
set_option maxRecDepth 100000 in
set_option maxHeartbeats 2000000 in
theorem sg_none (p : ByteArray) (w : World) (hp : p.size ≤ 1048576) (hno : ∀ (j : Nat) (h : j < p.size), p[j] ≠ 32) :
    Calls Tryd.prog 34 #[.string p] w fun e w' => e = .returned (.bool false) ∧ Keep w w' := by
  have hn2 : (32 : UInt8) ∉ p.data.toList := fun h => by
    obtain ⟨j, hj, he⟩ := List.getElem_of_mem h
    exact hno j (by rw [ba_len] at hj; exact hj) he
  have HWN := Lib.hid (fun ps h => words_none hn2 (ps := ps) h)
  have HCT := Lib.hid (cut_any p 32 w (by omega))
  clear hno hn2
  go_enter Tryd.func34, Tryd.ntmps34
  go_wp2_with fail
  refine HCT.out.mono ?_
  rintro e w1 ⟨ps, v, rfl, hown, hW, k1, _⟩
  have hk := HWN.out ps hW
  obtain ⟨g, cap, rfl, hc⟩ := own_str hown (by omega)
  have cl := hc 0 (by omega)
  generalize ps.getD 0 ⟨#[]⟩ = u at *
  clear hown hW hc
  rw [hk]
  go_wp2
  go_ret
  exact ⟨rfl, k1⟩
end Go.Proofs.YtpdpcnblpcalaaaDoor
