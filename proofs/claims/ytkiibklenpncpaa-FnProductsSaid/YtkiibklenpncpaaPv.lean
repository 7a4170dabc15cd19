/- Products, without the program: what a product is 'prB', what its value is 'pvV', what touches it 'ptB', and what the laws say of them. -/
import Derived.Test.YtkiibklenpncpaaSe
import Derived.Test.YtkiibklenpncpaaMe
namespace Go.Proofs.Ytkiibklenpncpaa
open Go.RowKit
set_option linter.unusedVariables false

/-- A product: station, kind, first day, days, gaps. -/
def prB (s t f n g : Int) : Bool := saB s t f n && inB g 0 12
theorem prB_facts {s t f n g : Int} (h : prB s t f n g = true) : saB s t f n = true ∧ 0 ≤ g ∧ g ≤ 12 := by
  simp only [prB, inB, Bool.and_eq_true, decide_eq_true_eq] at h; exact h
theorem prB_mk {s t f n g : Int} (h : saB s t f n = true) (h0 : 0 ≤ g) (h1 : g ≤ 12) : prB s t f n g = true := by
  simp only [prB, inB, Bool.and_eq_true, decide_eq_true_eq]; exact ⟨h, h0, h1⟩
theorem prB_days {s t f n g : Int} (h : prB s t f n g = true) : prB s t f n n = true := by
  obtain ⟨h1, _, _⟩ := prB_facts h
  obtain ⟨_, _, _, m, rfl, _, _⟩ := saB_facts h1
  exact prB_mk h1 (by omega) (by omega)
theorem pr_one {s t f n g : Int} (h : prB s t f n g = true) : prB s t f 1 g = true := by
  obtain ⟨h1, h2, h3⟩ := prB_facts h
  refine prB_mk ?_ h2 h3
  simp only [saB, inB, Bool.and_eq_true, decide_eq_true_eq] at h1 ⊢
  exact ⟨⟨⟨h1.1.1.1, h1.1.1.2⟩, h1.1.2⟩, by omega, by omega⟩
theorem pr_zero (s t f g : Int) : prB s t f 0 g = false := by simp [prB, saB, inB]
theorem pr_kind (s f n g : Int) : prB s 4 f n g = false := by simp [prB, saB, kOk]
def pvB (rs : List R4) (v s t f n g : Int) : Bool := ssOk rs v s t f n && (prB s t f n g && meB (ssL rs v s t f n) g)
def pvV (rs : List R4) (v s t f n g : Int) : Int := if pvB rs v s t f n g then meV (ssL rs v s t f n) g else -9999
theorem pvV_yes {rs : List R4} {v s t f n g : Int} (h : pvB rs v s t f n g = true) : pvV rs v s t f n g = meV (ssL rs v s t f n) g := by simp [pvV, h]
theorem pvV_no {rs : List R4} {v s t f n g : Int} (h : pvB rs v s t f n g = false) : pvV rs v s t f n g = -9999 := by simp [pvV, h]
theorem pvB_ss {rs : List R4} {v s t f n g : Int} (h : ssOk rs v s t f n = false) : pvV rs v s t f n g = -9999 := pvV_no (by simp [pvB, h])
theorem pvB_pr {rs : List R4} {v s t f n g : Int} (h : prB s t f n g = false) : pvV rs v s t f n g = -9999 := pvV_no (by simp [pvB, h])
theorem pvB_me {rs : List R4} {v s t f n g : Int} (h : meB (ssL rs v s t f n) g = false) : pvV rs v s t f n g = -9999 := pvV_no (by simp [pvB, h])
theorem pvB_all {rs : List R4} {v s t f n g : Int} (h1 : ssOk rs v s t f n = true) (h2 : prB s t f n g = true) (h3 : meB (ssL rs v s t f n) g = true) : pvV rs v s t f n g = meV (ssL rs v s t f n) g :=
  pvV_yes (by simp [pvB, h1, h2, h3])
/-- A mean is a value that may be told. -/
theorem me_bd {zs : List Int} {g : Int} (h : meB zs g = true) : -999 ≤ meV zs g ∧ meV zs g ≤ 10999 := by
  obtain ⟨h1, h2, _⟩ := meB_facts h
  rw [meV_yes h]
  have hk : ∀ x ∈ knl zs, -999 ≤ x ∧ x ≤ 10999 := fun x hx => by
    rw [knl, List.mem_filter] at hx
    have := qB_bd (List.all_eq_true.1 (sq_facts h1).1 x hx.1)
    have h3 : x ≠ -9999 := by simpa using hx.2
    omega
  exact rq_between (by omega) (isum_ge fun x hx => (hk x hx).1) (isum_le fun x hx => (hk x hx).2)
theorem pvV_bd (rs : List R4) (v s t f n g : Int) : -9999 ≤ pvV rs v s t f n g ∧ pvV rs v s t f n g ≤ 10999 := by
  by_cases h : pvB rs v s t f n g = true
  · have h2 := h
    simp only [pvB, Bool.and_eq_true] at h2
    have := me_bd h2.2.2
    rw [pvV_yes h]; omega
  · rw [pvV_no (by simpa using h)]; omega
theorem ssL_lenI (rs : List R4) (v s t f n : Int) (h : ssOk rs v s t f n = true) : ((ssL rs v s t f n).length : Int) = n := by
  have h2 := h
  simp only [ssOk, Bool.and_eq_true] at h2
  obtain ⟨_, _, _, m, rfl, _, _⟩ := saB_facts h2.2
  obtain ⟨_, _, x, rfl, _⟩ := vrB_facts h2.1
  rw [ssL_yes h, serN_len]
/-- More gaps do not lose a product. -/
theorem pv_gaps {rs : List R4} {v s t f n g : Int} (h : pvV rs v s t f n g ≠ -9999) : pvV rs v s t f n n = pvV rs v s t f n g := by
  by_cases hb : pvB rs v s t f n g = true
  · have h2 := hb
    simp only [pvB, Bool.and_eq_true] at h2
    obtain ⟨h3, h4, h5⟩ := h2
    obtain ⟨m1, m2, m3⟩ := meB_facts h5
    have hl := ssL_lenI rs v s t f n h3
    have m4 : meB (ssL rs v s t f n) n = true := meB_mk m1 m2 (by omega)
    rw [pvB_all h3 (prB_days h4) m4, pvV_yes hb, meV_yes m4, meV_yes h5]
  · exact absurd (pvV_no (by simpa using hb)) h
/-- A product of a version is that of the first reports alone. -/
theorem ss_take {rs : List R4} {m : Nat} {s t f n : Int} (hs : stB rs = true) (hm : m ≤ rs.length) : ssOk (rs.take m) m s t f n = ssOk rs m s t f n ∧ ssL (rs.take m) m s t f n = ssL rs m s t f n := by
  have hl := len_take hm
  obtain ⟨s1, s2⟩ := stB_facts hs
  have ht : stB (rs.take m) = true := stB_yes (List.all_eq_true.2 fun x hx => List.all_eq_true.1 s1 x (List.mem_of_mem_take hx)) (by omega)
  have hv : vrB (rs.take m) m = true := by simp [vrB, ht, inB, hl]
  have hv2 : vrB rs m = true := by simp [vrB, hs, inB, hm]
  have ho : ssOk (rs.take m) m s t f n = ssOk rs m s t f n := by rw [ssOk, hv, ssOk, hv2]
  refine ⟨ho, ?_⟩
  by_cases h : ssOk rs m s t f n = true
  · have h2 := h
    simp only [ssOk, Bool.and_eq_true] at h2
    obtain ⟨_, _, _, j, rfl, _, _⟩ := saB_facts h2.2
    rw [ssL_yes h, ssL_yes (ho.trans h)]
    exact List.map_congr_left fun i _ => vN_take rs s _ t m hm m (Nat.le_refl _)
  · have h : ssOk rs m s t f n = false := by simpa using h
    rw [ssL_no h, ssL_no (ho.trans h)]
theorem pv_take {rs : List R4} {m : Nat} (s t f n g : Int) (hs : stB rs = true) (hm : m ≤ rs.length) : pvV (rs.take m) m s t f n g = pvV rs m s t f n g := by
  obtain ⟨h1, h2⟩ := ss_take (s := s) (t := t) (f := f) (n := n) hs hm
  rw [pvV, pvV, pvB, pvB, h1, h2]
/-- What touches a product. -/
def ptB (s t f n g : Int) (r : R4) : Bool := prB s t f n g && (rB r && (decide (rS r = s) && (decide (rK r = t) && inB (rD r) f (f + n - 1))))
theorem ptB_facts {s t f n g : Int} {r : R4} (h : ptB s t f n g r = true) : prB s t f n g = true ∧ rB r = true ∧ rS r = s ∧ rK r = t ∧ f ≤ rD r ∧ rD r < f + n := by
  simp only [ptB, inB, Bool.and_eq_true, decide_eq_true_eq] at h
  obtain ⟨h1, h2, h3, h4, h5, h6⟩ := h
  exact ⟨h1, h2, h3, h4, h5, by omega⟩
theorem vN_one (r : R4) (s d t : Int) : vN [r] s d t 1 = if rM s d t r then rV r else -9999 := by simp [vN]
theorem pr_vr {r : R4} (hr : rB r = true) {m : Nat} (hm : m ≤ 1) : vrB [r] (m : Int) = true := by
  simp [vrB, stB, hr, inB]; omega
/-- What does not touch a product does not change it. -/
theorem pt_no {s t f n g : Int} {r : R4} (hp : prB s t f n g = true) (hr : rB r = true) (h : ptB s t f n g r = false) : pvV [r] 1 s t f n g = pvV [r] 0 s t f n g := by
  have hsa := (prB_facts hp).1
  have o1 : ssOk [r] ((1 : Nat) : Int) s t f n = true := by rw [ssOk, pr_vr hr (Nat.le_refl _), hsa]; rfl
  have o0 : ssOk [r] ((0 : Nat) : Int) s t f n = true := by rw [ssOk, pr_vr hr (Nat.zero_le _), hsa]; rfl
  have hL : ssL [r] ((1 : Nat) : Int) s t f n = ssL [r] ((0 : Nat) : Int) s t f n := by
    obtain ⟨_, _, _, j, rfl, _, _⟩ := saB_facts hsa
    rw [ssL_yes o1, ssL_yes o0]
    refine List.map_congr_left fun i hi => ?_
    rw [List.mem_range] at hi
    rw [vN_one]
    have : rM s (f + (i : Int)) t r = false := by
      cases hm : rM s (f + (i : Int)) t r with
      | false => rfl
      | true =>
        simp only [rM, Bool.and_eq_true, decide_eq_true_eq] at hm
        have : ptB s t f j g r = true := by
          simp only [ptB, inB, Bool.and_eq_true, decide_eq_true_eq]
          exact ⟨hp, hr, hm.1.1, hm.2, by omega, by omega⟩
        rw [this] at h; cases h
    rw [this]; rfl
  exact show pvV [r] ((1 : Nat) : Int) s t f n g = pvV [r] ((0 : Nat) : Int) s t f n g by rw [pvV, pvV, pvB, pvB, o1, o0, hL]
theorem isum_one (x : Int) : isum [x] = x := by simp [isum]
theorem rq_one (x : Int) : rq x 1 = x := by
  have := rq_between (n := x) (d := 1) (a := x) (b := x) (by omega) (by omega) (by omega)
  omega
/-- The value of a report that touches a product with all gaps. -/
theorem knl_single {n i : Nat} (hi : i < n) (x : Int) (hx : x ≠ -9999) (h : Nat → Int) (h1 : h i = x) (h2 : ∀ j, j < n → j ≠ i → h j = -9999) : knl ((List.range n).map h) = [x] := by
  induction n with
  | zero => omega
  | succ n ih =>
    rw [List.range_succ, List.map_append, knl, List.filter_append]
    by_cases hin : i = n
    · subst hin
      have e : ((List.range i).map h).filter (fun x => x != -9999) = [] := by
        rw [List.filter_eq_nil_iff]
        intro y hy
        obtain ⟨j, hj, rfl⟩ := List.mem_map.1 hy
        rw [List.mem_range] at hj
        rw [h2 j (by omega) (by omega)]; simp
      rw [e]; simp [h1, hx]
    · have := ih (by omega) (fun j hj hji => h2 j (by omega) hji)
      rw [knl] at this
      rw [this]
      have e : h n = -9999 := h2 n (by omega) (fun e => hin e.symm)
      simp [e]
theorem pt_own {s t f n g : Int} {r : R4} (h : ptB s t f n g r = true) : pvV [r] 1 s t f n n = rV r := by
  obtain ⟨hp, hr, e1, e2, e3, e4⟩ := ptB_facts h
  have hsa := (prB_facts hp).1
  have o1 : ssOk [r] ((1 : Nat) : Int) s t f n = true := by rw [ssOk, pr_vr hr (Nat.le_refl _), hsa]; rfl
  have hb := rB_bd hr
  obtain ⟨_, _, _, j, rfl, j1, j2⟩ := saB_facts hsa
  have hL := ssL_yes o1
  have hat : ∀ i : Nat, vN [r] s (f + (i : Int)) t 1 = if f + (i : Int) = rD r then rV r else -9999 := fun i => by
    rw [vN_one]
    by_cases hi : f + (i : Int) = rD r
    · rw [if_pos hi, if_pos (by simp [rM, e1, e2, hi])]
    · rw [if_neg hi, if_neg (by simp [rM]; intro _ h; omega)]
  have hk : knl (ssL [r] ((1 : Nat) : Int) s t f (j : Int)) = [rV r] := by
    rw [hL]
    refine knl_single (i := (rD r - f).toNat) (by omega) (rV r) (by omega) (fun i : Nat => vN [r] s (f + (i : Int)) t 1) ?_ (fun i hi hne => ?_)
    · show vN [r] s (f + ((rD r - f).toNat : Int)) t 1 = _
      rw [hat, if_pos (by omega)]
    · show vN [r] s (f + (i : Int)) t 1 = _
      rw [hat, if_neg (by omega)]
  have hlen := ssL_lenI _ _ _ _ _ _ o1
  have hq : sqB (ssL [r] ((1 : Nat) : Int) s t f (j : Int)) = true := by
    refine sq_all (List.all_eq_true.2 fun x hx => ?_) (by omega)
    rw [hL] at hx
    obtain ⟨i, _, rfl⟩ := List.mem_map.1 hx
    show qB (vN [r] s (f + (i : Int)) t 1) = true
    rw [hat]
    split
    · exact qB_of (.inr (by omega))
    · exact qB_of (.inl rfl)
  have hm : meB (ssL [r] ((1 : Nat) : Int) s t f (j : Int)) j = true := by
    refine meB_mk hq (by rw [hk]; exact Nat.one_pos) ?_
    rw [hk, hlen]; simp only [List.length_singleton]; omega
  refine (pvB_all o1 (prB_days hp) hm).trans ?_
  rw [meV_yes hm, hk, isum_one]
  exact rq_one _
end Go.Proofs.Ytkiibklenpncpaa
