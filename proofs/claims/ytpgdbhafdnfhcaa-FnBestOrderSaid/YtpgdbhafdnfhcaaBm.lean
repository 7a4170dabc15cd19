/- CutsBest: what both sides answer ('cbOk', 'cbL'), and the program's map of plans. -/
import Derived.Test.YtpgdbhafdnfhcaaCb
import Derived.Test.YtpgdbhafdnfhcaaKd
import Derived.Test.YtpgdbhafdnfhcaaOi
import Derived.Maps.OwnOps
import Derived.Maps.OwnSet
namespace Go.Proofs.Ytpgdbhafdnfhcaa
open Go.RowKit
set_option linter.unusedVariables false

/-- The cost of a part. -/
def bF (zs : List Int) (p q : Nat) : Int := pcV (seg zs p q)
/-- The best cuts from day p on, with their cost. -/
def bB (zs : List Int) (pr : Int) (p : Nat) : Int × List Int := bq (bF zs) zs.length pr zs.length p
theorem bB_best {zs : List Int} (pr : Int) {p : Nat} (h : p < zs.length) : Bst (bF zs) zs.length pr p (bB zs pr p) := bq_best _ _ _ _ _ h (by omega)
def cbOk (zs : List Int) (pr : Int) : Bool := shB zs && inB pr 0 9999
def cbL (zs : List Int) (pr : Int) : List Int := if cbOk zs pr then (bB zs pr 0).2 else []
theorem cbL_no {zs : List Int} {pr : Int} (h : cbOk zs pr = false) : cbL zs pr = [] := by simp [cbL, h]
theorem cbL_yes {zs : List Int} {pr : Int} (h : cbOk zs pr = true) : cbL zs pr = (bB zs pr 0).2 := by simp [cbL, h]
theorem cbOk_facts {zs : List Int} {pr : Int} (h : cbOk zs pr = true) : shB zs = true ∧ (1 ≤ zs.length ∧ zs.length ≤ 8) ∧ 0 ≤ pr ∧ pr ≤ 9999 := by
  simp only [cbOk, Bool.and_eq_true] at h
  refine ⟨h.1, ⟨(sq_facts (shB_facts h.1).1).2.1, (shB_facts h.1).2.1⟩, ?_⟩
  have := h.2
  simp [inB] at this; omega
theorem vc_len {n : Nat} : ∀ {cs : List Int} {p : Nat}, p < n → Vc n p cs → cs.length + p < n
  | [], p, hp, _ => by simpa using hp
  | c :: cs, p, hp, h => by
    have hc := h.2 c List.mem_cons_self
    have ht : Vc n c.toNat cs := ⟨(List.pairwise_cons.1 h.1).2, fun x hx => ⟨by have := (List.pairwise_cons.1 h.1).1 x hx; omega, (h.2 x (List.mem_cons_of_mem _ hx)).2⟩⟩
    have := vc_len (show c.toNat < n by omega) ht
    simp only [List.length_cons]; omega
theorem cT_lo {zs : List Int} {pr : Int} (hs : shB zs = true) (h0 : 0 ≤ pr) : ∀ {cs : List Int} {p : Nat}, p < zs.length → Vc zs.length p cs → 0 ≤ cT (bF zs) zs.length pr p cs
  | [], p, hp, _ => (pcV_bd (seg_sh hs hp (Nat.le_refl _))).1
  | c :: cs, p, hp, h => by
    have hc := h.2 c List.mem_cons_self
    have ht : Vc zs.length c.toNat cs := ⟨(List.pairwise_cons.1 h.1).2, fun x hx => ⟨by have := (List.pairwise_cons.1 h.1).1 x hx; omega, (h.2 x (List.mem_cons_of_mem _ hx)).2⟩⟩
    have h1 := cT_lo hs h0 (show c.toNat < zs.length by omega) ht
    have h2 : 0 ≤ bF zs p c.toNat := (pcV_bd (seg_sh hs (show p < c.toNat by omega) (by omega))).1
    rw [cT]; omega
theorem bst_bd {zs : List Int} {pr : Int} (hs : shB zs = true) (h0 : 0 ≤ pr) {p : Nat} (hp : p < zs.length) {b : Int × List Int} (h : Bst (bF zs) zs.length pr p b) : (0 ≤ b.1 ∧ b.1 ≤ 176000) ∧ b.2.length + p < zs.length := by
  obtain ⟨h1, h2, h3⟩ := h
  refine ⟨⟨by rw [h1]; exact cT_lo hs h0 hp h2, ?_⟩, vc_len hp h2⟩
  have h4 := h3 [] ⟨List.Pairwise.nil, fun x hx => by cases hx⟩
  have h5 : cT (bF zs) zs.length pr p [] ≤ 176000 := (pcV_bd (seg_sh hs hp (Nat.le_refl _))).2
  unfold lsC at h4
  have h6 : ¬ cT (bF zs) zs.length pr p [] < b.1 := fun h => h4 (.inl h)
  omega
/-- The first cut, or the day behind the last one. -/
def hdN (n : Nat) : List Int → Int
  | [] => n
  | h :: _ => h
/-- Behind a first cut come the best cuts of that day. -/
theorem bB_next {zs : List Int} {pr : Int} {p : Nat} (hp : p < zs.length) : ((bB zs pr p).2 = [] ∧ hdN zs.length (bB zs pr p).2 = (zs.length : Nat)) ∨ ∃ d : Nat, p < d ∧ d < zs.length ∧ (bB zs pr p).2 = (d : Int) :: (bB zs pr d).2 ∧ hdN zs.length (bB zs pr p).2 = (d : Int) := by
  have hb := bB_best pr hp
  cases h : (bB zs pr p).2 with
  | nil => exact .inl ⟨rfl, rfl⟩
  | cons c t =>
    obtain ⟨h1, _, h3, h4⟩ := bst_tail hb h
    have h5 := bst_one h1 (bB_best pr (show c.toNat < zs.length by omega))
    have hct : ((c.toNat : Nat) : Int) = c := by omega
    refine .inr ⟨c.toNat, by omega, by omega, ?_, hct.symm⟩
    rw [← h5, hct]
theorem bsk_bst {f : Nat → Nat → Int} {n : Nat} {pr : Int} {p : Nat} {b : Int × List Int} (h : Bsk f n pr p n b) : Bst f n pr p b := by
  obtain ⟨e1, e2, _, e4⟩ := h
  refine ⟨e1, e2, fun cs hv => e4 cs hv fun h t e => ?_⟩
  exact (hv.2 h (by rw [e]; exact List.mem_cons_self ..)).2
theorem bsk_one (f : Nat → Nat → Int) (n : Nat) (pr : Int) (p : Nat) : Bsk f n pr p (p + 1) (f p n, []) := by
  refine ⟨rfl, ⟨List.Pairwise.nil, fun x hx => by cases hx⟩, fun h t e => by simp at e, fun cs hv hh => ?_⟩
  cases cs with
  | nil => exact lsC_irr _
  | cons x t =>
    have h3 := hh x t rfl
    have h4 := (hv.2 x (List.mem_cons_self ..)).1
    omega
/-- A plan as the map keeps it. -/
def plV (a b c : Int) : DataW Unit := .agg [.lit (.int .i64 a), .lit (.int .i64 b), .lit (.int .i64 c)]
def plD (n : Nat) (b : Int × List Int) : DataW Unit := plV b.1 b.2.length (hdN n b.2)
def plL : List Value → Option (DataW Unit × List MemPlace)
  | [.int .i64 a, .int .i64 b, .int .i64 c] => some (plV a b c, [])
  | _ => none
def plE : Value → Option (DataW Unit × List MemPlace)
  | .agg cs => plL cs.toList
  | _ => none
theorem plE_mk (a b c : Int) : plE (.agg #[.int .i64 a, .int .i64 b, .int .i64 c]) = some (plV a b c, []) := rfl
theorem plL_inv {l : List Value} {a b c : Int} {ps : List MemPlace} (h : plL l = some (plV a b c, ps)) : l = [.int .i64 a, .int .i64 b, .int .i64 c] := by
  unfold plL at h
  split at h
  · unfold plV at h
    simp only [Option.some.injEq, Prod.mk.injEq, DataW.agg.injEq, List.cons.injEq, DataW.lit.injEq, Lit.int.injEq] at h
    obtain ⟨⟨⟨_, rfl⟩, ⟨_, rfl⟩, ⟨_, rfl⟩, _⟩, _⟩ := h
    rfl
  · cases h
theorem plE_inv {v : Value} {a b c : Int} {ps : List MemPlace} (h : plE v = some (plV a b c, ps)) : v = .agg #[.int .i64 a, .int .i64 b, .int .i64 c] := by
  cases v with
  | agg cs =>
    have h2 := plL_inv (show plL cs.toList = _ from h)
    cases cs with
    | mk l =>
      have h3 : l = [.int .i64 a, .int .i64 b, .int .i64 c] := h2
      subst h3; rfl
  | _ => cases h
def plZ : DataW Unit := plV 0 0 0
theorem lawInt : Go.Maps.Keyed Try.prog 3 := Go.Maps.int_keyed Try.underlying3
theorem keyInt (x : Int) (h : -9223372036854775808 ≤ x ∧ x ≤ 9223372036854775807) : Go.keyOf Try.prog 3 (.int .i64 x) = some (.int .i64 x) := Go.Maps.keyOf_int_mk Try.underlying3 (WalkArith.wf_i64 h)
end Go.Proofs.Ytpgdbhafdnfhcaa
