/- The program's cursor at the texts of series: values. -/
import Derived.Test.YtpdpcnblpcalaaaDoorBcu
import Derived.Test.YtpdpcnblpcalaaaDoorDrHl
namespace Go.Proofs.YtpdpcnblpcalaaaDoor
open Go.RowKit
set_option linter.unusedVariables false

inductive Vals : List UInt8 → List Int → Prop
  | nil : Vals [] []
  | cons {t R' : List UInt8} {v : Int} {zs : List Int} : vAt t = some (v, R') → Vals R' zs → Vals (32 :: t) (v :: zs)
theorem vAt_len {t R' : List UInt8} {v : Int} (h : vAt t = some (v, R')) : R'.length ≤ t.length := by
  unfold vAt at h
  split at h
  · injection h with h; injection h with h1 h2; subst h2; simp
  · split at h
    · injection h with h; injection h with h1 h2; subst h2; rw [List.length_drop]; omega
    · exact absurd h (by simp)
/-- What is read so far, and what is left. -/
def Upto (R : List UInt8) (zs : List Int) (R' : List UInt8) : Prop := zs.length + R'.length ≤ R.length ∧ (∀ us, Vals R' us → Vals R (zs ++ us)) ∧ (∀ us, Vals R us → ∃ vs, us = zs ++ vs ∧ Vals R' vs)
theorem Upto.start (R : List UInt8) : Upto R [] R := ⟨by simp, fun us h => h, fun us h => ⟨us, rfl, h⟩⟩
theorem Upto.step {R t R' : List UInt8} {zs : List Int} {v : Int} (h : Upto R zs (32 :: t)) (hv : vAt t = some (v, R')) : Upto R (zs ++ [v]) R' := by
  obtain ⟨h1, h2, h3⟩ := h
  have := vAt_len hv
  refine ⟨by simp at h1 ⊢; omega, fun us hu => by simpa using h2 (v :: us) (.cons hv hu), fun us hu => ?_⟩
  obtain ⟨vs, e, hvs⟩ := h3 us hu
  cases hvs with
  | cons h4 h5 =>
    rw [hv] at h4
    injection h4 with h4; injection h4 with e1 e2
    subst e1; subst e2
    exact ⟨_, by rw [e]; simp, h5⟩
theorem Upto.fail {R t : List UInt8} {zs : List Int} (h : Upto R zs (32 :: t)) (hv : vAt t = none) : ∀ us, ¬ Vals R us := fun us hu => by
  obtain ⟨vs, e, hvs⟩ := h.2.2 us hu
  cases hvs with
  | cons h4 h5 => rw [hv] at h4; cases h4
theorem Upto.bad {R R' : List UInt8} {zs : List Int} (h : Upto R zs R') (h0 : R' ≠ []) (hv : ∀ t, R' ≠ 32 :: t) : ∀ us, ¬ Vals R us := fun us hu => by
  obtain ⟨vs, e, hvs⟩ := h.2.2 us hu
  cases hvs with
  | nil => exact h0 rfl
  | cons h4 h5 => exact hv _ rfl
theorem Upto.done {R : List UInt8} {zs : List Int} (h : Upto R zs []) : Vals R zs := by simpa using h.2.1 [] .nil
theorem CurR.grown2 {w w' : World} {b base : Nat} {s : ByteArray} {R : List UInt8} {row : Option Nat} (h : CurR w b s R) (hg : w.grownBy w' row) (hB : b < base) (hr : ∀ k, row = some k → base ≤ k) : CurR w' b s R := by
  obtain ⟨p, ⟨c0, c1, f1, hb, h1, h2⟩, hR⟩ := h
  have hbl := hg.block b hb (fun e => by have := hr b e.symm; omega)
  refine ⟨p, ⟨(World.cell?_of_block hbl).trans c0, (World.cell?_of_block hbl).trans c1, ?_, Nat.lt_of_lt_of_le hb hg.size, h1, h2⟩, hR⟩
  simp only [World.frozen?, hbl] at f1 ⊢
  exact f1
theorem CurR.short {w : World} {b : Nat} {s : ByteArray} {R : List UInt8} (h : CurR w b s R) : R.length ≤ 1048576 := by
  obtain ⟨p, ⟨_, _, _, _, h1, h2⟩, hR⟩ := h
  have e : s.data.toList.length = s.size := Array.length_toList
  rw [← hR, List.length_drop, e]; omega
def lenOf : Value → Nat
  | .slice _ n _ => n
  | _ => 0
theorem OwnI.len {w : World} {base : Nat} {v : Value} {zs : List Int} (h : OwnI w base v zs) : lenOf v = zs.length := by
  obtain ⟨a, c, rfl, _⟩ := h.ls
  rfl
def VlsR (w : World) (b : Nat) (s : ByteArray) (R : List UInt8) (e : Ending) (w' : World) : Prop :=
  Only b w w' ∧ ((∃ zs v, Vals R zs ∧ OwnI w' w.heap.size v zs ∧ CurR w' b s [] ∧ e = .returned (.tuple #[v, .bool true])) ∨
    ((∀ zs, ¬ Vals R zs) ∧ e = .returned (.tuple #[.slice none 0 0, .bool false])))
set_option maxRecDepth 100000 in
set_option maxHeartbeats 2000000 in
theorem values_R (b : Nat) (s : ByteArray) (R : List UInt8) (w : World) (h : CurR w b s R) :
    Calls Tryd.prog 59 #[.pointer (some ⟨b, 0, none⟩)] w (VlsR w b s R) := by
  have hBR := h.lt
  have hsh := h.short
  obtain ⟨i0, hi, hz0, hz1, hz2⟩ := info_parts infoInt'
  go_enter Tryd.func59, Tryd.ntmps59
  go_wp2_with fail
  go_loopw [4] (fun u wr => ∃ (zs : List Int) (v : Value) (R' : List UInt8), u = v ∧ Hid (Upto R zs R') ∧ Hid (OwnI wr w.heap.size v zs) ∧ Hid (CurR wr b s R') ∧ Only b w wr) (fun u _ => R.length - lenOf u)
  case atStart => exact ⟨[], _, R, rfl, Lib.hid (Upto.start R), Lib.hid ⟨rfl, .inl ⟨rfl, rfl⟩⟩, Lib.hid h, Only.refl b w⟩
  case round =>
    obtain ⟨zs, v, R', rfl, HU, HO, HC, hW⟩ := hrel
    have hsz := hW.size
    go_wp2_with fail
    refine (done_R b s R' _ HC.out).mono ?_
    rintro e w1 ⟨ho1, hc1, rfl⟩
    have hW1 := hW.trans ho1
    have HO1 := Lib.hid (HO.out.only ho1 hBR)
    clear HO HC hW hsz
    cases R' with
    | nil =>
      have HD := Lib.hid HU.out.done
      clear HU
      simp only [List.isEmpty_nil]
      go_wp2
      go_ret2
      exact ⟨hW1, .inl ⟨zs, _, HD.out, HO1.out, hc1, rfl⟩⟩
    | cons c t =>
      simp only [List.isEmpty_cons]
      go_wp2_with fail
      refine (take_R b s (c :: t) 32 _ hc1).mono ?_
      rintro e w2 ⟨ho2, ⟨t', hR, hc2, rfl⟩ | ⟨hR, hc2, rfl⟩⟩
      case' inr =>
        have HF := Lib.hid (HU.out.bad (by simp) hR)
        have hW2 := hW1.trans ho2
        clear HU hR hW1
        go_wp2
        go_ret2
        exact ⟨hW2, .inr ⟨HF.out, rfl⟩⟩
      rw [hR] at HU
      have hW2 := hW1.trans ho2
      have HO2 := Lib.hid (HO1.out.only ho2 hBR)
      clear HO1 hR hW1 ho1 ho2 hc1
      go_wp2_with fail
      refine (von_R b s t' _ hc2).mono ?_
      rintro e w3 ⟨ho3, ⟨y, R2, hv, hc3, rfl⟩ | ⟨hv, _, y, rfl⟩⟩
      case' inr =>
        have HF := Lib.hid (HU.out.fail hv)
        have hW3 := hW2.trans ho3
        clear HU hv hW2
        go_wp2
        go_ret2
        exact ⟨hW3, .inr ⟨HF.out, rfl⟩⟩
      have HU2 := Lib.hid (HU.out.step hv)
      have hW3 := hW2.trans ho3
      have HO3 := Lib.hid (HO2.out.only ho3 hBR)
      have HC3 := Lib.hid hc3
      have HL : Hid (zs.length + 1 ≤ 1048576 ∧ zs.length < R.length) := Lib.hid (by
        have := HU2.out.1
        rw [List.length_append, List.length_singleton] at this
        omega)
      clear HU hv hW2 HO2 ho3 hc3 hc2
      have hsz3 := hW3.size
      have hown : w3.ownsRow w.heap.size 3 1 _ zs.length (zs.map (Value.int .i64)) := HO3.out
      go_wp2_with (at_builtin; refine wpList_append_own _ rfl _ _ 23 rfl w.heap.size 3 i0 (.int .i64 0) 1 8 Tryd.underlying23 hi hz0 hz1 hz2 rfl (by decide) _ _ _ rfl (hown.alloc _) ⟨w3.heap.size, 0, none⟩ 1 1 [.int .i64 y] rfl rfl ?c1a ?c2a ?c3a ?c4a ?c5a ?_)
      case c1a =>
        intro j u hj
        match j, hj with
        | 0, hj => simp at hj; subst hj; simp [Addr.add]
      case c2a => first | rfl | (intro u hu; simp at hu; subst hu; rfl)
      case c3a => unfold maxLen; have := HL.out; omega
      case c4a => have := HL.out; omega
      case c5a => simp; omega
      intro v' w9 hown' hgrow hnil
      have hrow : ∀ g, _ = some g → w.heap.size ≤ g := fun g hg => (hown.lt g hg).1
      have HN : Hid (OwnI w9 w.heap.size v' (zs ++ [y])) := Lib.hid (by unfold OwnI; simpa using hown')
      have HC9 := Lib.hid ((HC3.out.keep ((Keep.refl w3).alloc _)).grown2 hgrow hBR hrow)
      have HG := Lib.hid ((hW3.alloc _).grown2 hgrow hrow)
      have hl1 := Lib.hid HN.out.len
      have hl0 := Lib.hid HO3.out.len
      clear hown' hgrow hnil hown hrow hW3
      go_wp2
      go_roundw
      case rel => exact ⟨zs ++ [y], _, R2, rfl, HU2, HN, HC9, HG.out⟩
      case measure =>
        have e1 := hl1.out
        have e0 := hl0.out
        have := HL.out
        rw [List.length_append, List.length_singleton] at e1
        first | omega | (simp only [Array.getD_eq_getD_getElem?]; simp; omega) | (simp; omega)
end Go.Proofs.YtpdpcnblpcalaaaDoor
