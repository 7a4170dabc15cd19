/- How lists of readings and of weights are drawn: so many small numbers, in a row of the call's own. -/
import Derived.Test.YtkapnbfjpglblaaRd
import Derived.Test.YtkapnbfjpglblaaLs
import Derived.Test.YtkapnbfjpglblaaDrHr
import Derived.LoopTactic
import Derived.Laws.OwnMore
namespace Go.Proofs.Ytkapnbfjpglblaa
open Go.RowKit
set_option linter.unusedVariables false

theorem infoInt' : (Try.prog.info? 3).map (fun i => (i.zero, i.size, i.bytes)) = some (some (.int .i64 0), 1, 8) := by kernel_rfl
/-- A slice value that owns the integers zs. -/
def OwnI (w : World) (base : Nat) (v : Value) (zs : List Int) : Prop := w.ownsRow base 3 1 v zs.length (zs.map (Value.int .i64))
theorem OwnI.only {w w' : World} {base B : Nat} {v : Value} {zs : List Int} (h : OwnI w base v zs) (ho : Only B w w') (hB : B < base) : OwnI w' base v zs := by
  refine World.ownsRow.kept h ho ?_
  cases hv : v.ownBlock with
  | none => left; rfl
  | some k => right; have := h.lt k hv; intro e; injection e with e; omega
theorem OwnI.keep {w w' : World} {base : Nat} {v : Value} {zs : List Int} (h : OwnI w base v zs) (k : Keep w w') : OwnI w' base v zs := by
  refine World.ownsRow.kept h (⟨Below.os k, Below.tape k, Below.output k, Below.size k, fun i hi _ => Below.block k i hi⟩ : w.grownBy w' none) ?_
  cases hv : v.ownBlock with
  | none => left; rfl
  | some k => right; simp
theorem OwnI.ls {w : World} {base : Nat} {v : Value} {zs : List Int} (h : OwnI w base v zs) : ∃ a c, v = .slice a zs.length c ∧ Ls w a zs := by
  rcases id h.2 with ⟨rfl, h0⟩ | ⟨g, cap, cur, rfl, _⟩
  · refine ⟨none, 0, by rw [h0], .inl (List.eq_nil_of_length_eq_zero h0)⟩
  · exact ⟨_, _, rfl, (Ls.own h).2⟩
theorem OwnI.at_ {w : World} {base : Nat} {v : Value} {zs : List Int} (h : OwnI w base v zs) (h0 : 0 < zs.length) :
    ∃ g cap, v = .slice (some ⟨g, 0, none⟩) zs.length cap ∧ base ≤ g ∧ g < w.heap.size ∧ ∀ j, j < zs.length → w.cell? ⟨g, j, none⟩ = some (.int .i64 (zs.getD j 0)) ∧ w.frozen? ⟨g, j, none⟩ = false := by
  obtain ⟨g, cap, hv, hb, hl⟩ := h.form h0
  subst hv
  refine ⟨g, cap, rfl, hb, hl, fun j hj => ⟨?_, World.ownsRow.frozenAt h j⟩⟩
  rw [World.ownsRow.cellAt h j (by omega)]
  simp [hj, List.getD_eq_getElem?_getD]
theorem OwnI.stored {w : World} {base g cap : Nat} {zs : List Int} (h : OwnI w base (.slice (some ⟨g, 0, none⟩) zs.length cap) zs) (j : Nat) (u : Int) :
    OwnI (w.setCell ⟨g, j, none⟩ (.int .i64 u)) base (.slice (some ⟨g, 0, none⟩) (zs.set j u).length cap) (zs.set j u) := by
  have h1 := (World.ownsRow.stored h j (.int .i64 u)).1
  unfold OwnI
  rw [List.length_set, List.map_set]
  exact h1
def Btw (lo hi : Int) (zs : List Int) : Prop := ∀ x ∈ zs, lo ≤ x ∧ x ≤ hi
theorem Btw.snoc {lo hi u : Int} {zs : List Int} (h : Btw lo hi zs) (h0 : lo ≤ u) (h1 : u ≤ hi) : Btw lo hi (zs ++ [u]) := by
  intro x hx
  rw [List.mem_append, List.mem_singleton] at hx
  rcases hx with hx | rfl
  · exact h x hx
  · exact ⟨h0, h1⟩
theorem Btw.set {lo hi u : Int} {zs : List Int} (h : Btw lo hi zs) (j : Nat) (h0 : lo ≤ u) (h1 : u ≤ hi) : Btw lo hi (zs.set j u) := by
  intro x hx
  rcases List.mem_or_eq_of_mem_set hx with hx | rfl
  · exact h x hx
  · exact ⟨h0, h1⟩
/-- A drawn list. -/
def DrewL (lo hi : Int) (n : Nat) (w : World) (B p k : Nat) (e : Ending) (w' : World) : Prop :=
  ∃ (v : Value) (zs : List Int) (q : Nat), e = .returned v ∧ zs.length = n ∧ Btw lo hi zs ∧ OwnI w' w.heap.size v zs ∧ q ≤ p + k ∧ Rd w' B q ∧ Only B w w'

theorem Keep.grown2 {a w w' : World} {row : Option Nat} (h : Keep a w) (hg : w.grownBy w' row) (hr : ∀ k, row = some k → a.heap.size ≤ k) : Keep a w' :=
  Below.grown h hg h.size hr
theorem Only.grown2 {B : Nat} {a w w' : World} {row : Option Nat} (h : Only B a w) (hg : w.grownBy w' row) (hr : ∀ k, row = some k → a.heap.size ≤ k) : Only B a w' :=
  ⟨hg.os.trans h.os, hg.tape.trans h.tape, hg.output.trans h.output, Nat.le_trans h.size hg.size, fun i hi hne => (hg.block i (Nat.lt_of_lt_of_le hi h.size) (fun e => by have := hr i e.symm; omega)).trans (h.block i hi hne)⟩
theorem Rd.grown2 {w w' : World} {B p base : Nat} {row : Option Nat} (h : Rd w B p) (hg : w.grownBy w' row) (hB : B < base) (hr : ∀ k, row = some k → base ≤ k) : Rd w' B p := by
  obtain ⟨a, len, cap, hl, hb, c0, c1, f1, hc⟩ := h
  have hcell : ∀ b o, b ≤ B → w'.cell? ⟨b, o, none⟩ = w.cell? ⟨b, o, none⟩ := fun b o hbo => World.cell?_of_block (hg.block b (by omega) (fun e => by have := hr b e.symm; omega))
  refine ⟨a, len, cap, hl, Nat.lt_of_lt_of_le hb hg.size, (hcell B 0 (Nat.le_refl _)).trans c0, (hcell B 1 (Nat.le_refl _)).trans c1, ?_, hc.keep fun b o hbo => hcell b o (by omega)⟩
  rw [World.frozen?_of_block (a := ⟨B, 1, none⟩) (hg.block B hb (fun e => by have := hr B e.symm; omega))]
  exact f1

set_option maxRecDepth 100000 in
set_option maxHeartbeats 4000000 in
theorem drawReadings (B p n : Nat) (w : World) (hp : p ≤ 800000) (hn : n ≤ 100) (hr : Rd w B p) :
    Calls Try.prog 41 #[.pointer (some ⟨B, 0, none⟩), .int .i64 (n : Int)] w (DrewL (-1000) 11000 n w B p (n + 3)) := by
  have hBR := hr.lt
  obtain ⟨i0, hi, hz0, hz1, hz2⟩ := info_parts infoInt'
  go_enter Try.func41, Try.ntmps41
  go_wp2_with fail
  go_loopw [5, 6] (fun v i wr => ∃ (k : Nat) (zs : List Int), i = .int .i64 k ∧ k ≤ n ∧ Hid (zs.length = k) ∧ Hid (Btw (-1000) 11000 zs) ∧ Hid (OwnI wr w.heap.size v zs) ∧ Hid (Rd wr B (p + k)) ∧ Only B w wr) (fun _ i _ => n - (intOf i).toNat)
  case atStart =>
    exact ⟨0, [], rfl, Nat.zero_le _, Lib.hid rfl, Lib.hid (fun x hx => by simp at hx), Lib.hid (World.ownsRow_made w #[] 0 (Nat.le_refl _) (by unfold maxLen; omega) rfl), Lib.hid (hr.alloc _), (Only.refl B w).alloc _⟩
  case round =>
    obtain ⟨k, zs, rfl, hk, HL, HB, HO, HR, hW⟩ := hrel
    have hsz := hW.size
    by_cases hlt : k < n
    · go_wp2_with fail
      refine (pick_any B (p + k) 200 _ (by omega) (by omega) HR.out).mono ?_
      rintro e w1 ⟨x, rfl, x0, x1, hr1, ho1, hs1⟩
      have HO1 := Lib.hid (HO.out.only ho1 hBR)
      have HR1 := Lib.hid hr1
      have hW1 := hW.trans ho1
      have hs1z := hW1.size
      have y0 : -1000 ≤ x - 60 := by omega
      have y1 : x - 60 ≤ 11000 := by omega
      clear hr1 ho1 hs1 HO HR hW hsz
      have hown : w1.ownsRow w.heap.size 3 1 _ zs.length (zs.map (Value.int .i64)) := HO1.out
      go_wp2_with (at_builtin; refine wpList_append_own _ rfl _ _ 32 rfl w.heap.size 3 i0 (.int .i64 0) 1 8 Try.underlying32 hi hz0 hz1 hz2 rfl (by decide) _ _ _ rfl (hown.alloc _) ⟨w1.heap.size, 0, none⟩ 1 1 [.int .i64 (x - 60)] rfl rfl ?c1a ?c2a ?c3a ?c4a ?c5a ?_)
      case c1a =>
        intro j u hj
        match j, hj with
        | 0, hj => simp at hj; subst hj; simp [Addr.add]
      case c2a => first | rfl | (intro u hu; simp at hu; subst hu; rfl)
      case c3a => unfold maxLen; have := HL.out; omega
      case c4a => have := HL.out; omega
      case c5a => simp; omega
      intro v' w2 hown' hgrow hnil
      have hrow : ∀ g, _ = some g → w.heap.size ≤ g := fun g hg => (hown.lt g hg).1
      have HN : Hid (OwnI w2 w.heap.size v' (zs ++ [x - 60])) := Lib.hid (by unfold OwnI; simpa using hown')
      have HR2 := Lib.hid ((HR1.out.alloc _).grown2 hgrow hBR hrow)
      have HG := Lib.hid ((hW1.alloc _).grown2 hgrow hrow)
      have HB2 := Lib.hid (HB.out.snoc y0 y1)
      clear hown' hgrow hnil hown hrow hW1
      go_wp2
      go_roundw
      case rel => exact ⟨k + 1, zs ++ [x - 60], by go_num, by omega, Lib.hid (by have := HL.out; simp; omega), HB2, HN, HR2, HG.out⟩
      case measure => simp [intOf]; omega
    · obtain rfl : k = n := by omega
      by_cases h0 : k = 0
      · subst h0
        have hg0 : decide ((0 : Int) < ((0 : Nat) : Int)) = false := by simp
        go_wp2
        go_ret
        exact ⟨_, zs, p, rfl, HL.out, HB.out, HO.out, by omega, HR.out, hW⟩
      · have hg0 : decide ((0 : Int) < (k : Int)) = true := by simp; omega
        obtain rfl : zs.length = k := HL.out
        clear HL
        obtain ⟨g, cap, rfl, hb, hlt', hcell⟩ := HO.out.at_ (by omega)
        go_wp2_with fail
        refine (pick_any B (p + zs.length) 16 _ (by omega) (by omega) HR.out).mono ?_
        rintro e w1 ⟨y, rfl, y0, y1, hr1, ho1, hs1⟩
        have hBg : g ≠ B := by omega
        have HO1 := Lib.hid (HO.out.only ho1 hBR)
        have hW1 := hW.trans ho1
        rcases (show y = 0 ∨ (y == 0) = false by by_cases h : y = 0 <;> simp [h]) with rfl | hy
        · clear y0 y1 hcell
          go_wp2_with fail
          refine (pick_any B (p + zs.length + 1) zs.length _ (by omega) (by omega) hr1).mono ?_
          rintro e w2 ⟨t, rfl, t0, t1, hr2, ho2, hs2⟩
          go_wp2_with fail
          refine (pick_any B (p + zs.length + 2) 4 _ (by omega) (by omega) (hr2.alloc _)).mono ?_
          rintro e w3 ⟨s, rfl, s0, s1, hr3, ho3, hs3⟩
          obtain ⟨u, hu, cu⟩ := newCellAny [-1000, -999, 10999, 11000] ho3 hr2.lt s s0 s1
          have u0 : -1000 ≤ u := by simp at hu; omega
          have u1 : u ≤ 11000 := by simp at hu; omega
          clear hu
          have HO3 := Lib.hid ((HO1.out.only ho2 hBR).only ((Only.refl B w2).alloc _ |>.trans ho3) hBR)
          obtain ⟨g', cap', hv', hb', hlt3, hcell3⟩ := HO3.out.at_ (by omega)
          injection hv' with hv1 _ hv2
          injection hv1 with hv1
          injection hv1 with hv1
          subst hv1
          subst hv2
          have htk : t.toNat < zs.length := by omega
          obtain ⟨d1, d2⟩ := hcell3 t.toNat (by omega)
          have hW3 := (hW1.trans ho2).alloc (.cells (([-1000, -999, 10999, 11000] : List Int).map (Value.int .i64)).toArray 3) |>.trans ho3
          have t2 : t < (zs.length : Int) := t1
          have HS := Lib.hid (HO3.out.stored t.toNat u)
          have HR3 := Lib.hid hr3
          clear hcell3 hr1 ho1 hs1 hr2 ho2 hs2 ho3 hs3 hW1 hW hr3
          go_wp2
          go_ret
          exact ⟨_, zs.set t.toNat u, p + zs.length + 3, rfl, by rw [List.length_set], HB.out.set _ u0 u1, by have := HS.out; rw [List.length_set] at this; exact this, by omega, HR3.out.setCell (by omega) _, hW3.setCell hb _⟩
        · go_wp2
          go_ret
          exact ⟨_, zs, p + zs.length + 1, rfl, rfl, HB.out, HO1.out, by omega, hr1, hW1⟩
end Go.Proofs.Ytkapnbfjpglblaa
