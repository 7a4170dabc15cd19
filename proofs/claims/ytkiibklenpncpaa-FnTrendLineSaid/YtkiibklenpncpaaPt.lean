/- A tree of values in memory, without the program: the tree itself 'Tr', where it lies 'Has', the way to a place in it 'HasC', what is put in 'ins', and what it counts. -/
import Derived.Test.YtkiibklenpncpaaPr
import Derived.Test.YtkiibklenpncpaaKeep
import Derived.Deep.RegionHeld
namespace Go.Proofs.Ytkiibklenpncpaa
open Go.RowKit
set_option linter.unusedVariables false

/-- A node: its block, its value, how many values are here and below, what is less and what is greater. -/
inductive Tr where
  | leaf : Tr
  | node (g : Nat) (v : Int) (m : Nat) (l r : Tr) : Tr
namespace Tr
def rt : Tr → Option Addr
  | .leaf => none
  | .node g _ _ _ _ => some ⟨g, 0, none⟩
def sz : Tr → Nat
  | .leaf => 0
  | .node _ _ m _ _ => m
def bl : Tr → List Nat
  | .leaf => []
  | .node g _ _ l r => g :: (l.bl ++ r.bl)
/-- A value put in, in the block g0 if it is a new one. -/
def ins (x : Int) (g0 : Nat) : Tr → Tr
  | .leaf => .node g0 x 1 .leaf .leaf
  | .node g v m l r => if x = v then .node g v (m + 1) l r else if v < x then .node g v (m + 1) l (ins x g0 r) else .node g v (m + 1) (ins x g0 l) r
/-- How many are less. -/
def lt (x : Int) : Tr → Nat
  | .leaf => 0
  | .node _ v m l r => if x = v then l.sz else if v < x then (m - r.sz) + lt x r else lt x l
/-- How many are greater. -/
def gt (x : Int) : Tr → Nat
  | .leaf => 0
  | .node _ v m l r => if x = v then r.sz else if v < x then gt x r else (m - l.sz) + gt x l
/-- The tree is one of the values of a list. -/
def WF : Tr → List Int → Prop
  | .leaf, L => L = []
  | .node _ v m l r, L => m = L.length ∧ l.WF (L.filter fun y => decide (y < v)) ∧ r.WF (L.filter fun y => decide (v < y))
theorem WF.sz_eq : ∀ {t : Tr} {L : List Int}, t.WF L → t.sz = L.length
  | .leaf, L, h => by have h : L = [] := h; rw [h]; rfl
  | .node _ _ _ _ _, L, h => h.1
theorem WF.ins {x : Int} {g0 : Nat} : ∀ {t : Tr} {L : List Int}, t.WF L → (t.ins x g0).WF (L ++ [x])
  | .leaf, L, h => by
    have h : L = [] := h
    subst h
    refine ⟨rfl, ?_, ?_⟩ <;> simp [WF]
  | .node g v m l r, L, ⟨h1, h2, h3⟩ => by
    rw [Tr.ins]
    split
    · rename_i e
      subst e
      refine ⟨by rw [List.length_append, h1]; rfl, ?_, ?_⟩
      · simpa using h2
      · simpa using h3
    · rename_i e
      split
      · rename_i e2
        refine ⟨by rw [List.length_append, h1]; rfl, ?_, ?_⟩
        · rw [List.filter_append, show ([x].filter fun y => decide (y < v)) = [] by simp; omega, List.append_nil]; exact h2
        · rw [List.filter_append, show ([x].filter fun y => decide (v < y)) = [x] by simp [e2]]; exact WF.ins h3
      · rename_i e2
        refine ⟨by rw [List.length_append, h1]; rfl, ?_, ?_⟩
        · rw [List.filter_append, show ([x].filter fun y => decide (y < v)) = [x] by simp; omega]; exact WF.ins h2
        · rw [List.filter_append, show ([x].filter fun y => decide (v < y)) = [] by simp; omega, List.append_nil]; exact h3
theorem WF.lt_eq {x : Int} : ∀ {t : Tr} {L : List Int}, t.WF L → t.lt x = cLt L x
  | .leaf, L, h => by have h : L = [] := h; rw [h]; rfl
  | .node g v m l r, L, ⟨h1, h2, h3⟩ => by
    have s2 := h2.sz_eq
    have s3 := h3.sz_eq
    rw [Tr.lt]
    split
    · rename_i e; subst e; rw [s2, cLt, List.countP_eq_length_filter]
    · split
      · rename_i e e2
        rw [h3.lt_eq, h1, s3, cLt, cLt, ← List.countP_eq_length_filter, List.countP_filter]
        have h := List.length_eq_countP_add_countP (fun y => decide (v < y)) (l := L)
        have h4 : L.countP (fun y => decide (y < x)) = L.countP (fun y => decide (y < x) && decide (v < y)) + L.countP (fun y => decide ¬ (decide (v < y) = true)) := by
          clear h1 h2 h3 s2 s3 h
          induction L with
          | nil => rfl
          | cons y L ih =>
            simp only [List.countP_cons, ih]
            by_cases a : y < x <;> by_cases b : v < y <;> simp [a, b] <;> omega
        omega
      · rename_i e e2
        rw [h2.lt_eq, cLt, cLt, List.countP_filter]
        refine List.countP_congr fun y _ => ?_
        simp only [Bool.and_eq_true, decide_eq_true_eq]
        omega
theorem WF.gt_eq {x : Int} : ∀ {t : Tr} {L : List Int}, t.WF L → t.gt x = cGt L x
  | .leaf, L, h => by have h : L = [] := h; rw [h]; rfl
  | .node g v m l r, L, ⟨h1, h2, h3⟩ => by
    have s2 := h2.sz_eq
    have s3 := h3.sz_eq
    rw [Tr.gt]
    split
    · rename_i e; subst e; rw [s3, cGt, List.countP_eq_length_filter]
    · split
      · rename_i e e2
        rw [h3.gt_eq, cGt, cGt, List.countP_filter]
        refine List.countP_congr fun y _ => ?_
        simp only [Bool.and_eq_true, decide_eq_true_eq]
        omega
      · rename_i e e2
        rw [h2.gt_eq, h1, s2, cGt, cGt, ← List.countP_eq_length_filter, List.countP_filter]
        have h := List.length_eq_countP_add_countP (fun y => decide (y < v)) (l := L)
        have h4 : L.countP (fun y => decide (x < y)) = L.countP (fun y => decide (x < y) && decide (y < v)) + L.countP (fun y => decide ¬ (decide (y < v) = true)) := by
          clear h1 h2 h3 s2 s3 h
          induction L with
          | nil => rfl
          | cons y L ih =>
            simp only [List.countP_cons, ih]
            by_cases a : x < y <;> by_cases b : y < v <;> simp [a, b] <;> omega
        omega
theorem WF.kids {g m : Nat} {v : Int} {l r : Tr} {L : List Int} (h : (Tr.node g v m l r).WF L) : l.sz + r.sz ≤ m ∧ m = L.length := by
  obtain ⟨h1, h2, h3⟩ := h
  refine ⟨?_, h1⟩
  rw [h2.sz_eq, h3.sz_eq, h1, ← List.countP_eq_length_filter, ← List.countP_eq_length_filter]
  clear h1 h2 h3
  induction L with
  | nil => simp
  | cons y L ih =>
    simp only [List.countP_cons, List.length_cons]
    by_cases a : y < v <;> by_cases b : v < y <;> simp [a, b] <;> omega
theorem bl_ins {x : Int} {g0 : Nat} : ∀ {t : Tr} {b : Nat}, b ∈ (t.ins x g0).bl → b ∈ t.bl ∨ b = g0
  | .leaf, b, h => by right; simpa [ins, bl] using h
  | .node g v m l r, b, h => by
    rw [ins] at h
    split at h
    · exact .inl h
    · split at h
      · simp only [bl, List.mem_cons, List.mem_append] at h ⊢
        rcases h with h | h | h
        · exact .inl (.inl h)
        · exact .inl (.inr (.inl h))
        · rcases bl_ins h with h | h
          · exact .inl (.inr (.inr h))
          · exact .inr h
      · simp only [bl, List.mem_cons, List.mem_append] at h ⊢
        rcases h with h | h | h
        · exact .inl (.inl h)
        · rcases bl_ins h with h | h
          · exact .inl (.inr (.inl h))
          · exact .inr h
        · exact .inl (.inr (.inr h))
theorem nodup_ins {x : Int} {g0 : Nat} : ∀ {t : Tr}, t.bl.Nodup → g0 ∉ t.bl → (t.ins x g0).bl.Nodup
  | .leaf, _, _ => by simp [ins, bl]
  | .node g v m l r, h, h0 => by
    rw [ins]
    split
    · exact h
    · simp only [bl, List.nodup_cons, List.mem_append, not_or, List.nodup_append, List.mem_cons] at h h0
      obtain ⟨⟨a1, a2⟩, b1, b2, b3⟩ := h
      obtain ⟨c0, c1, c2⟩ := h0
      split
      · simp only [bl, List.nodup_cons, List.mem_append, not_or, List.nodup_append]
        refine ⟨⟨a1, fun hh => ?_⟩, b1, nodup_ins b2 c2, fun y hy z hz e => ?_⟩
        · rcases bl_ins hh with hh | hh
          · exact a2 hh
          · exact c0 hh.symm
        · rcases bl_ins hz with hh | hh
          · exact b3 y hy z hh e
          · subst hh; subst e; exact c1 hy
      · simp only [bl, List.nodup_cons, List.mem_append, not_or, List.nodup_append]
        refine ⟨⟨fun hh => ?_, a2⟩, nodup_ins b1 c1, b2, fun y hy z hz e => ?_⟩
        · rcases bl_ins hh with hh | hh
          · exact a1 hh
          · exact c0 hh.symm
        · rcases bl_ins hy with hh | hh
          · exact b3 y hh z hz e
          · subst hh; subst e; exact c2 hz
end Tr

/-- A block is as it was. -/
def Sm (w w' : World) (b : Nat) : Prop := ∀ o, w'.cell? ⟨b, o, none⟩ = w.cell? ⟨b, o, none⟩ ∧ w'.frozen? ⟨b, o, none⟩ = w.frozen? ⟨b, o, none⟩
theorem Sm.refl (w : World) (b : Nat) : Sm w w b := fun _ => ⟨rfl, rfl⟩
theorem Sm.put (w : World) {g b : Nat} (h : g ≠ b) (o : Nat) (u : Value) : Sm w (w.setCell ⟨g, o, none⟩ u) b := fun i => ⟨World.cell?_setCell_far w _ _ u h, World.frozen?_setCell w _ _ u⟩
theorem Sm.new (w : World) {b : Nat} (h : b < w.heap.size) (o : Obj) : Sm w (w.alloc o) b := fun i => ⟨World.cell?_alloc_lt w o ⟨b, i, none⟩ h, World.frozen?_alloc_old w o ⟨b, i, none⟩ (by show b ≠ w.heap.size; omega)⟩
theorem Sm.drewN (w : World) (b n : Nat) : Sm w (w.drewN n) b := fun _ => ⟨rfl, rfl⟩
theorem Sm.trans {a b c : World} {x : Nat} (h : Sm a b x) (k : Sm b c x) : Sm a c x := fun i => ⟨(k i).1.trans (h i).1, (k i).2.trans (h i).2⟩

/-- The tree t lies at the place pl. -/
def Has (w : World) : Addr → Tr → Prop
  | pl, .leaf => w.cell? pl = some (.pointer none) ∧ w.frozen? pl = false
  | pl, .node g v m l r => (w.cell? pl = some (.pointer (some ⟨g, 0, none⟩)) ∧ w.frozen? pl = false) ∧ (w.cell? ⟨g, 0, none⟩ = some (.int .i64 v) ∧ w.cell? ⟨g, 1, none⟩ = some (.int .i64 (m : Int)) ∧ w.frozen? ⟨g, 1, none⟩ = false) ∧
      Has w ⟨g, 2, none⟩ l ∧ Has w ⟨g, 3, none⟩ r
theorem Has.cell {w : World} {pl : Addr} : ∀ {t : Tr}, Has w pl t → w.cell? pl = some (.pointer t.rt) ∧ w.frozen? pl = false
  | .leaf, h => h
  | .node _ _ _ _ _, h => h.1
theorem Has.off {w w' : World} : ∀ {t : Tr} {pl : Addr}, Has w pl t → w'.cell? pl = w.cell? pl → w'.frozen? pl = w.frozen? pl → (∀ b ∈ t.bl, Sm w w' b) → Has w' pl t
  | .leaf, pl, h, h1, h2, _ => ⟨h1.trans h.1, h2.trans h.2⟩
  | .node g v m l r, pl, ⟨⟨a, b⟩, ⟨c, d, e⟩, f1, f2⟩, h1, h2, hs => by
    have hg := hs g (by simp [Tr.bl])
    refine ⟨⟨h1.trans a, h2.trans b⟩, ⟨(hg 0).1.trans c, (hg 1).1.trans d, (hg 1).2.trans e⟩, ?_, ?_⟩
    · exact f1.off (hg 2).1 (hg 2).2 fun b hb => hs b (by simp [Tr.bl, hb])
    · exact f2.off (hg 3).1 (hg 3).2 fun b hb => hs b (by simp [Tr.bl, hb])
theorem Has.lt {w : World} : ∀ {t : Tr} {pl : Addr}, Has w pl t → ∀ b ∈ t.bl, b < w.heap.size
  | .leaf, _, _, b, hb => by simp [Tr.bl] at hb
  | .node g v m l r, pl, ⟨_, ⟨c, _, _⟩, f1, f2⟩, b, hb => by
    simp only [Tr.bl, List.mem_cons, List.mem_append] at hb
    rcases hb with rfl | hb | hb
    · exact World.block_lt_of_cell? w _ c
    · exact f1.lt b hb
    · exact f2.lt b hb
/-- A step on the way to a place: a node with its other side; 'true': the way goes to what is greater. -/
structure Fr where
  g : Nat
  v : Int
  m : Nat
  d : Bool
  o : Tr
def Fr.fill (f : Fr) (t : Tr) : Tr := if f.d then .node f.g f.v f.m f.o t else .node f.g f.v f.m t f.o
def plug : List Fr → Tr → Tr
  | [], t => t
  | f :: c, t => plug c (f.fill t)
def blC : List Fr → List Nat
  | [] => []
  | f :: c => f.g :: (f.o.bl ++ blC c)
/-- The way from the root's place R to the place pl. -/
def HasC (w : World) (R : Addr) : List Fr → Addr → Prop
  | [], pl => pl = R
  | f :: c, pl => pl = ⟨f.g, if f.d then 3 else 2, none⟩ ∧ (w.cell? ⟨f.g, 0, none⟩ = some (.int .i64 f.v) ∧ w.cell? ⟨f.g, 1, none⟩ = some (.int .i64 (f.m : Int)) ∧ w.frozen? ⟨f.g, 1, none⟩ = false) ∧
      Has w ⟨f.g, if f.d then 2 else 3, none⟩ f.o ∧ ∃ pl', HasC w R c pl' ∧ w.cell? pl' = some (.pointer (some ⟨f.g, 0, none⟩)) ∧ w.frozen? pl' = false
theorem HasC.plug {w : World} {R : Addr} : ∀ {c : List Fr} {pl : Addr} {t : Tr}, HasC w R c pl → Has w pl t → Has w R (plug c t)
  | [], pl, t, h, k => by have h : pl = R := h; subst h; exact k
  | ⟨g, v, m, d, o⟩ :: c, pl, t, ⟨h1, h2, h3, pl', h4, h5, h6⟩, k => by
    subst h1
    refine HasC.plug (c := c) (t := Fr.fill ⟨g, v, m, d, o⟩ t) h4 ?_
    cases d
    · exact ⟨⟨h5, h6⟩, h2, k, h3⟩
    · exact ⟨⟨h5, h6⟩, h2, h3, k⟩
/-- Where a place lies. -/
theorem HasC.block {w : World} {R : Addr} : ∀ {c : List Fr} {pl : Addr}, HasC w R c pl → pl.block = R.block ∨ pl.block ∈ blC c
  | [], pl, h => by have h : pl = R := h; subst h; exact .inl rfl
  | f :: c, pl, ⟨h1, _⟩ => by subst h1; right; simp [blC]
theorem HasC.spot {w : World} {R : Addr} (hR : R.spot = none) : ∀ {c : List Fr} {pl : Addr}, HasC w R c pl → pl.spot = none
  | [], pl, h => by have h : pl = R := h; subst h; exact hR
  | f :: c, pl, ⟨h1, _⟩ => by subst h1; rfl
theorem HasC.off {w w' : World} {R : Addr} (hR : R.spot = none) : ∀ {c : List Fr} {pl : Addr}, HasC w R c pl → Sm w w' R.block → (∀ b ∈ blC c, Sm w w' b) → HasC w' R c pl
  | [], pl, h, _, _ => h
  | f :: c, pl, ⟨h1, ⟨a, b, d⟩, h3, pl', h4, h5, h6⟩, hr, hs => by
    have hg := hs f.g (by simp [blC])
    have hp : Sm w w' pl'.block := by
      rcases h4.block with h | h
      · rw [h]; exact hr
      · exact hs _ (by simp [blC, h])
    have hsp := h4.spot hR
    have e : pl' = ⟨pl'.block, pl'.off, none⟩ := by cases pl'; simp at hsp; subst hsp; rfl
    refine ⟨h1, ⟨(hg 0).1.trans a, (hg 1).1.trans b, (hg 1).2.trans d⟩, ?_, pl', h4.off hR hr (fun b hb => hs b (by simp [blC, hb])), ?_, ?_⟩
    · exact h3.off (hg _).1 (hg _).2 fun b hb => hs b (by simp [blC, hb])
    · rw [e, (hp _).1, ← e]; exact h5
    · rw [e, (hp _).2, ← e]; exact h6
/-- A store at the place itself leaves the way to it alone. -/
theorem HasC.put {w : World} {R : Addr} (hR : R.spot = none) {c : List Fr} {pl : Addr} (h : HasC w R c pl) (hn : (R.block :: blC c).Nodup) (u : Value) : HasC (w.setCell pl u) R c pl := by
  cases c with
  | nil => exact h
  | cons f c =>
    obtain ⟨h1, ⟨a, b, d⟩, h3, pl', h4, h5, h6⟩ := h
    simp only [blC, List.nodup_cons, List.mem_cons, List.mem_append, not_or] at hn
    obtain ⟨⟨n1, n2, n3⟩, ⟨n4, n5⟩, n6⟩ := hn
    subst h1
    have hp : f.g ≠ pl'.block := by
      rcases h4.block with h | h
      · rw [h]; exact fun e => n1 e.symm
      · exact fun e => n5 (e ▸ h)
    refine ⟨rfl, ⟨?_, ?_, ?_⟩, ?_, pl', h4.off hR (Sm.put w (fun e => n1 e.symm) _ u) (fun b hb => Sm.put w (fun e => n5 (by rw [e]; exact hb)) _ u), ?_, ?_⟩
    · rw [World.cell?_setCell_other w _ _ u (by cases f.d <;> simp)]; exact a
    · rw [World.cell?_setCell_other w _ _ u (by cases f.d <;> simp)]; exact b
    · rw [World.frozen?_setCell]; exact d
    · refine h3.off ?_ (World.frozen?_setCell w _ _ u) fun b hb => Sm.put w (fun e => n4 (by rw [e]; exact hb)) _ u
      exact World.cell?_setCell_other w _ _ u (by cases f.d <;> simp)
    · rw [World.cell?_setCell_far w _ _ u hp]; exact h5
    · rw [World.frozen?_setCell]; exact h6
theorem plug_bl : ∀ (c : List Fr) (t : Tr) (b : Nat), b ∈ (plug c t).bl ↔ b ∈ blC c ∨ b ∈ t.bl
  | [], t, b => by simp [plug, blC]
  | f :: c, t, b => by
    rw [plug, plug_bl c, blC, Fr.fill]
    cases f.d <;> simp only [Tr.bl, List.mem_cons, List.mem_append, if_true, if_false, Bool.false_eq_true] <;> grind
end Go.Proofs.Ytkiibklenpncpaa
