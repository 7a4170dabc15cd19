/- Steps in a tree that lies in memory: on to a child, a value found, a new value. -/
import Derived.Test.YtkiibklenpncpaaPt
namespace Go.Proofs.Ytkiibklenpncpaa
open Go.RowKit
set_option linter.unusedVariables false

/-- Only blocks of S have turned, and new ones have come. -/
structure Off (S : List Nat) (w w' : World) : Prop where
  os : w'.os = w.os
  tape : w'.tape = w.tape
  output : w'.output = w.output
  size : w.heap.size ≤ w'.heap.size
  block : ∀ k, k < w.heap.size → k ∉ S → w'.heap[k]? = w.heap[k]?
theorem Off.refl (S : List Nat) (w : World) : Off S w w := ⟨rfl, rfl, rfl, Nat.le_refl _, fun _ _ _ => rfl⟩
theorem Off.trans {S : List Nat} {a b c : World} (h : Off S a b) (k : Off S b c) : Off S a c :=
  ⟨k.os.trans h.os, k.tape.trans h.tape, k.output.trans h.output, Nat.le_trans h.size k.size, fun i hi hn => (k.block i (Nat.lt_of_lt_of_le hi h.size) hn).trans (h.block i hi hn)⟩
theorem Off.more {S S' : List Nat} {a b : World} (h : Off S a b) (hs : ∀ x ∈ S, x ∈ S' ∨ a.heap.size ≤ x) : Off S' a b :=
  ⟨h.os, h.tape, h.output, h.size, fun i hi hn => h.block i hi fun hx => by
    rcases hs i hx with h | h
    · exact hn h
    · omega⟩
theorem Off.put {S : List Nat} (w : World) {g : Nat} (h : g ∈ S ∨ w.heap.size ≤ g) (o : Nat) (u : Value) : Off S w (w.setCell ⟨g, o, none⟩ u) :=
  ⟨rfl, rfl, rfl, by simp [World.setCell], fun k hk hn => Below.heap_setCell _ _ _ _ (by
    intro e
    have e : k = g := e
    rcases h with h | h
    · exact hn (by rw [e]; exact h)
    · omega)⟩
theorem Off.alloc (S : List Nat) (w : World) (o : Obj) : Off S w (w.alloc o) :=
  ⟨rfl, rfl, rfl, by simp, fun k hk _ => Below.heap_alloc _ _ _ hk⟩
theorem Off.drewN (S : List Nat) (w : World) (n : Nat) : Off S w (w.drewN n) := ⟨rfl, rfl, rfl, Nat.le_refl _, fun _ _ _ => rfl⟩
theorem Off.cell {S : List Nat} {w w' : World} (h : Off S w w') {b o : Nat} {v : Value} (hn : b ∉ S) (c : w.cell? ⟨b, o, none⟩ = some v) : w'.cell? ⟨b, o, none⟩ = some v := by
  rw [World.cell?_of_block (w := w) (h.block b (World.block_lt_of_cell? w _ c) hn)]; exact c
theorem Off.below {S : List Nat} {w w' : World} {B : Nat} (h : Off S w w') (hS : ∀ x ∈ S, B ≤ x) (hB : B ≤ w.heap.size) : Below B w w' :=
  ⟨h.os, h.tape, h.output, h.size, fun k hk => h.block k (by omega) fun hx => by have := hS k hx; omega⟩

theorem Has.drewN {w : World} (n : Nat) {t : Tr} {pl : Addr} (h : Has w pl t) : Has (w.drewN n) pl t := h.off rfl rfl fun b _ => Sm.drewN w b n
theorem HasC.drewN {w : World} (n : Nat) {R : Addr} (hR : R.spot = none) {c : List Fr} {pl : Addr} (h : HasC w R c pl) : HasC (w.drewN n) R c pl := h.off hR (Sm.drewN w _ n) fun b _ => Sm.drewN w b n
/-- All blocks on the way and below are others. -/
def Apart (R : Addr) (c : List Fr) (t : Tr) : Prop := (R.block :: (blC c ++ t.bl)).Nodup
theorem Apart.way {R : Addr} {c : List Fr} {t : Tr} (h : Apart R c t) : (R.block :: blC c).Nodup := by
  unfold Apart at h
  simp only [List.nodup_cons, List.mem_append, not_or, List.nodup_append] at h ⊢
  exact ⟨h.1.1, h.2.1⟩
theorem Apart.node {R : Addr} {c : List Fr} {g m : Nat} {v : Int} {l r : Tr} (h : Apart R c (.node g v m l r)) : R.block ≠ g ∧ g ∉ blC c ∧ g ∉ l.bl ∧ g ∉ r.bl ∧ (∀ b ∈ l.bl, b ∉ r.bl) := by
  unfold Apart at h
  simp only [List.nodup_cons, List.mem_append, not_or, List.nodup_append, Tr.bl, List.mem_cons] at h
  obtain ⟨⟨_, h1, _, _⟩, _, ⟨⟨h2, h3⟩, _, _, h5⟩, h4⟩ := h
  exact ⟨h1, fun hx => h4 g hx g (.inl rfl) rfl, h2, h3, fun b hb hr => h5 b hb b hr rfl⟩
theorem Apart.down {R : Addr} {c : List Fr} {g m m' : Nat} {v : Int} {l r : Tr} (h : Apart R c (.node g v m l r)) : Apart R (⟨g, v, m', true, l⟩ :: c) r ∧ Apart R (⟨g, v, m', false, r⟩ :: c) l := by
  unfold Apart at *
  have e : ∀ x : List Nat, (R.block :: (blC c ++ (g :: (l.bl ++ r.bl)))).Perm x → x.Nodup := fun x p => p.nodup_iff.1 h
  constructor
  · refine e _ (List.Perm.cons _ ?_)
    show (blC c ++ (g :: (l.bl ++ r.bl))).Perm (g :: (l.bl ++ blC c) ++ r.bl)
    refine List.perm_middle.trans (List.Perm.cons _ ?_)
    rw [← List.append_assoc]
    exact List.Perm.append_right _ List.perm_append_comm
  · refine e _ (List.Perm.cons _ ?_)
    show (blC c ++ (g :: (l.bl ++ r.bl))).Perm (g :: (r.bl ++ blC c) ++ l.bl)
    refine List.perm_middle.trans (List.Perm.cons _ ?_)
    refine (List.Perm.append_left _ List.perm_append_comm).trans ?_
    rw [← List.append_assoc]
    exact List.Perm.append_right _ List.perm_append_comm
/-- The number in a node goes up. -/
theorem Has.count {w : World} {R : Addr} (hR : R.spot = none) {c : List Fr} {pl : Addr} {g m : Nat} {v : Int} {l r : Tr} (hc : HasC w R c pl) (h : Has w pl (.node g v m l r)) (ha : Apart R c (.node g v m l r)) (m' : Nat) :
    HasC (w.setCell ⟨g, 1, none⟩ (.int .i64 (m' : Int))) R c pl ∧ Has (w.setCell ⟨g, 1, none⟩ (.int .i64 (m' : Int))) pl (.node g v m' l r) := by
  obtain ⟨n1, n2, n3, n4, _⟩ := ha.node
  have hp : g ≠ pl.block := by
    rcases hc.block with h | h
    · rw [h]; exact fun e => n1 e.symm
    · exact fun e => n2 (e ▸ h)
  obtain ⟨⟨a, b⟩, ⟨c0, c1, f1⟩, hl, hr⟩ := h
  refine ⟨hc.off hR (Sm.put w (fun e => n1 e.symm) _ _) fun b hb => Sm.put w (fun e => n2 (by rw [e]; exact hb)) _ _, ⟨?_, ?_⟩, ⟨?_, ?_, ?_⟩, ?_, ?_⟩
  · rw [World.cell?_setCell_far w _ _ _ hp]; exact a
  · rw [World.frozen?_setCell]; exact b
  · rw [World.cell?_setCell_other w _ _ _ (by simp)]; exact c0
  · exact World.cell?_setCell_same _ _ _ c1
  · rw [World.frozen?_setCell]; exact f1
  · exact hl.off (World.cell?_setCell_other w _ _ _ (by simp)) (World.frozen?_setCell w _ _ _) fun b hb => Sm.put w (fun e => n3 (by rw [e]; exact hb)) _ _
  · exact hr.off (World.cell?_setCell_other w _ _ _ (by simp)) (World.frozen?_setCell w _ _ _) fun b hb => Sm.put w (fun e => n4 (by rw [e]; exact hb)) _ _
/-- On to the greater values, or to the less ones. -/
theorem Has.greater {w : World} {R : Addr} {c : List Fr} {pl : Addr} {g m : Nat} {v : Int} {l r : Tr} (hc : HasC w R c pl) (h : Has w pl (.node g v m l r)) :
    HasC w R (⟨g, v, m, true, l⟩ :: c) ⟨g, 3, none⟩ ∧ Has w ⟨g, 3, none⟩ r := by
  obtain ⟨⟨a, b⟩, hh, hl, hr⟩ := h
  exact ⟨⟨rfl, hh, hl, pl, hc, a, b⟩, hr⟩
theorem Has.less {w : World} {R : Addr} {c : List Fr} {pl : Addr} {g m : Nat} {v : Int} {l r : Tr} (hc : HasC w R c pl) (h : Has w pl (.node g v m l r)) :
    HasC w R (⟨g, v, m, false, r⟩ :: c) ⟨g, 2, none⟩ ∧ Has w ⟨g, 2, none⟩ l := by
  obtain ⟨⟨a, b⟩, hh, hl, hr⟩ := h
  exact ⟨⟨rfl, hh, hr, pl, hc, a, b⟩, hl⟩
/-- A new node where there was none. -/
theorem Has.new {w : World} {R : Addr} (hR : R.spot = none) {c : List Fr} {pl : Addr} (hc : HasC w R c pl) (h : Has w pl .leaf) (ha : Apart R c .leaf) (hlt : R.block < w.heap.size) (hb : ∀ b ∈ blC c, b < w.heap.size) (x : Int) (T : TypeId) :
    ∀ w' : World, w' = ((w.alloc (.cells #[.int .i64 x, .int .i64 0, .pointer none, .pointer none] T)).setCell pl (.pointer (some ⟨w.heap.size, 0, none⟩))).setCell ⟨w.heap.size, 1, none⟩ (.int .i64 1) →
    HasC w' R c pl ∧ Has w' pl (.node w.heap.size x 1 .leaf .leaf) := by
  rintro w' rfl
  obtain ⟨h1, h2⟩ := h
  have hsp := hc.spot hR
  obtain ⟨pb, po, ps⟩ := pl
  obtain rfl : ps = none := hsp
  have hpb : pb < w.heap.size := World.block_lt_of_cell? w _ h1
  have hcA : HasC (w.alloc (.cells #[.int .i64 x, .int .i64 0, .pointer none, .pointer none] T)) R c ⟨pb, po, none⟩ := hc.off hR (Sm.new w hlt _) fun b hbb => Sm.new w (hb b hbb) _
  have hcB := hcA.put hR ha.way (.pointer (some ⟨w.heap.size, 0, none⟩))
  have hcC := hcB.off (w' := ((w.alloc (.cells #[.int .i64 x, .int .i64 0, .pointer none, .pointer none] T)).setCell ⟨pb, po, none⟩ (.pointer (some ⟨w.heap.size, 0, none⟩))).setCell ⟨w.heap.size, 1, none⟩ (.int .i64 1)) hR (Sm.put _ (by omega) _ _) fun b hbb => Sm.put _ (by have := hb b hbb; omega) _ _
  have new : ∀ (i : Nat) (u : Value), (#[.int .i64 x, .int .i64 0, .pointer none, .pointer none] : Array Value)[i]? = some u → ((w.alloc (.cells #[.int .i64 x, .int .i64 0, .pointer none, .pointer none] T)).setCell ⟨pb, po, none⟩ (.pointer (some ⟨w.heap.size, 0, none⟩))).cell? ⟨w.heap.size, i, none⟩ = some u := fun i u hu => by
    rw [World.cell?_setCell_far _ _ _ _ (show pb ≠ w.heap.size by omega)]
    exact (World.cell?_alloc_new w _ _ i).trans hu
  have frz : ∀ i, (((w.alloc (.cells #[.int .i64 x, .int .i64 0, .pointer none, .pointer none] T)).setCell ⟨pb, po, none⟩ (.pointer (some ⟨w.heap.size, 0, none⟩))).setCell ⟨w.heap.size, 1, none⟩ (.int .i64 1)).frozen? ⟨w.heap.size, i, none⟩ = false := fun i => by
    rw [World.frozen?_setCell, World.frozen?_setCell]; exact World.frozen?_alloc_at _ _ _ _ rfl
  refine ⟨hcC, ⟨?_, ?_⟩, ⟨?_, ?_, frz 1⟩, ⟨?_, frz 2⟩, ⟨?_, frz 3⟩⟩
  · rw [World.cell?_setCell_far _ _ _ _ (show w.heap.size ≠ pb by omega)]
    refine World.cell?_setCell_same _ _ _ (u := .pointer none) ?_
    rw [World.cell?_alloc_lt w _ ⟨pb, po, none⟩ hpb]; exact h1
  · rw [World.frozen?_setCell, World.frozen?_setCell, World.frozen?_alloc_old w _ ⟨pb, po, none⟩ (by show pb ≠ w.heap.size; omega)]; exact h2
  · rw [World.cell?_setCell_other _ _ _ _ (by simp)]; exact new 0 _ rfl
  · exact World.cell?_setCell_same _ _ _ (new 1 _ rfl)
  · rw [World.cell?_setCell_other _ _ _ _ (by simp)]; exact new 2 _ rfl
  · rw [World.cell?_setCell_other _ _ _ _ (by simp)]; exact new 3 _ rfl
theorem HasC.lt {w : World} {R : Addr} : ∀ {c : List Fr} {pl : Addr}, HasC w R c pl → ∀ b ∈ blC c, b < w.heap.size
  | [], _, _, b, hb => by simp [blC] at hb
  | f :: c, pl, ⟨h1, ⟨c0, _, _⟩, h3, pl', h4, _, _⟩, b, hb => by
    simp only [blC, List.mem_cons, List.mem_append] at hb
    rcases hb with rfl | hb | hb
    · exact World.block_lt_of_cell? w _ c0
    · exact h3.lt b hb
    · exact h4.lt b hb
/-- What stays to be done on the way: the values put in, the counts, the blocks. -/
structure Way (T : Tr) (x : Int) (c : List Fr) (t : Tr) (a b : Nat) : Prop where
  ins : ∀ g0, plug c (t.ins x g0) = T.ins x g0
  lt : a + t.lt x = T.lt x
  gt : b + t.gt x = T.gt x
  bl : ∀ y, y ∈ blC c ∨ y ∈ t.bl → y ∈ T.bl
theorem Way.start (T : Tr) (x : Int) : Way T x [] T 0 0 := by
  refine ⟨fun _ => rfl, by omega, by omega, fun y h => ?_⟩
  rcases h with h | h
  · simp [blC] at h
  · exact h
theorem Way.greater {T : Tr} {x v : Int} {c : List Fr} {g m a b : Nat} {l r : Tr} (h : Way T x c (.node g v m l r) a b) (h1 : v < x) : Way T x (⟨g, v, m + 1, true, l⟩ :: c) r (a + (m - r.sz)) b := by
  have hne : ¬ x = v := by omega
  refine ⟨fun g0 => ?_, ?_, ?_, fun y hy => h.bl y ?_⟩
  · rw [← h.ins g0, Tr.ins, if_neg hne, if_pos h1]; rfl
  · have := h.lt; rw [Tr.lt, if_neg hne, if_pos h1] at this; omega
  · have := h.gt; rw [Tr.gt, if_neg hne, if_pos h1] at this; omega
  · simp only [blC, Tr.bl, List.mem_cons, List.mem_append] at hy ⊢; grind
theorem Way.less {T : Tr} {x v : Int} {c : List Fr} {g m a b : Nat} {l r : Tr} (h : Way T x c (.node g v m l r) a b) (h1 : x < v) : Way T x (⟨g, v, m + 1, false, r⟩ :: c) l a (b + (m - l.sz)) := by
  have hne : ¬ x = v := by omega
  have hn2 : ¬ v < x := by omega
  refine ⟨fun g0 => ?_, ?_, ?_, fun y hy => h.bl y ?_⟩
  · rw [← h.ins g0, Tr.ins, if_neg hne, if_neg hn2]; rfl
  · have := h.lt; rw [Tr.lt, if_neg hne, if_neg hn2] at this; omega
  · have := h.gt; rw [Tr.gt, if_neg hne, if_neg hn2] at this; omega
  · simp only [blC, Tr.bl, List.mem_cons, List.mem_append] at hy ⊢; grind
theorem Way.found {T : Tr} {x : Int} {c : List Fr} {g m a b : Nat} {l r : Tr} (h : Way T x c (.node g x m l r) a b) (g0 : Nat) : plug c (.node g x (m + 1) l r) = T.ins x g0 ∧ a + l.sz = T.lt x ∧ b + r.sz = T.gt x := by
  refine ⟨?_, ?_, ?_⟩
  · rw [← h.ins g0, Tr.ins, if_pos rfl]
  · have := h.lt; rw [Tr.lt, if_pos rfl] at this; exact this
  · have := h.gt; rw [Tr.gt, if_pos rfl] at this; exact this
theorem Way.new {T : Tr} {x : Int} {c : List Fr} {a b : Nat} (h : Way T x c .leaf a b) (g0 : Nat) : plug c (.node g0 x 1 .leaf .leaf) = T.ins x g0 ∧ a = T.lt x ∧ b = T.gt x :=
  ⟨h.ins g0, by have := h.lt; rw [Tr.lt] at this; omega, by have := h.gt; rw [Tr.gt] at this; omega⟩
end Go.Proofs.Ytkiibklenpncpaa
