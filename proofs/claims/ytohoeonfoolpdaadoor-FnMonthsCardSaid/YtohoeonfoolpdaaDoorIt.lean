/- The program's iterator over the first dates of the months of a year: what it yields, for every loop body that leaves all cells but one block's as they are. -/
import Derived.Test.YtohoeonfoolpdaaDoorCv
import Derived.RangeFuncNested
import Derived.RangeFuncBound
import Derived.RangeFuncCalls
import Derived.RangeFuncLeaves
import Derived.Shelf.Abstract
import Derived.Shelf.RegionOpen
import Derived.OwnWalkIn
import Derived.TacticsInMore
import Derived.LoopNIn
import Derived.LoopIn
import Derived.IntWalk
namespace Go.Proofs.YtohoeonfoolpdaaDoor
open Go.RowKit Go.Shelf
set_option linter.unusedVariables false
attribute [local go_sem] Oper.semAt_some

/-- All cells but those of block Bd lie as they lay. -/
def Kc (Bd : Nat) (W W' : World) : Prop := W.heap.size ≤ W'.heap.size ∧ ∀ i (o : Obj), i ≠ Bd → W.heap[i]? = some o → o.isCells = true → W'.heap[i]? = some o
theorem Kc.refl (Bd : Nat) (W : World) : Kc Bd W W := ⟨Nat.le_refl _, fun _ _ _ h _ => h⟩
theorem Kc.trans {Bd : Nat} {A B C : World} (h : Kc Bd A B) (k : Kc Bd B C) : Kc Bd A C := ⟨Nat.le_trans h.1 k.1, fun i o hi ho hc => k.2 i o hi (h.2 i o hi ho hc) hc⟩
theorem Kc.put (Bd : Nat) (W : World) (l : Nat) (o o' : Obj) (hl : W.heap[l]? = some o) (hc : o.isCells = false) : Kc Bd W (W.putObj l o') :=
  ⟨by simp, fun i o1 hi ho1 hc1 => by
    by_cases e : i = l
    · subst e; rw [hl] at ho1; cases ho1; rw [hc] at hc1; cases hc1
    · rw [World.putObj_heap_other e]; exact ho1⟩
theorem Kc.grown {Bd : Nat} {W W' : World} {row : Option Nat} (hg : W.grownBy W' row) (hr : ∀ j, row = some j → j = Bd) : Kc Bd W W' :=
  ⟨hg.size, fun i o hi ho _ => (hg.block i (Array.getElem?_eq_some_iff.1 ho).1 (fun e => hi (hr i e.symm))).trans ho⟩
theorem Kc.alloc (Bd : Nat) (W : World) (o : Obj) : Kc Bd W (W.alloc o) := Kc.grown (World.grownBy_alloc W o none) (fun j e => by cases e)
theorem Kc.setCell (Bd : Nat) (W : World) (j : Nat) (v : Value) : Kc Bd W (W.setCell ⟨Bd, j, none⟩ v) :=
  ⟨by simp [World.setCell], fun i o hi ho _ => (Below.heap_setCell W ⟨Bd, j, none⟩ v i (by simpa using hi)).trans ho⟩
theorem Kc.cell {Bd : Nat} {W W' : World} (h : Kc Bd W W') {b j : Nat} {v : Value} (hb : b ≠ Bd) (hc : W.cell? ⟨b, j, none⟩ = some v) : W'.cell? ⟨b, j, none⟩ = some v := by
  obtain ⟨o, ho, hcells⟩ := cells_of_cell hc
  exact (World.cell?_of_block ((h.2 _ o hb ho hcells).trans ho.symm)).trans hc

/-- The month that comes behind so many others. -/
def mm (i : Nat) : Int := ((min i 11 : Nat) : Int) + 1
theorem mm_lt {i : Nat} (h : i < 12) : mm i = (i : Int) + 1 := by unfold mm; rw [Nat.min_eq_left (by omega)]
theorem mm_bd (i : Nat) : 1 ≤ mm i ∧ mm i ≤ 12 := by unfold mm; omega
/-- What the iterator yields. -/
def encs (y c : Int) (i : Nat) : Array Value := #[.agg #[.int .i64 y, .int .i64 (mm i), .int .i64 1], .int .i64 (ys y c + cum y (mm i) c)]

/-- What the iterator reads. -/
structure Reads (y c : Int) (By Bc : Nat) (W : World) : Prop where
  y : W.cell? ⟨By, 0, none⟩ = some (.int .i64 y)
  c : W.cell? ⟨Bc, 0, none⟩ = some (.int .i64 c)
  tab : Tabs W
theorem Reads.kc {y c : Int} {By Bc Bd : Nat} {W W' : World} (h : Reads y c By Bc W) (k : Kc Bd W W') (h1 : By ≠ Bd) (h2 : Bc ≠ Bd) (h0 : 0 ≠ Bd) : Reads y c By Bc W' :=
  ⟨k.cell h1 h.y, k.cell h2 h.c, fun i hi => k.cell h0 (h.tab i hi)⟩

set_option maxRecDepth 100000 in
set_option maxHeartbeats 2000000 in
theorem starts_in (y c : Int) (n : Nat) (hn : 2 ≤ n) (hc : cOne c = true) (hy : yOk y = true) (l By Bc Bd : Nat) (h1 : By ≠ Bd) (h2 : Bc ≠ Bd) (h0 : 0 ≠ Bd) (J Jx : List Nat → World → Prop) (W : World)
    (hBd : Bd < W.heap.size) (hJ : AbidesFrom W.heap.size J)
    (hY : ∀ pre x W, J pre W → pre.length < 12 → YieldAt Fence.wide (n - 1) Tryd.prog l (encs y c x) W fun e W' =>
      (e = .returned (.bool true) ∧ J (pre ++ [x]) W' ∧ Kc Bd W W') ∨ (e = .returned (.bool false) ∧ Jx (pre ++ [x]) W'))
    (hR : Reads y c By Bc W) (hJ0 : J [] W) :
    CallsIn Fence.wide n Tryd.prog 54 #[.func (.yield l) #[] #[], .pointer (some ⟨By, 0, none⟩), .pointer (some ⟨Bc, 0, none⟩)] W fun e W' => (∃ v, e = .returned v) ∧
      ((∃ xs, xs = List.range 12 ∧ J xs W') ∨ (∃ pre, (∃ k, k < 12 ∧ pre = List.range (k + 1)) ∧ Jx pre W')) := by
  obtain ⟨y1, y2⟩ := yOk_facts hy
  have y3 : y ≤ 2201 := by omega
  obtain ⟨b1, b2⟩ := ys_bd y c y1 y3
  have HC := Lib.hid hc
  have HY := Lib.hid hy
  have x1 := hR.y
  have x2 := hR.c
  have HR := Lib.hid hR
  clear hc hy hR
  refine callsIn_of_wp Tryd.func54 rfl trivial ?_ rfl
  simp only [Tryd.ntmps54, List.size_toArray, List.length_cons, List.length_nil, Nat.reduceAdd, Nat.reduceSub, Array.replicate_succ, Array.replicate_zero, List.push_toArray, List.append_toArray, List.nil_append, List.cons_append]
  gi_wp2_with (refine ⟨trivial, fun _ => (by omega), ?_⟩; gi_at_call 39; refine (callsIn_wide.2 (ys_impl y c _ HC.out y1 y3)).mono ?_; rintro e w' ⟨rfl, rfl⟩)
  gi_loopw [4, 10] (fun s i wr => ∃ k : Nat, k ≤ 12 ∧ i = .int .i64 k ∧ s = .int .i64 (ys y c + cum y ((k : Int) + 1) c) ∧ W.heap.size ≤ wr.heap.size ∧ Hid (Reads y c By Bc wr) ∧ J (List.range k) wr) (fun _ i _ => 12 - (intOf i).toNat)
  case atStart => exact ⟨0, by omega, rfl, by simp [cum_one], Nat.le_refl _, HR, hJ0⟩
  case round =>
    obtain ⟨k, hk, rfl, rfl, hsz, HRr, hJs⟩ := hrel
    clear x1 x2
    have x1 := HRr.out.y
    have x2 := HRr.out.c
    by_cases hlt : k < 12
    · have hm1 : 1 ≤ (k : Int) + 1 := by omega
      have hm2 : (k : Int) + 1 ≤ 12 := by omega
      obtain ⟨u1, u2⟩ := cum_bd y ((k : Int) + 1) c hm1 (by omega)
      obtain ⟨v1, v2⟩ := mlen_bd y ((k : Int) + 1) c hm1 hm2
      have CS := Lib.hid (cum_succ y ((k : Int) + 1) c)
      have hJ2 : J (List.range k) (wr.alloc (.cells #[.int .i64 y, .int .i64 ((k : Int) + 1), .int .i64 1] 38)) := hJ _ wr _ none hJs (World.grownBy_alloc wr _ none) (fun r e => by cases e)
      obtain ⟨fn, tmps, assign, body, hy, hRr⟩ := hY (List.range k) k _ hJ2 (by simpa using hlt)
      simp only [encs, mm_lt hlt] at hy
      have HY2 := Lib.hid hRr
      have HR2 := Lib.hid (HRr.out.kc (Kc.alloc Bd wr (.cells #[.int .i64 y, .int .i64 ((k : Int) + 1), .int .i64 1] 38)) h1 h2 h0)
      have q0 : (wr.alloc (.cells #[.int .i64 y, .int .i64 ((k : Int) + 1), .int .i64 1] 38)).cell? ⟨wr.heap.size, 0, none⟩ = some (.int .i64 y) := by go_simp
      have q1 : (wr.alloc (.cells #[.int .i64 y, .int .i64 ((k : Int) + 1), .int .i64 1] 38)).cell? ⟨wr.heap.size, 1, none⟩ = some (.int .i64 ((k : Int) + 1)) := by go_simp
      have hne : wr.heap.size ≠ Bd := by omega
      clear hRr
      gi_wp2
      refine ⟨fun _ => by omega, HY2.out.mono ?_⟩
      rintro e W3 (⟨rfl, hJ3, hk3⟩ | ⟨rfl, hJx3⟩)
      · have p0 := hk3.cell hne q0
        have p1 := hk3.cell hne q1
        have HR3 := Lib.hid (HR2.out.kc hk3 h1 h2 h0)
        have p2 := HR3.out.c
        have z3 := hk3.1
        simp at z3
        clear q0 q1
        gi_wp2_with (refine ⟨trivial, fun _ => (by omega), ?_⟩; gi_at_call 31; refine (callsIn_wide.2 (mon_impl y ((k : Int) + 1) c _ HR3.out.tab HC.out HY.out hm1 hm2)).mono ?_; rintro e w' ⟨rfl, rfl⟩)
        go_roundw
        case rel => exact ⟨k + 1, by omega, by go_num, by rw [show (((k + 1 : Nat) : Int) + 1) = (k : Int) + 1 + 1 by omega, CS.out]; go_num, by omega, HR3, by rw [List.range_succ]; exact hJ3⟩
        case measure => simp [intOf]; omega
      · gi_wp2
        refine bodyPost_ret (results_none rfl _ _ _) rfl ?_
        exact ⟨⟨_, rfl⟩, .inr ⟨List.range k ++ [k], ⟨k, hlt, by rw [List.range_succ]⟩, hJx3⟩⟩
    · obtain rfl : k = 12 := by omega
      gi_wp2
      go_end0
      exact ⟨⟨_, rfl⟩, .inl ⟨List.range 12, rfl, hJs⟩⟩
end Go.Proofs.YtohoeonfoolpdaaDoor
