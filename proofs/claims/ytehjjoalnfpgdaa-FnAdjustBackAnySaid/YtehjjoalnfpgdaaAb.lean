/- slices.Backward over the parts; the steps (stepsOf of the program): a range over a function. -/
import Derived.Test.YtehjjoalnfpgdaaAp
import Derived.RangeFuncNested
import Derived.RangeFuncBound
import Derived.RangeFuncCalls
import Derived.RangeFuncLeaves
import Derived.Shelf.Abstract
import Derived.Shelf.RegionOpen
import Derived.OwnWalkIn
import Derived.TacticsInMore
import Derived.LoopNIn
import Derived.LoopIn
import Derived.IntWalk
namespace Go.Proofs.Ytehjjoalnfpgdaa
open Go.RowKit Go.Shelf
set_option linter.unusedVariables false
attribute [local go_sem] Oper.semAt_some

/-- All cells but those of blocks Ba and Bc lie as they lay. -/
def K2 (Ba Bc : Nat) (W W' : World) : Prop := W.heap.size ≤ W'.heap.size ∧ ∀ i (o : Obj), i ≠ Ba → i ≠ Bc → W.heap[i]? = some o → o.isCells = true → W'.heap[i]? = some o
theorem K2.refl (Ba Bc : Nat) (W : World) : K2 Ba Bc W W := ⟨Nat.le_refl _, fun _ _ _ _ h _ => h⟩
theorem K2.trans {Ba Bc : Nat} {A B C : World} (h : K2 Ba Bc A B) (k : K2 Ba Bc B C) : K2 Ba Bc A C := ⟨Nat.le_trans h.1 k.1, fun i o hi hi2 ho hc => k.2 i o hi hi2 (h.2 i o hi hi2 ho hc) hc⟩
theorem K2.put (Ba Bc : Nat) (W : World) (l : Nat) (o o' : Obj) (hl : W.heap[l]? = some o) (hc : o.isCells = false) : K2 Ba Bc W (W.putObj l o') :=
  ⟨by simp, fun i o1 hi hi2 ho1 hc1 => by
    by_cases e : i = l
    · subst e; rw [hl] at ho1; cases ho1; rw [hc] at hc1; cases hc1
    · rw [World.putObj_heap_other e]; exact ho1⟩
theorem K2.keep {Ba Bc : Nat} {W W' : World} (k : Keep W W') : K2 Ba Bc W W' :=
  ⟨k.size, fun i o _ _ ho _ => (Below.block k i (Array.getElem?_eq_some_iff.1 ho).1).trans ho⟩
theorem K2.setA (Ba Bc : Nat) (W : World) (j : Nat) (v : Value) : K2 Ba Bc W (W.setCell ⟨Ba, j, none⟩ v) :=
  ⟨by simp [World.setCell], fun i o hi _ ho _ => (Below.heap_setCell W ⟨Ba, j, none⟩ v i (by simpa using hi)).trans ho⟩
theorem K2.setC (Ba Bc : Nat) (W : World) (j : Nat) (v : Value) : K2 Ba Bc W (W.setCell ⟨Bc, j, none⟩ v) :=
  ⟨by simp [World.setCell], fun i o _ hi ho _ => (Below.heap_setCell W ⟨Bc, j, none⟩ v i (by simpa using hi)).trans ho⟩
theorem K2.cell {Ba Bc : Nat} {W W' : World} (h : K2 Ba Bc W W') {b j : Nat} {v : Value} (hb : b ≠ Ba) (hb2 : b ≠ Bc) (hc : W.cell? ⟨b, j, none⟩ = some v) : W'.cell? ⟨b, j, none⟩ = some v := by
  obtain ⟨o, ho, hcells⟩ := cells_of_cell hc
  exact (World.cell?_of_block ((h.2 _ o hb hb2 ho hcells).trans ho.symm)).trans hc
theorem others_keep {W W' : World} (k : Keep W W') : KeepsOthers W W' := KeepsOthers.of_grownBy (⟨Below.os k, Below.tape k, Below.output k, Below.size k, fun i hi _ => Below.block k i hi⟩ : W.grownBy W' none) (by intro j o e; cases e)

/-- What slices.Backward yields: the index, the part. -/
def encB (m : Nat) (V : Nat → Value) (x : Nat) : Array Value := #[.int .i64 ((m - 1 - x : Nat) : Int), V (m - 1 - x)]
set_option maxRecDepth 100000 in
set_option maxHeartbeats 2000000 in
theorem back_in (n : Nat) (hn : 1 ≤ n) (l Bs Ba Bc g c m : Nat) (V : Nat → Value) (hm : m ≤ 8) (h1 : Bs ≠ Ba) (h2 : Bs ≠ Bc) (h3 : g ≠ Ba) (h4 : g ≠ Bc) (J Jx : List Nat → World → Prop) (W : World)
    (hY : ∀ pre x W, J pre W → pre.length < m → YieldAt Fence.wide (n - 1) Try.prog l (encB m V x) W fun e W' =>
      (e = .returned (.bool true) ∧ J (pre ++ [x]) W' ∧ K2 Ba Bc W W') ∨ (e = .returned (.bool false) ∧ Jx (pre ++ [x]) W'))
    (hBs : W.cell? ⟨Bs, 0, none⟩ = some (.slice (some ⟨g, 0, none⟩) m c)) (hc : ∀ j, j < m → W.cell? ⟨g, j, none⟩ = some (V j)) (hJ0 : J [] W) :
    CallsIn Fence.wide n Try.prog 65 #[.func (.yield l) #[] #[], .pointer (some ⟨Bs, 0, none⟩)] W fun e W' => (∃ v, e = .returned v) ∧
      ((∃ xs, xs = List.range m ∧ J xs W') ∨ (∃ pre, (∃ k, k < m ∧ pre = List.range (k + 1)) ∧ Jx pre W')) := by
  have HC := Lib.hid hc
  clear hc
  refine callsIn_of_wp Try.func65 rfl trivial ?_ rfl
  simp only [Try.ntmps65, List.size_toArray, List.length_cons, List.length_nil, Nat.reduceAdd, Nat.reduceSub, Array.replicate_succ, Array.replicate_zero, List.push_toArray, List.append_toArray, List.nil_append, List.cons_append]
  gi_wp2
  gi_loopw [3] (fun i wr => ∃ k : Nat, k ≤ m ∧ i = .int .i64 ((m : Int) - 1 - (k : Int)) ∧ K2 Ba Bc W wr ∧ J (List.range k) wr) (fun i _ => (intOf i + 1).toNat)
  case atStart => exact ⟨0, by omega, by simp, K2.refl _ _ _, hJ0⟩
  case round =>
    obtain ⟨k, hk, rfl, hK, hJs⟩ := hrel
    have hb := hK.cell h1 h2 hBs
    by_cases hlt : k < m
    · obtain ⟨j, hj⟩ : ∃ j : Nat, m - 1 - k = j := ⟨_, rfl⟩
      have e1 : (m : Int) - 1 - (k : Int) = (j : Int) := by omega
      have hjm : j < m := by omega
      have cj := hK.cell h3 h4 (HC.out j hjm)
      obtain ⟨fn, tmps, assign, body, hy, hRr⟩ := hY (List.range k) k _ hJs (by simpa using hlt)
      simp only [encB, hj] at hy
      rw [e1]
      have HY2 := Lib.hid hRr
      clear hRr
      have j0 : (0 : Int) ≤ (j : Int) := by omega
      have jz : (j : Int) < (m : Int) := by omega
      gi_wp2
      refine HY2.out.mono ?_
      rintro e W3 (⟨rfl, hJ3, hk3⟩ | ⟨rfl, hJx3⟩)
      · gi_wp2
        go_roundw
        case rel => exact ⟨k + 1, by omega, by first | (congr 1; done) | (congr 1; omega), hK.trans hk3, by rw [List.range_succ]; exact hJ3⟩
        case measure => simp [intOf] <;> omega
      · gi_wp2
        refine bodyPost_ret (results_none rfl _ _ _) rfl ?_
        exact ⟨⟨_, rfl⟩, .inr ⟨List.range k ++ [k], ⟨k, hlt, by rw [List.range_succ]⟩, hJx3⟩⟩
    · obtain rfl : k = m := by omega
      have e1 : (k : Int) - 1 - (k : Int) = -1 := by omega
      rw [e1]
      gi_wp2
      go_end0
      exact ⟨⟨_, rfl⟩, .inl ⟨List.range k, rfl, hJs⟩⟩
theorem back_fn (a : Option Addr) (len cap : Nat) (w : World) :
    Calls Try.prog 52 #[.slice a len cap] w fun e w' => e = .returned (.func (.func 65) #[] #[.pointer (some ⟨w.heap.size, 0, none⟩)]) ∧ w' = w.alloc (.cells #[.slice a len cap] 40) := by
  go_enter Try.func52, Try.ntmps52
  go_wp2
  go_ret
  exact ⟨rfl, rfl⟩
theorem back_stops (n : Nat) (hn : 1 ≤ n) (Bs Ba Bc g c m : Nat) (V : Nat → Value) (hm : m ≤ 8) (h1 : Bs ≠ Ba) (h2 : Bs ≠ Bc) (h3 : g ≠ Ba) (h4 : g ≠ Bc) (w : World) (hBs : Bs < w.heap.size) (hg : g < w.heap.size)
    (hb : w.cell? ⟨Bs, 0, none⟩ = some (.slice (some ⟨g, 0, none⟩) m c)) (hc : ∀ j, j < m → w.cell? ⟨g, j, none⟩ = some (V j)) :
    SeqStopsK Fence.wide n Try.prog 65 #[.pointer (some ⟨Bs, 0, none⟩)] (encB m V) (K2 Ba Bc) (fun xs => xs = List.range m) (fun pre => ∃ k, k < m ∧ pre = List.range (k + 1)) m w := fun l J Jx W hW _ _ hY h0' =>
  back_in n hn l Bs Ba Bc g c m V hm h1 h2 h3 h4 J Jx W hY ((hW.cell (p := ⟨Bs, 0, none⟩) hBs).trans hb) (fun j hj => (hW.cell (p := ⟨g, j, none⟩) hg).trans (hc j hj)) h0'
end Go.Proofs.Ytehjjoalnfpgdaa
