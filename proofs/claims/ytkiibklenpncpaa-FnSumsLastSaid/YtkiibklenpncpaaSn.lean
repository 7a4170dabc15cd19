/- Sums: a ring of sums in memory; the program and the model answer 'suL'. -/
import Derived.Test.YtkiibklenpncpaaSm
import Derived.Test.YtkiibklenpncpaaUw
import Derived.Test.YtkiibklenpncpaaSq
import Derived.Test.YtkiibklenpncpaaApp
import Derived.Test.YtkiibklenpncpaaStill
import Derived.Deep.RegionLaw
import Derived.LoopTactic
import Derived.IntWalk
import Derived.Deep.QuietTactic
import Derived.BigQuiet
namespace Go.Proofs.Ytkiibklenpncpaa
open Go.RowKit
set_option linter.unusedVariables false

/-- One day more. -/
def sadd (s : R2) (x : Int) : R2 := if x = -9999 then s else (s.1 + x, s.2 + 1)
theorem su_sadd {zs : List Int} {k : Nat} (h : k < zs.length) : su zs (k + 1) = sadd (su zs k) (zs.getD k 0) := by
  by_cases hx : zs.getD k 0 = -9999
  · rw [sadd, if_pos hx]; exact (su_step h).1 hx
  · rw [sadd, if_neg hx]; exact (su_step h).2 hx
def sg2 (s : R2) : Value := .agg #[.int .i64 s.1, .int .i64 s.2]
theorem retSg {a b c d : Int} (h : a = c) (k : b = d) : Ending.returned (.agg #[.int .i64 a, .int .i64 b]) = .returned (.agg #[.int .i64 c, .int .i64 d]) := by rw [h, k]
set_option maxHeartbeats 1000000 in
theorem with_any (t m x : Int) (w : World) (t0 : -2000000 ≤ t) (t1 : t ≤ 2000000) (m0 : -2000000 ≤ m) (m1 : m ≤ 2000000) (x0 : -20000 ≤ x) (x1 : x ≤ 20000) :
    Calls Try.prog 71 #[.agg #[.int .i64 t, .int .i64 m], .int .i64 x] w fun e w' => e = .returned (.agg #[.int .i64 (sadd (t, m) x).1, .int .i64 (sadd (t, m) x).2]) ∧ Keep w w' := by
  by_cases hx : x = -9999
  · have e : sadd (t, m) x = (t, m) := by rw [sadd, if_pos hx]
    rw [e]
    subst hx
    go_enter Try.func71, Try.ntmps71
    go_wp2
    refine bodyPost_ret (v := .agg #[.int .i64 t, .int .i64 m]) (by simp [results, Try.results71, go_sem, *]) rfl ⟨rfl, ?_⟩
    first | exact ((Keep.refl w).alloc _).alloc _ | exact ((((Keep.refl w).alloc _).alloc _).setCell (by simp) _).setCell (by simp) _
  · have e : sadd (t, m) x = (t + x, m + 1) := by rw [sadd, if_neg hx]
    rw [e]
    have x9 : (x == -9999) = false := beq_eq_false_iff_ne.2 hx
    clear e hx
    go_enter Try.func71, Try.ntmps71
    go_wp2
    refine bodyPost_ret (v := .agg #[.int .i64 (t + x), .int .i64 (m + 1)]) (by simp [results, Try.results71, go_sem, *]) rfl ⟨rfl, ?_⟩
    first | exact ((Keep.refl w).alloc _).alloc _ | exact ((((Keep.refl w).alloc _).alloc _).setCell (by simp) _).setCell (by simp) _
set_option maxHeartbeats 1000000 in
theorem ladd_any (t m x : Int) (w : World) (t0 : -2000000 ≤ t) (t1 : t ≤ 2000000) (m0 : -2000000 ≤ m) (m1 : m ≤ 2000000) (x0 : -20000 ≤ x) (x1 : x ≤ 20000) :
    Calls Try.prog 74 #[.agg #[.int .i64 t, .int .i64 m], .int .i64 x] w fun e w' => e = .returned (.agg #[.int .i64 (sadd (t, m) x).1, .int .i64 (sadd (t, m) x).2]) ∧ Keep w w' := by
  by_cases hx : x = -9999
  · have e : sadd (t, m) x = (t, m) := by rw [sadd, if_pos hx]
    rw [e]
    subst hx
    go_enter Try.func74, Try.ntmps74
    go_wp2
    refine bodyPost_ret (v := .agg #[.int .i64 t, .int .i64 m]) (by simp [results, Try.results74, go_sem, *]) rfl ⟨rfl, ?_⟩
    first | exact ((Keep.refl w).alloc _).alloc _ | exact ((((Keep.refl w).alloc _).alloc _).setCell (by simp) _).setCell (by simp) _
  · have e : sadd (t, m) x = (t + x, m + 1) := by rw [sadd, if_neg hx]
    rw [e]
    have x9 : (x == -9999) = false := beq_eq_false_iff_ne.2 hx
    clear e hx
    go_enter Try.func74, Try.ntmps74
    go_wp2
    refine bodyPost_ret (v := .agg #[.int .i64 (t + x), .int .i64 (m + 1)]) (by simp [results, Try.results74, go_sem, *]) rfl ⟨rfl, ?_⟩
    first | exact ((Keep.refl w).alloc _).alloc _ | exact ((((Keep.refl w).alloc _).alloc _).setCell (by simp) _).setCell (by simp) _
/-- A ring of sums: block RB has the slice of block MB and how many were pushed; MB holds ss. -/
structure Ring (w : World) (RB MB n p : Nat) (ss : List R2) : Prop where
  c0 : w.cell? ⟨RB, 0, none⟩ = some (.slice (some ⟨MB, 0, none⟩) n n)
  c1 : w.cell? ⟨RB, 1, none⟩ = some (.int .i64 (p : Int))
  f1 : w.frozen? ⟨RB, 1, none⟩ = false
  ne : RB ≠ MB
  wr : WrU w MB ss
  ln : ss.length = n
theorem Ring.keep {w w' : World} {RB MB n p : Nat} {ss : List R2} (h : Ring w RB MB n p ss) (k : Keep w w') : Ring w' RB MB n p ss :=
  ⟨k.cell h.c0, k.cell h.c1, k.still h.c1 h.f1, h.ne, h.wr.keep k, h.ln⟩
/-- What a push turns: the two blocks of the ring, and new ones. -/
structure Two (RB MB : Nat) (w w' : World) : Prop where
  os : w'.os = w.os
  tape : w'.tape = w.tape
  output : w'.output = w.output
  size : w.heap.size ≤ w'.heap.size
  block : ∀ k, k < w.heap.size → k ≠ RB → k ≠ MB → w'.heap[k]? = w.heap[k]?
theorem Two.refl (RB MB : Nat) (w : World) : Two RB MB w w := ⟨rfl, rfl, rfl, Nat.le_refl _, fun _ _ _ _ => rfl⟩
theorem Two.trans {RB MB : Nat} {a b c : World} (h : Two RB MB a b) (k : Two RB MB b c) : Two RB MB a c :=
  ⟨k.os.trans h.os, k.tape.trans h.tape, k.output.trans h.output, Nat.le_trans h.size k.size, fun i hi h1 h2 => (k.block i (Nat.lt_of_lt_of_le hi h.size) h1 h2).trans (h.block i hi h1 h2)⟩
theorem Keep.two {RB MB : Nat} {w w' : World} (h : Keep w w') : Two RB MB w w' := ⟨Below.os h, Below.tape h, Below.output h, Below.size h, fun i hi _ _ => Below.block h i hi⟩
theorem Two.setL {RB MB o : Nat} {a w : World} (h : Two RB MB a w) (u : Value) : Two RB MB a (w.setCell ⟨RB, o, none⟩ u) :=
  ⟨h.os, h.tape, h.output, by have := h.size; simpa [World.setCell] using this, fun k hk h1 h2 => (Below.heap_setCell _ _ _ _ (by intro e; exact h1 (by rw [e]))).trans (h.block k hk h1 h2)⟩
theorem Two.setR {RB MB o : Nat} {a w : World} (h : Two RB MB a w) (u : Value) : Two RB MB a (w.setCell ⟨MB, o, none⟩ u) :=
  ⟨h.os, h.tape, h.output, by have := h.size; simpa [World.setCell] using this, fun k hk h1 h2 => (Below.heap_setCell _ _ _ _ (by intro e; exact h2 (by rw [e]))).trans (h.block k hk h1 h2)⟩
theorem Two.cell {RB MB : Nat} {w w' : World} (h : Two RB MB w w') {b o : Nat} {v : Value} (hc : w.cell? ⟨b, o, none⟩ = some v) (h1 : b ≠ RB) (h2 : b ≠ MB) : w'.cell? ⟨b, o, none⟩ = some v :=
  (World.cell?_of_block (w := w) (h.block b (World.block_lt_of_cell? w _ hc) h1 h2)).trans hc
theorem Two.still {RB MB : Nat} {w w' : World} (h : Two RB MB w w') {b o : Nat} {v : Value} {x : Bool} (hc : w.cell? ⟨b, o, none⟩ = some v) (hf : w.frozen? ⟨b, o, none⟩ = x) (h1 : b ≠ RB) (h2 : b ≠ MB) : w'.frozen? ⟨b, o, none⟩ = x :=
  (World.frozen?_of_block (w := w) (h.block b (World.block_lt_of_cell? w _ hc) h1 h2)).trans hf
theorem Two.keep {RB MB : Nat} {a w w' : World} (h : Two RB MB w w') (k : Keep a w) (h1 : a.heap.size ≤ RB) (h2 : a.heap.size ≤ MB) : Keep a w' :=
  ⟨h.os.trans (Below.os k), h.tape.trans (Below.tape k), h.output.trans (Below.output k), Nat.le_trans (Below.size k) h.size, fun i hi => (h.block i (Nat.lt_of_lt_of_le hi (Below.size k)) (by omega) (by omega)).trans (Below.block k i hi)⟩
theorem Ring.other {w : World} {RB MB n p B o : Nat} {ss : List R2} {u : Value} (h : Ring w RB MB n p ss) (h1 : B ≠ RB) (h2 : B ≠ MB) : Ring (w.setCell ⟨B, o, none⟩ u) RB MB n p ss := by
  obtain ⟨c0, c1, f1, hne, hw, hl⟩ := h
  refine ⟨?_, ?_, ?_, hne, fun j hj => ?_, hl⟩
  · rw [World.cell?_setCell_other _ _ _ _ (by intro e; simp only [Addr.mk.injEq] at e; omega)]; exact c0
  · rw [World.cell?_setCell_other _ _ _ _ (by intro e; simp only [Addr.mk.injEq] at e; omega)]; exact c1
  · rw [World.frozen?_setCell]; exact f1
  · obtain ⟨⟨a, b⟩, ⟨c, d⟩⟩ := hw j hj
    refine ⟨⟨?_, ?_⟩, ⟨?_, ?_⟩⟩
    · rw [World.cell?_setCell_other _ _ _ _ (by intro e; simp only [Addr.mk.injEq] at e; omega)]; exact a
    · rw [World.cell?_setCell_other _ _ _ _ (by intro e; simp only [Addr.mk.injEq] at e; omega)]; exact b
    · rw [World.frozen?_setCell]; exact c
    · rw [World.frozen?_setCell]; exact d
set_option maxHeartbeats 1000000 in
theorem newRing (n : Nat) (w : World) (hn : n ≤ 1048576) :
    Calls Try.prog 69 #[.int .i64 (n : Int)] w fun e w' => e = .returned (.pointer (some ⟨w.heap.size + 1, 0, none⟩)) ∧ Ring w' (w.heap.size + 1) w.heap.size n 0 (List.replicate n u0) ∧ Keep w w' ∧ w.heap.size + 1 < w'.heap.size := by
  have hmk := fun W => run_make_ranges n hn W
  go_enter Try.func69, Try.ntmps69
  go_wp2
  go_ret
  refine ⟨rfl, ⟨by go_simp, by go_simp, by go_simp, by omega, ?_, by simp⟩, ((Keep.refl w).alloc _).alloc _, by simp⟩
  intro j hj
  have hj' : j < n := by simpa using hj
  have e : (List.replicate n u0).getD j u0 = u0 := by simp [List.getD_eq_getElem?_getD, hj']
  rw [e]
  have hk : Keep (w.alloc (.cells (madeCells #[Value.int .i64 0, .int .i64 0] (n * 2)) 53)) ((w.alloc (.cells (madeCells #[Value.int .i64 0, .int .i64 0] (n * 2)) 53)).alloc (.cells #[.slice (some ⟨w.heap.size, 0, none⟩) n n, .int .i64 0] 148)) := (Keep.refl _).alloc _
  exact ⟨⟨hk.new _ (made2_at _ _ (by omega)), hk.new _ (made2_at _ _ (by omega))⟩, ⟨hk.fresh _, hk.fresh _⟩⟩
theorem wrU_other {w : World} {B g o : Nat} {ys : List R2} {u : Value} (hne : B ≠ g) (h : WrU w g ys) : WrU (w.setCell ⟨B, o, none⟩ u) g ys := fun j hj => by
  obtain ⟨⟨a, b⟩, ⟨c, d⟩⟩ := h j hj
  refine ⟨⟨?_, ?_⟩, ⟨?_, ?_⟩⟩
  · rw [World.cell?_setCell_other _ _ _ _ (by intro e; simp only [Addr.mk.injEq] at e; omega)]; exact a
  · rw [World.cell?_setCell_other _ _ _ _ (by intro e; simp only [Addr.mk.injEq] at e; omega)]; exact b
  · rw [World.frozen?_setCell]; exact c
  · rw [World.frozen?_setCell]; exact d
set_option maxRecDepth 100000 in
set_option maxHeartbeats 2000000 in
theorem push_any (RB MB n p q : Nat) (ss : List R2) (s : R2) (w : World) (h : Ring w RB MB n p ss) (hn : 0 < n) (hn2 : n ≤ 1000) (hp : p ≤ 100000) (hq : p % n = q) :
    Calls Try.prog 70 #[.pointer (some ⟨RB, 0, none⟩), .agg #[.int .i64 (uL s), .int .i64 (uH s)]] w fun e w' => e = .returned (.tuple #[]) ∧ Ring w' RB MB n (p + 1) (ss.set q s) ∧ Two RB MB w w' := by
  have hR := Lib.hid h
  obtain ⟨c0, c1, f1, hne, hw, hl⟩ := h
  have hqn : q < n := by rw [← hq]; exact Nat.mod_lt _ hn
  have ht : Int.tmod (p : Int) (n : Int) = (q : Int) := by rw [← hq]; exact (Int.ofNat_tmod p n).symm
  have ht2 : (p : Int) % (n : Int) = (q : Int) := by omega
  have qw : IntKind.i64.wrap (q : Int) = (q : Int) := IntWalk.i64_in _ ⟨by omega, by omega⟩
  have n0 : ((n : Int) == 0) = false := beq_eq_false_iff_ne.2 (by omega)
  have n1 : ¬ ((n : Int) = 0) := by omega
  have n2 : (n : Int) ≠ -1 := by omega
  have n3 : ¬ (n = 0) := by omega
  have pw : IntKind.i64.wrap ((p : Int) + 1) = (p : Int) + 1 := IntWalk.i64_in _ ⟨by omega, by omega⟩
  have q0 : (0 : Int) ≤ (q : Int) := by omega
  have q1 : (q : Int) < (n : Int) := by omega
  obtain ⟨⟨x0, x1⟩, ⟨y0, y1⟩⟩ := hw q (by omega)
  have HW := Lib.hid (hw.set (k := q) (by omega) s)
  have hMB : MB < w.heap.size := World.block_lt_of_cell? w _ x0
  have hRB : RB < w.heap.size := World.block_lt_of_cell? w _ c0
  have hne' : MB ≠ RB := fun e => hne e.symm
  have HL := Lib.hid hl
  have kA : Keep w (w.alloc (.cells #[.int .i64 (uL s), .int .i64 (uH s)] 53)) := (Keep.refl w).alloc _
  have C0 := kA.cell c0
  have C1 := kA.cell c1
  have F1 := kA.still c1 f1
  have X0 := kA.cell x0
  have X1 := kA.cell x1
  have Y0 := kA.still x0 y0
  have Y1 := kA.still x1 y1
  have B0 : (w.alloc (.cells #[.int .i64 (uL s), .int .i64 (uH s)] 53)).cell? ⟨w.heap.size, 0, none⟩ = some (.int .i64 (uL s)) := World.cell?_alloc_new w _ _ 0
  have B1 : (w.alloc (.cells #[.int .i64 (uL s), .int .i64 (uH s)] 53)).cell? ⟨w.heap.size, 1, none⟩ = some (.int .i64 (uH s)) := World.cell?_alloc_new w _ _ 1
  clear hw hl hq
  go_enter Try.func70, Try.ntmps70
  go_wp2_with fail
  refine wp_region_still_tail 16 (by kernel_rfl) (by kernel_rfl) ?_
  simp only [List.take_succ_cons, List.take_zero, List.drop_succ_cons, List.drop_zero]
  change wpStill _ _ (w.alloc _).drew _ _ _
  refine wpStill_hide (fun T hT => ?_)
  repeat still_step
  refine wpStill_nil ?_
  refine hT.out _ ?_
  clear hT
  change wpList _ _ _ _ _ (w.alloc _).drew
  go_wp2_with fail
  go_end0
  refine ⟨rfl, ⟨by go_simp, by go_simp, by go_simp, hne, (wrU_other hne HW.out).keep (((Keep.refl _).alloc _).drew), by rw [List.length_set]; exact HL.out⟩, ?_⟩
  exact (((((Two.refl RB MB w).setR _).setR _).setL _).trans (Keep.two ((Keep.refl _).alloc _).drew))
/-- What the ring keeps, the oldest first. -/
def keptL (ss : List R2) (n p : Nat) : List R2 := (List.range (p - (p - n))).map fun j => ss.getD ((p - n + j) % n) u0
theorem keptL_len (ss : List R2) (n p : Nat) : (keptL ss n p).length = p - (p - n) := by simp [keptL]
theorem keptL_snoc {ss : List R2} {n p k : Nat} (h : k < p - (p - n)) : (keptL ss n p).take (k + 1) = (keptL ss n p).take k ++ [ss.getD ((p - n + k) % n) u0] := by
  rw [List.take_succ_eq_append_getElem (by rw [keptL_len]; exact h)]; simp [keptL]
def NwU (L : List R2) (w : World) (e : Ending) (w' : World) : Prop := ∃ (a : Option Addr) (c : Nat), e = .returned (.slice a L.length c) ∧ L.length ≤ c ∧ FrU w w' a L ∧ Keep w w'
theorem ownU_nil (w : World) (base : Nat) : OwnU w base (.slice none 0 0) [] := World.ownsRow_nil _ _ _ _
theorem nwU_own {L : List R2} {w w' : World} {base n c : Nat} {x : Option Addr} (h : OwnU w' base (.slice x n c) L) (hb : w.heap.size ≤ base) (k : Keep w w') : NwU L w (.returned (.slice x n c)) w' := by
  by_cases h0 : 0 < L.length
  · obtain ⟨g, c', hv, hc, hg, hl, hW⟩ := h.form h0
    injection hv with e1 e2 e3
    subst e1; subst e2; subst e3
    exact ⟨_, c, rfl, hc, .inr ⟨g, rfl, by omega, hl, hW⟩, k⟩
  · obtain ⟨a', c', hv, hc, _⟩ := h.slice
    injection hv with e1 e2 e3
    subst e1; subst e2; subst e3
    exact ⟨_, _, rfl, hc, .inl (List.eq_nil_of_length_eq_zero (by omega)), k⟩
set_option maxRecDepth 100000 in
set_option maxHeartbeats 4000000 in
theorem kept_any (RB MB n p : Nat) (ss : List R2) (w : World) (h : Ring w RB MB n p ss) (hn : 0 < n) (hn2 : n ≤ 1000) (hp : p ≤ 100000) :
    Calls Try.prog 72 #[.pointer (some ⟨RB, 0, none⟩)] w (NwU (keptL ss n p) w) := by
  obtain ⟨i0, hi0, hz0, hz1, hz2⟩ := info_parts infoRng
  obtain ⟨f, hf⟩ : ∃ f, p - n = f := ⟨_, rfl⟩
  have hfi : max ((p : Int) - (n : Int)) 0 = (f : Int) := by omega
  have HLn : Hid ((keptL ss n p).length = p - f) := Lib.hid (by rw [keptL_len, hf])
  have HS := Lib.hid (fun (k : Nat) (hk : k < p - f) => keptL_snoc (ss := ss) (n := n) (p := p) (k := k) (by rw [hf]; exact hk))
  rw [hf] at HS
  have hfp : f ≤ p := by omega
  clear hf
  have pnw : IntKind.i64.wrap ((p : Int) - (n : Int)) = (p : Int) - (n : Int) := IntWalk.i64_in _ ⟨by omega, by omega⟩
  obtain ⟨c0, c1, f1, hne, hw, hl⟩ := id h
  have HR := Lib.hid h
  have HWr := Lib.hid hw
  have HL := Lib.hid hl
  clear h hw hl
  go_enter Try.func72, Try.ntmps72
  go_wp2_with fail
  go_quiet (fail)
  go_wp2_with fail
  go_loopw [3, 4] (fun u i wr => ∃ (k : Nat) (x : Option Addr) (cx : Nat), k ≤ p - f ∧ i = .int .i64 ((f + k : Nat) : Int) ∧ u = .slice x k cx ∧ Hid (OwnU wr w.heap.size (.slice x k cx) ((keptL ss n p).take k)) ∧ Keep w wr) (fun _ i _ => p - (intOf i).toNat)
  case atStart => exact ⟨0, none, 0, by omega, by first | rfl | (congr 1; omega), rfl, Lib.hid (ownU_nil _ _), (Keep.refl w).drewN _⟩
  case round =>
    obtain ⟨k, x, cx, hk, rfl, rfl, HO, hK⟩ := hrel
    have hsz := hK.size
    obtain ⟨i, hi⟩ : ∃ i, f + k = i := ⟨_, rfl⟩
    rw [hi]
    have c0' := hK.cell c0
    have c1' := hK.cell c1
    have i0' : (0 : Int) ≤ (i : Int) := by omega
    by_cases hlt : i < p
    · have HSk := Lib.hid (HS.out k (by omega))
      rw [hi] at HSk
      obtain ⟨q, hq⟩ : ∃ q, i % n = q := ⟨_, rfl⟩
      rw [hq] at HSk
      have hqn : q < n := by rw [← hq]; exact Nat.mod_lt _ hn
      have ht : Int.tmod (i : Int) (n : Int) = (q : Int) := by rw [← hq]; exact (Int.ofNat_tmod i n).symm
      have ht2 : (i : Int) % (n : Int) = (q : Int) := by omega
      have qw : IntKind.i64.wrap (q : Int) = (q : Int) := IntWalk.i64_in _ ⟨by omega, by omega⟩
      have n0 : ((n : Int) == 0) = false := beq_eq_false_iff_ne.2 (by omega)
      have n1 : ¬ ((n : Int) = 0) := by omega
      have n2 : (n : Int) ≠ -1 := by omega
      have n3 : ¬ (n = 0) := by omega
      have q0 : (0 : Int) ≤ (q : Int) := by omega
      have q1 : (q : Int) < (n : Int) := by omega
      have dlt : decide (i < p) = true := decide_eq_true hlt
      obtain ⟨⟨x0, x1⟩, _⟩ := (HWr.out.keep hK) q (by rw [HL.out]; exact hqn)
      generalize ss.getD q u0 = s at *
      obtain ⟨L, hL⟩ : ∃ L, (keptL ss n p).take k = L := ⟨_, rfl⟩
      have HLk : Hid (L.length = k) := Lib.hid (by rw [← hL, List.length_take, HLn.out]; omega)
      rw [hL] at HO HSk
      clear hL hq
      have hownD : (wr.alloc (.cells #[.int .i64 (uL s), .int .i64 (uH s)] 53)).drew.ownsRow w.heap.size 53 2 (.slice x k cx) k (flatU L) := by
        have h9 := (HO.out).keep (((Keep.refl wr).alloc (.cells #[.int .i64 (uL s), .int .i64 (uH s)] 53)).drew)
        unfold OwnU at h9
        rw [HLk.out] at h9
        exact h9
      have hNews : ∀ j u, (uc s)[j]? = some u → (wr.alloc (.cells #[.int .i64 (uL s), .int .i64 (uH s)] 53)).drew.cell? ((⟨wr.heap.size, 0, none⟩ : Addr).add j) = some u :=
        newsU_one (r := s) (⟨World.cell?_alloc_new wr _ _ 0, World.cell?_alloc_new wr _ _ 1⟩ : At2 (wr.alloc (.cells #[.int .i64 (uL s), .int .i64 (uH s)] 53)).drew wr.heap.size 0 s)
      have HEnd : Hid (∀ (w9 : World) (v' : Value), w9.ownsRow w.heap.size 53 2 v' (k + 1) (flatU L ++ uc s) → ∃ x' c', v' = .slice x' (k + 1) c' ∧ Hid (OwnU w9 w.heap.size (.slice x' (k + 1) c') ((keptL ss n p).take (k + 1)))) := Lib.hid (fun w9 v' ho => by
        have h9 : OwnU w9 w.heap.size v' (L ++ [s]) := by
          unfold OwnU
          rw [flatU_app, flatU_one, List.length_append, HLk.out]
          exact ho
        obtain ⟨g', c', hv, hc', _, _, _⟩ := h9.form (by simp)
        rw [List.length_append, HLk.out] at hv
        subst hv
        exact ⟨_, c', rfl, Lib.hid (by rw [HSk.out]; exact h9)⟩)
      go_wp2_with fail
      go_region_law (
        (refine step_app_ownA rfl _ _ _ rfl w.heap.size 53 i0 _ 2 16 Try.underlying48 hi0 hz0 hz1 hz2 rfl (by decide) (.slice x k cx) k (flatU L) rfl hownD ⟨wr.heap.size, 0, none⟩ 1 1 (uc s) rfl rfl hNews (uc_one s) (by unfold maxLen; omega) (by omega) (by first | omega | (simp; omega)) ?_
         intro v' w9 hown' hgrow))
      all_goals
        have HK2 : Hid (Keep w w9) := Lib.hid (Below.grown (hK.alloc (.cells #[.int .i64 (uL s), .int .i64 (uH s)] 53)).drew hgrow (hK.alloc (.cells #[.int .i64 (uL s), .int .i64 (uH s)] 53)).drew.size (fun q hq => (hownD.lt q hq).1))
        obtain ⟨x', c', rfl, HN2⟩ := HEnd.out w9 v' hown'
        clear hgrow hownD hown'
        go_wp2
        go_roundw
        case rel => exact ⟨k + 1, x', c', by omega, by first | (congr 1; omega) | (go_num), rfl, HN2, HK2.out⟩
        case measure => simp [intOf]; omega
    · have dlt : decide (i < p) = false := decide_eq_false hlt
      have hkp : k = p - f := by omega
      have HF : Hid (OwnU wr w.heap.size (.slice x k cx) (keptL ss n p)) := Lib.hid (by
        have h1 := HO.out
        rw [List.take_of_length_le (by rw [HLn.out]; omega)] at h1
        exact h1)
      clear hkp
      go_wp2
      go_ret
      exact nwU_own HF.out (Nat.le_refl _) hK
/-- A new slice of sums and a bool. -/
def NwUB (L : List R2) (b : Bool) (w : World) (e : Ending) (w' : World) : Prop := ∃ (a : Option Addr) (c : Nat), e = .returned (.tuple #[.slice a L.length c, .bool b]) ∧ L.length ≤ c ∧ FrU w w' a L ∧ Keep w w'
theorem kept_full {L : List R2} {n : Nat} (h : L.length = n) : keptL L n n = L := by
  apply List.ext_getElem
  · rw [keptL_len]; omega
  · intro i h1 h2
    simp only [keptL, List.getElem_map, List.getElem_range, Nat.sub_self, Nat.zero_add]
    rw [Nat.mod_eq_of_lt (by omega)]
    simp [List.getD_eq_getElem?_getD, h2]
theorem fill_set {L : List R2} {n k : Nat} (hl : L.length = n) (hk : k < n) : (L.take k ++ List.replicate (n - k) u0).set k (L.getD k u0) = L.take (k + 1) ++ List.replicate (n - (k + 1)) u0 := by
  have e : List.replicate (n - k) u0 = u0 :: List.replicate (n - (k + 1)) u0 := by
    rw [← List.replicate_succ]; congr 1; omega
  have hg : L.getD k u0 = L[k] := by simp [List.getD_eq_getElem?_getD, show k < L.length by omega]
  have ht : (L.take k).length = k := by rw [List.length_take]; omega
  rw [e, List.set_append_right _ _ (by omega), ht, Nat.sub_self, List.set_cons_zero, hg, List.take_succ_eq_append_getElem (by omega), List.append_assoc]
  rfl
set_option maxRecDepth 100000 in
set_option maxHeartbeats 4000000 in
theorem su_impl (a : Option Addr) (cap : Nat) (zs : List Int) (w : World) (h : Ls w a zs) (hm : zs.length ≤ 1048576) :
    Calls Try.prog 29 #[.slice a zs.length cap] w (NwUB (suL zs) (sqB zs) w) := by
  have HQ := Lib.hid (sqv_impl a cap zs w h (by omega))
  rcases Bool.eq_false_or_eq_true (sqB zs) with hs | hs
  case' inr =>
    have HN := Lib.hid (And.intro (suL_no hs) hs)
    rw [hs] at HQ
    clear hs
    go_enter Try.func29, Try.ntmps29
    go_wp2_with fail
    refine HQ.out.mono ?_
    rintro e w1 ⟨rfl, rfl⟩
    go_wp2
    go_ret2
    rw [HN.out.1, HN.out.2]
    exact ⟨none, 0, rfl, Nat.le_refl _, .inl rfl, Keep.refl _⟩
  have HY := Lib.hid (And.intro (suL_yes hs) hs)
  have hl := (sq_facts hs).2
  have HAt := Lib.hid (fun (k : Nat) (hk : k < zs.length) => sq_at hs hk)
  have HBd := Lib.hid (fun (k : Nat) (hk : k ≤ zs.length) => su_bd hs hk)
  have HStep := Lib.hid (fun (k : Nat) (hk : k < zs.length) => su_sadd (zs := zs) hk)
  have HG := Lib.hid (fun (k : Nat) (hk : k ≤ zs.length) => sul_at (zs := zs) hk)
  obtain ⟨n, hn⟩ : ∃ n, zs.length + 1 = n := ⟨_, rfl⟩
  have ne : (zs.length : Int) + 1 = (n : Int) := by omega
  have HLn : Hid ((sul zs).length = n) := Lib.hid (by rw [sul_len, hn])
  have hn13 : n ≤ 13 := by omega
  have hn2 : 2 ≤ n := by omega
  have HN1 := Lib.hid hn
  rw [hs] at HQ
  clear hs hn
  go_enter Try.func29, Try.ntmps29
  go_wp2_with fail
  refine HQ.out.mono ?_
  rintro e w1 ⟨rfl, rfl⟩
  go_wp2_with fail
  refine (newRing n _ (by omega)).mono ?_
  rintro e w2 ⟨rfl, hR, k2, hs2⟩
  have hRA := hR.keep ((Keep.refl w2).alloc (.cells #[.int .i64 0, .int .i64 0] 53))
  have t0 : (w2.alloc (.cells #[.int .i64 0, .int .i64 0] 53)).cell? ⟨w2.heap.size, 0, none⟩ = some (.int .i64 0) := World.cell?_alloc_new w2 _ _ 0
  have t1 : (w2.alloc (.cells #[.int .i64 0, .int .i64 0] 53)).cell? ⟨w2.heap.size, 1, none⟩ = some (.int .i64 0) := World.cell?_alloc_new w2 _ _ 1
  have tf0 : (w2.alloc (.cells #[.int .i64 0, .int .i64 0] 53)).frozen? ⟨w2.heap.size, 0, none⟩ = false := World.frozen?_alloc_at _ _ _ _ rfl
  have tf1 : (w2.alloc (.cells #[.int .i64 0, .int .i64 0] 53)).frozen? ⟨w2.heap.size, 1, none⟩ = false := World.frozen?_alloc_at _ _ _ _ rfl
  obtain ⟨TB, hTB⟩ : ∃ TB, w2.heap.size = TB := ⟨_, rfl⟩
  rw [hTB] at t0 t1 tf0 tf1 hs2
  have hK2 : Keep w (w2.alloc (.cells #[.int .i64 0, .int .i64 0] 53)) := k2.alloc _
  have hT1 : TB ≠ w.heap.size + 1 := by omega
  have hT2 : TB ≠ w.heap.size := by omega
  have hTw : w.heap.size ≤ TB := by omega
  have hpush := fun W (h : Ring W (w.heap.size + 1) w.heap.size n 0 (List.replicate n u0)) => push_any (w.heap.size + 1) w.heap.size n 0 0 (List.replicate n u0) (0, 0) W h (by omega) (by omega) (by omega) (by simp)
  go_wp2_with fail
  clear hTB
  refine (hpush _ hRA).mono ?_
  rintro e w3 ⟨rfl, hR3, h2w3⟩
  have T0 := h2w3.cell t0 hT1 hT2
  have T1 := h2w3.cell t1 hT1 hT2
  have TF0 := h2w3.still t0 tf0 hT1 hT2
  have TF1 := h2w3.still t1 tf1 hT1 hT2
  have hK3 := h2w3.keep hK2 (by omega) (Nat.le_refl _)
  have hRep : (List.replicate n u0).set 0 ((0, 0) : R2) = (sul zs).take 1 ++ List.replicate (n - 1) u0 := by
    have e := fill_set (L := sul zs) (n := n) (k := 0) HLn.out (by omega)
    have e2 : (sul zs).getD 0 u0 = (0, 0) := HG.out 0 (by omega)
    rw [e2] at e
    simpa using e
  rw [hRep] at hR3
  clear hRep hpush hRA hR t0 t1 tf0 tf1 h2w3 hK2
  have hR3' : Hid (Ring w3 (w.heap.size + 1) w.heap.size n 1 ((sul zs).take 1 ++ List.replicate (n - 1) u0)) := Lib.hid hR3
  clear hR3
  go_wp2_with fail
  go_loopw [21] (fun i wr => ∃ k : Nat, k ≤ zs.length ∧ i = .int .i64 k ∧ Hid (Ring wr (w.heap.size + 1) w.heap.size n (k + 1) ((sul zs).take (k + 1) ++ List.replicate (n - (k + 1)) u0)) ∧
      (wr.cell? ⟨TB, 0, none⟩ = some (.int .i64 (su zs k).1) ∧ wr.cell? ⟨TB, 1, none⟩ = some (.int .i64 (su zs k).2)) ∧ (wr.frozen? ⟨TB, 0, none⟩ = false ∧ wr.frozen? ⟨TB, 1, none⟩ = false) ∧ Keep w wr) (fun i _ => zs.length - (intOf i).toNat)
  case atStart => exact ⟨0, by omega, rfl, hR3', ⟨T0, T1⟩, ⟨TF0, TF1⟩, hK3⟩
  case round =>
    obtain ⟨k, hk, rfl, HR, ⟨c0, c1⟩, ⟨f0, f1⟩, hK⟩ := hrel
    clear T0 T1 TF0 TF1 hK3 hR3'
    by_cases hlt : k < zs.length
    · obtain ⟨b, off, rfl, hb, cz⟩ := (h.keep hK).at_ hlt
      have bx := HAt.out k hlt
      obtain ⟨⟨b0, b1⟩, b2, b3⟩ := HBd.out k hk
      have HS := Lib.hid (HStep.out k hlt)
      have HG1 := Lib.hid (HG.out (k + 1) (by omega))
      obtain ⟨⟨d0, d1⟩, d2, d3⟩ := HBd.out (k + 1) (by omega)
      rw [HStep.out k hlt] at d0 d1 d2 d3
      have k0 : (0 : Int) ≤ (k : Int) := by omega
      have kz : (k : Int) < (zs.length : Int) := by omega
      generalize su zs k = s0 at *
      generalize zs.getD k 0 = x at *
      obtain ⟨t, m⟩ := s0
      dsimp only at c0 c1 b0 b1 b2 b3
      have HSa : Hid (su zs (k + 1) = sadd (t, m) x) := HS
      obtain ⟨s1, hs1⟩ : ∃ s1, sadd (t, m) x = s1 := ⟨_, rfl⟩
      have HW := Lib.hid (fun W => with_any t m x W (by omega) (by omega) (by omega) (by omega) (by omega) (by omega))
      rw [hs1] at HW HSa
      obtain ⟨t', m'⟩ := s1
      clear hs1 HS d0 d1 d2 d3
      go_wp2_with fail
      refine (HW.out _).mono ?_
      rintro e w5 ⟨rfl, k5⟩
      have e0 := k5.cell c0
      have e1 := k5.cell c1
      have g0 := k5.still c0 f0
      have g1 := k5.still c1 f1
      have HR5 := Lib.hid (((HR.out.keep k5).other (B := TB) (o := 0) (u := .int .i64 t') hT1 hT2).other (B := TB) (o := 1) (u := .int .i64 m') hT1 hT2)
      have hfill := fill_set (L := sul zs) (n := n) (k := k + 1) HLn.out (by have := HN1.out; omega)
      have hg1 : (sul zs).getD (k + 1) u0 = (t', m') := (HG1.out).trans HSa.out
      rw [hg1] at hfill
      have hpush := fun W (h : Ring W (w.heap.size + 1) w.heap.size n (k + 1) ((sul zs).take (k + 1) ++ List.replicate (n - (k + 1)) u0)) => push_any (w.heap.size + 1) w.heap.size n (k + 1) (k + 1) _ (t', m') W h (by omega) (by omega) (by omega) (Nat.mod_eq_of_lt (by have := HN1.out; omega))
      rw [hfill] at hpush
      have HPush := Lib.hid hpush
      clear hpush hfill hg1
      go_wp2_with fail
      refine (HPush.out _ HR5.out).mono ?_
      rintro e w6 ⟨rfl, hR6, h26⟩
      have q0 : w6.cell? ⟨TB, 0, none⟩ = some (.int .i64 t') := h26.cell (by go_simp) hT1 hT2
      have q1 : w6.cell? ⟨TB, 1, none⟩ = some (.int .i64 m') := h26.cell (by go_simp) hT1 hT2
      have r0 : w6.frozen? ⟨TB, 0, none⟩ = false := h26.still (v := .int .i64 t') (by go_simp) (by go_simp) hT1 hT2
      have r1 : w6.frozen? ⟨TB, 1, none⟩ = false := h26.still (v := .int .i64 m') (by go_simp) (by go_simp) hT1 hT2
      have hK6 : Keep w w6 := h26.keep (((hK.trans k5).setCell hTw _).setCell hTw _) (by omega) (Nat.le_refl _)
      have HR6 := Lib.hid hR6
      clear hR6 HR5 HR HPush
      go_wp2
      go_roundw
      case rel => exact ⟨k + 1, by omega, by go_num, HR6, by rw [HSa.out]; exact ⟨q0, q1⟩, ⟨r0, r1⟩, hK6⟩
      case measure => simp [intOf]; omega
    · obtain rfl : k = zs.length := by omega
      have HRf : Hid (Ring wr (w.heap.size + 1) w.heap.size n n (sul zs)) := Lib.hid (by
        have h1 := HR.out
        have hnn := HN1.out
        rw [hnn, List.take_of_length_le (by rw [HLn.out]; exact Nat.le_refl _), Nat.sub_self] at h1
        simpa using h1)
      have HKp := Lib.hid (kept_any (w.heap.size + 1) w.heap.size n n (sul zs) wr HRf.out (by omega) (by omega) (by omega))
      rw [kept_full HLn.out] at HKp
      go_wp2_with fail
      refine HKp.out.mono ?_
      rintro e w7 ⟨x7, c7, rfl, hc7, hF7, k7⟩
      go_wp2
      go_ret2
      rw [HY.out.1, HY.out.2]
      exact ⟨x7, c7, rfl, hc7, hF7.mono hK.size, hK.trans k7⟩
end Go.Proofs.Ytkiibklenpncpaa
