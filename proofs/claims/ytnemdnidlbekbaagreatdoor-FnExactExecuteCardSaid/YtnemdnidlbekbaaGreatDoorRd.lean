/- The reader of codes: 'l6Open' makes one, 'pick' answers a number below its argument and moves the reader on by one place. -/
import Derived.Test.YtnemdnidlbekbaaGreatDoorRows
import Derived.Test.YtnemdnidlbekbaaGreatDoorFr
import Derived.Test.YtnemdnidlbekbaaGreatDoorKeep
import Derived.WalkKit
import Derived.BigQuiet
import Derived.Deep.QuietTactic
import Derived.Lib.Hide
import Derived.Laws.BitsAllLaws
import Derived.ProofKit
import Derived.OpenShut
namespace Go.Proofs.YtnemdnidlbekbaaGreatDoor
open Go.RowKit Go.ChangeShapes Go.WideShapes Go.ChangeAt
set_option linter.unusedVariables false

/-- The code: empty, or 'len' cells with bytes in a block below 'B'. -/
def Code (w : World) (B : Nat) (a : Option Addr) (len : Nat) : Prop :=
  len = 0 ∨ ∃ b off, a = some ⟨b, off, none⟩ ∧ b < B ∧ ∀ i, i < len → ∃ x : Int, 0 ≤ x ∧ x ≤ 255 ∧ w.cell? ⟨b, off + i, none⟩ = some (.int .u8 x)

/-- A reader in block 'B', at place 'p'. -/
def Rd (w : World) (B : Nat) (p : Nat) : Prop :=
  ∃ a len cap, len ≤ 2000 ∧ B < w.heap.size ∧ w.cell? ⟨B, 0, none⟩ = some (.slice a len cap) ∧ w.cell? ⟨B, 1, none⟩ = some (.int .i64 p) ∧
    w.frozen? ⟨B, 1, none⟩ = false ∧ Code w B a len

/-- The code stays in place where only blocks from 'B' on turn. -/
theorem Code.keep {w w' : World} {B : Nat} {a : Option Addr} {len : Nat} (h : Code w B a len) (hw : ∀ b o, b < B → w'.cell? ⟨b, o, none⟩ = w.cell? ⟨b, o, none⟩) : Code w' B a len := by
  rcases h with h | ⟨b, off, ha, hb, hc⟩
  · exact .inl h
  · exact .inr ⟨b, off, ha, hb, fun i hi => by obtain ⟨x, h1, h2, h3⟩ := hc i hi; exact ⟨x, h1, h2, by rw [hw b _ hb]; exact h3⟩⟩

theorem i64_xor_nat (a b : Nat) (ha : a < 9223372036854775808) (hb : b < 9223372036854775808) : bits .xor .i64 (a : Int) (b : Int) = ((a ^^^ b : Nat) : Int) := by
  have hx : a ^^^ b < 2 ^ 63 := Nat.xor_lt_two_pow (by omega) (by omega)
  show IntKind.i64.wrap ((BitVec.ofInt 64 (a : Int) ^^^ BitVec.ofInt 64 (b : Int)).toNat : Int) = _
  rw [BitVec.toNat_xor, ofInt_u64 a (by omega), ofInt_u64 b (by omega)]
  simp [IntKind.wrap, IntKind.bits, IntKind.signed]
  omega

theorem i64_xor_pos (a b : Int) (h1 : 0 ≤ a) (h2 : a < 9223372036854775808) (h3 : 0 ≤ b) (h4 : b < 9223372036854775808) : 0 ≤ bits .xor .i64 a b := by
  obtain ⟨m, rfl⟩ := Int.eq_ofNat_of_zero_le h1
  obtain ⟨k, rfl⟩ := Int.eq_ofNat_of_zero_le h3
  rw [i64_xor_nat m k (by omega) (by omega)]
  omega

set_option maxHeartbeats 400000 in
theorem pick_zero (B p n : Nat) (w : World) (hn : 1 ≤ n) (hp : p ≤ 1000000) (a : Option Addr) (cap : Nat)
    (c0 : w.cell? ⟨B, 0, none⟩ = some (.slice a 0 cap)) (c1 : w.cell? ⟨B, 1, none⟩ = some (.int .i64 p)) (f1 : w.frozen? ⟨B, 1, none⟩ = false) :
    Calls Tryz.prog 18 #[.pointer (some ⟨B, 0, none⟩), .int .i64 n] w fun e w' => e = .returned (.int .i64 0) ∧ w' = w.setCell ⟨B, 1, none⟩ (.int .i64 (p + 1 : Nat)) := by
  go_enter Tryz.func18, Tryz.ntmps18
  go_wp2
  go_ret
  exact ⟨rfl, rfl⟩

set_option maxHeartbeats 400000 in
theorem pick_in (B p n : Nat) (w : World) (hn : 1 ≤ n) (hp : p ≤ 1000000) (b off len cap : Nat) (x : Int) (hl : p < len) (hl2 : len ≤ 2000) (hbB : b < B) (hx0 : 0 ≤ x) (hx1 : x ≤ 255)
    (c0 : w.cell? ⟨B, 0, none⟩ = some (.slice (some ⟨b, off, none⟩) len cap)) (c1 : w.cell? ⟨B, 1, none⟩ = some (.int .i64 p)) (f1 : w.frozen? ⟨B, 1, none⟩ = false)
    (cx : w.cell? ⟨b, off + p, none⟩ = some (.int .u8 x)) :
    Calls Tryz.prog 18 #[.pointer (some ⟨B, 0, none⟩), .int .i64 n] w fun e w' => e = .returned (.int .i64 (x % n)) ∧ w' = w.setCell ⟨B, 1, none⟩ (.int .i64 (p + 1 : Nat)) := by
  have g1 : decide ((n : Int) < 1) = false := by simp; omega
  have g2 : ((len : Int) == 0) = false := by simp; omega
  go_enter Tryz.func18, Tryz.ntmps18
  go_wp2
  go_ret
  exact ⟨rfl, rfl⟩

set_option maxHeartbeats 1000000 in
theorem pick_far (B p n : Nat) (w : World) (hn : 1 ≤ n) (hp : p ≤ 1000000) (b off len cap : Nat) (x y : Int) (hl0 : 0 < len) (hl : len ≤ p) (hl2 : len ≤ 2000) (hbB : b < B)
    (hx0 : 0 ≤ x) (hx1 : x ≤ 255) (hy0 : 0 ≤ y) (hy1 : y ≤ 255)
    (c0 : w.cell? ⟨B, 0, none⟩ = some (.slice (some ⟨b, off, none⟩) len cap)) (c1 : w.cell? ⟨B, 1, none⟩ = some (.int .i64 p)) (f1 : w.frozen? ⟨B, 1, none⟩ = false)
    (cx : w.cell? ⟨b, off + p % len, none⟩ = some (.int .u8 x)) (cy : w.cell? ⟨b, off + (p * 7 + 3) % len, none⟩ = some (.int .u8 y)) :
    Calls Tryz.prog 18 #[.pointer (some ⟨B, 0, none⟩), .int .i64 n] w fun e w' => (∃ z : Int, e = .returned (.int .i64 z) ∧ 0 ≤ z ∧ z < n) ∧ ∃ k, w' = (w.setCell ⟨B, 1, none⟩ (.int .i64 (p + 1 : Nat))).drewN k := by
  have g1 : decide ((n : Int) < 1) = false := by simp; omega
  have g2 : ((len : Int) == 0) = false := by simp; omega
  have b1 : 0 ≤ (p : Int) % len := Int.emod_nonneg _ (by omega)
  have b2 : (p : Int) % len < len := Int.emod_lt_of_pos _ (by omega)
  have b3 : 0 ≤ ((p : Int) * 7 + 3) % len := Int.emod_nonneg _ (by omega)
  have b4 : ((p : Int) * 7 + 3) % len < len := Int.emod_lt_of_pos _ (by omega)
  have b5 : 0 ≤ (p : Int) / len := Int.ediv_nonneg (by omega) (by omega)
  have b6 : (p : Int) / len ≤ 1000000 := Int.le_trans (Int.ediv_le_self _ (by omega)) (by omega)
  go_enter Tryz.func18, Tryz.ntmps18
  go_wp2
  go_quiet (fail)
  go_wp2
  go_ret
  have hx : 0 ≤ bits .xor .i64 (x * 131 + y * 1117 + (p : Int) * 29 + (p : Int) / len * 53) ((x * 131 + y * 1117 + (p : Int) * 29 + (p : Int) / len * 53) / 64) := i64_xor_pos _ _ (by omega) (by omega) (by omega) (by omega)
  exact ⟨⟨_, rfl, Int.tmod_nonneg _ hx, by have := Int.tmod_lt_of_pos (bits .xor .i64 (x * 131 + y * 1117 + (p : Int) * 29 + (p : Int) / len * 53) ((x * 131 + y * 1117 + (p : Int) * 29 + (p : Int) / len * 53) / 64)) (b := n) (by omega); exact this⟩, _, rfl⟩

/-- 'pick' of a number from 1 on: a number from 0 on and less than it; the reader stands one place further; nothing else turns. -/
theorem pick_any (B p : Nat) (n0 : Int) (w : World) (hn0 : 1 ≤ n0) (hp : p ≤ 1000000) (h : Rd w B p) :
    Calls Tryz.prog 18 #[.pointer (some ⟨B, 0, none⟩), .int .i64 n0] w fun e w' => ∃ z : Int, e = .returned (.int .i64 z) ∧ 0 ≤ z ∧ z < n0 ∧ Rd w' B (p + 1) ∧ Only B w w' ∧ w'.heap.size ≤ w.heap.size := by
  obtain ⟨n, rfl⟩ := Int.eq_ofNat_of_zero_le (show 0 ≤ n0 by omega)
  have hn : 1 ≤ n := by omega
  obtain ⟨a, len, cap, hl, hB, c0, c1, f1, hc⟩ := h
  have key : ∀ w' k, w' = (w.setCell ⟨B, 1, none⟩ (.int .i64 (p + 1 : Nat))).drewN k → Rd w' B (p + 1) ∧ Only B w w' ∧ w'.heap.size ≤ w.heap.size := by
    rintro w' k rfl
    have hother : ∀ b o, b < B → ((w.setCell ⟨B, 1, none⟩ (.int .i64 (p + 1 : Nat))).drewN k).cell? ⟨b, o, none⟩ = w.cell? ⟨b, o, none⟩ := fun b o hb => by
      show (w.setCell ⟨B, 1, none⟩ (.int .i64 (p + 1 : Nat))).cell? ⟨b, o, none⟩ = _
      exact World.cell?_setCell_other _ _ _ _ (by intro h; simp only [Addr.mk.injEq] at h; omega)
    refine ⟨⟨a, len, cap, hl, by simpa [World.setCell] using hB, ?_, ?_, ?_, hc.keep hother⟩, ⟨rfl, rfl, rfl, by simp [World.setCell], fun i _ hne => ?_⟩, by simp [World.setCell]⟩
    · show (w.setCell ⟨B, 1, none⟩ (.int .i64 (p + 1 : Nat))).cell? ⟨B, 0, none⟩ = _
      rw [World.cell?_setCell_other _ _ _ _ (by simp)]; exact c0
    · show (w.setCell ⟨B, 1, none⟩ (.int .i64 (p + 1 : Nat))).cell? ⟨B, 1, none⟩ = _
      exact World.cell?_setCell_same _ _ _ c1
    · show (w.setCell ⟨B, 1, none⟩ (.int .i64 (p + 1 : Nat))).frozen? ⟨B, 1, none⟩ = _
      rw [World.frozen?_setCell]; exact f1
    · show (w.setCell ⟨B, 1, none⟩ (.int .i64 (p + 1 : Nat))).heap[i]? = _
      exact Below.heap_setCell _ _ _ _ (by simpa using hne)
  rcases hc with rfl | ⟨b, off, rfl, hbB, hcells⟩
  · refine (pick_zero B p n w hn hp a cap c0 c1 f1).mono fun e w' ⟨he, hw⟩ => ⟨0, he, by omega, by omega, ?_⟩
    exact key w' 0 hw
  · by_cases h0 : len = 0
    · subst h0
      refine (pick_zero B p n w hn hp _ cap c0 c1 f1).mono fun e w' ⟨he, hw⟩ => ⟨0, he, by omega, by omega, ?_⟩
      exact key w' 0 hw
    · by_cases hlt : p < len
      · obtain ⟨x, hx0, hx1, cx⟩ := hcells p hlt
        refine (pick_in B p n w hn hp b off len cap x hlt hl hbB hx0 hx1 c0 c1 f1 cx).mono fun e w' ⟨he, hw⟩ => ⟨_, he, Int.emod_nonneg _ (by omega), Int.emod_lt_of_pos _ (by omega), ?_⟩
        exact key w' 0 hw
      · obtain ⟨x, hx0, hx1, cx⟩ := hcells (p % len) (Nat.mod_lt _ (by omega))
        obtain ⟨y, hy0, hy1, cy⟩ := hcells ((p * 7 + 3) % len) (Nat.mod_lt _ (by omega))
        refine (pick_far B p n w hn hp b off len cap x y (by omega) (by omega) hl hbB hx0 hx1 hy0 hy1 c0 c1 f1 cx cy).mono fun e w' ⟨⟨z, he, hz0, hz1⟩, k, hw⟩ => ⟨z, he, hz0, hz1, ?_⟩
        exact key w' k hw

/-- What a law knows of its code: it lies below all that the call makes. -/
def CodeArg (w : World) (a : Option Addr) (len cap : Nat) : Prop := (len ≤ cap ∧ cap ≤ maxLen) ∧ ∀ m, m ≤ len → Code w w.heap.size a m

theorem Code.mono {w : World} {B B' : Nat} {a : Option Addr} {len : Nat} (h : Code w B a len) (hB : B ≤ B') : Code w B' a len := by
  rcases h with h | ⟨b, off, ha, hb, hc⟩
  · exact .inl h
  · exact .inr ⟨b, off, ha, by omega, hc⟩

theorem CodeArg.below {w w' : World} {a : Option Addr} {len cap : Nat} (h : CodeArg w a len cap) (hb : Below w.heap.size w w') : CodeArg w' a len cap :=
  ⟨h.1, fun m hm => ((h.2 m hm).keep fun b o hlt => hb.cell (p := ⟨b, o, none⟩) hlt).mono hb.size⟩

/-- 'l6Open': a reader at its beginning, in a new block. -/
theorem code_of_row {w : World} {a : Option Addr} {len cap : Nat} {zs : List Int} (h : IsRow .u8 w a len cap zs) :
    CodeArg w a len cap := by
  rcases h with ⟨rfl, rfl, rfl, rfl⟩ | ⟨x, rfl, h1, h2, h3, h4, h5⟩
  · exact ⟨⟨Nat.le_refl _, by unfold maxLen; omega⟩, fun m hm => .inl (by omega)⟩
  · refine ⟨⟨h1, h2⟩, fun m hm => ?_⟩
    by_cases h0 : m = 0
    · exact .inl h0
    · right
      have hx := h4 0 (by omega)
      obtain ⟨b, off, rfl, hc⟩ := ints_at h4 (by omega)
      refine ⟨b, off, rfl, World.block_lt_of_cell? w _ hx, fun i hi => ?_⟩
      have hz := hc i (by omega)
      refine ⟨zs.getD i 0, ?_, ?_, hz⟩
      all_goals
        have hw := h5 (zs.getD i 0) (by rw [List.getD_eq_getElem?_getD, List.getElem?_eq_getElem (by omega)]; exact List.getElem_mem _)
        simp [Lit.wf, IntKind.min, IntKind.max, IntKind.signed, IntKind.bits] at hw
        simp; omega

set_option maxHeartbeats 400000 in
theorem open_any (a : Option Addr) (len cap : Nat) (w : World) (ha : CodeArg w a len cap) :
    Calls Tryz.prog 17 #[.slice a len cap] w fun e w' => e = .returned (.pointer (some ⟨w.heap.size, 0, none⟩)) ∧ Rd w' w.heap.size 0 ∧ Below w.heap.size w w' ∧ w.heap.size < w'.heap.size := by
  obtain ⟨⟨hlc, hm⟩, hc⟩ := ha
  unfold maxLen at hm
  have mk : ∀ m c, m ≤ 2000 → m ≤ len → Rd (w.alloc (.cells #[.slice a m c, .int .i64 0] 50)) w.heap.size 0 ∧ Below w.heap.size w (w.alloc (.cells #[.slice a m c, .int .i64 0] 50)) ∧ w.heap.size < (w.alloc (.cells #[.slice a m c, .int .i64 0] 50)).heap.size := by
    intro m c h1 h2
    refine ⟨⟨a, m, c, h1, by simp, by go_simp, by go_simp, by go_simp, (hc m h2).keep fun b o hb => ?_⟩, (Below.refl _ _).alloc (Nat.le_refl _) _, by simp⟩
    exact World.cell?_alloc_lt _ _ _ hb
  by_cases h : len ≤ 2000
  · have hd : decide (2000 < (len : Int)) = false := by simp; omega
    go_enter Tryz.func17, Tryz.ntmps17
    go_wp2
    go_ret
    exact ⟨rfl, mk len cap h (Nat.le_refl _)⟩
  · have hd : decide (2000 < (len : Int)) = true := by simp; omega
    go_enter Tryz.func17, Tryz.ntmps17
    go_wp2


    go_ret
    exact ⟨rfl, mk 2000 cap (Nat.le_refl _) (by omega)⟩
theorem Rd.lt {w : World} {B p : Nat} (h : Rd w B p) : B < w.heap.size := by obtain ⟨_, _, _, _, h, _⟩ := h; exact h

/-- A new block leaves the reader as it is. -/
theorem Rd.alloc {w : World} {B p : Nat} (h : Rd w B p) (o : Obj) : Rd (w.alloc o) B p := by
  obtain ⟨a, len, cap, hl, hB, c0, c1, f1, hc⟩ := h
  refine ⟨a, len, cap, hl, by simp; omega, ?_, ?_, ?_, hc.keep fun b o' hb => World.cell?_alloc_lt _ _ _ (show b < _ by omega)⟩
  · rw [World.cell?_alloc_lt _ _ _ hB]; exact c0
  · rw [World.cell?_alloc_lt _ _ _ hB]; exact c1
  · rw [World.frozen?_alloc_old _ _ _ (by show B ≠ _; omega)]; exact f1

/-- A store into a block behind the reader leaves the reader as it is. -/
theorem Rd.setCell {w : World} {B p : Nat} (h : Rd w B p) {b o : Nat} (hb : B < b) (u : Value) : Rd (w.setCell ⟨b, o, none⟩ u) B p := by
  obtain ⟨a, len, cap, hl, hB, c0, c1, f1, hc⟩ := h
  have hn : ∀ c o', c ≤ B → (⟨b, o, none⟩ : Addr) ≠ ⟨c, o', none⟩ := fun c o' hc h => by simp only [Addr.mk.injEq] at h; omega
  refine ⟨a, len, cap, hl, by simpa [World.setCell] using hB, ?_, ?_, ?_, hc.keep fun c o' hlt => World.cell?_setCell_other _ _ _ _ (hn c o' (by omega))⟩
  · rw [World.cell?_setCell_other _ _ _ _ (hn B 0 (Nat.le_refl _))]; exact c0
  · rw [World.cell?_setCell_other _ _ _ _ (hn B 1 (Nat.le_refl _))]; exact c1
  · rw [World.frozen?_setCell]; exact f1

/-- .. and of a draw. -/
theorem Rd.drewN {w : World} {B p : Nat} (h : Rd w B p) (n : Nat) : Rd (w.drewN n) B p := h
end Go.Proofs.YtnemdnidlbekbaaGreatDoor
