/- Gaps: what the program's FillOf is made of: widened ranges, their meeting, a stack of ranges in memory. -/
import Derived.Test.YtkiibklenpncpaaGo
import Derived.Test.YtkiibklenpncpaaRm
import Derived.Deep.RegionLaw
import Derived.Deep.RegionHeld3
import Derived.Laws.OwnMore
namespace Go.Proofs.Ytkiibklenpncpaa
open Go.RowKit
set_option linter.unusedVariables false

set_option maxHeartbeats 400000 in
theorem wid_any (a b st : Int) (w : World) (ha : -99999 ≤ a ∧ a ≤ 99999) (hb : -99999 ≤ b ∧ b ≤ 99999) (h0 : 0 ≤ st) (h1 : st ≤ 19999) :
    Calls Try.prog 116 #[.agg #[.int .i64 a, .int .i64 b], .int .i64 st] w fun e w' => e = .returned (.agg #[.int .i64 (a - st), .int .i64 (b + st)]) ∧ Keep w w' := by
  obtain ⟨a0, a1⟩ := ha
  obtain ⟨b0, b1⟩ := hb
  go_enter Try.func116, Try.ntmps116
  go_wp2
  refine bodyPost_ret (v := .agg #[.int .i64 (a - st), .int .i64 (b + st)]) (by simp [results, Try.results116, go_sem, *]) rfl ⟨rfl, ?_⟩
  exact ((Keep.refl w).alloc _).alloc _
theorem meet_yes (a b c d : Int) (w : World) (h1 : -99999 ≤ a ∧ b ≤ 99999) (h2 : -99999 ≤ c ∧ d ≤ 99999) (hab : a ≤ b) (hcd : c ≤ d) (h3 : a ≤ d ∧ c ≤ b) :
    Calls Try.prog 115 #[.agg #[.int .i64 a, .int .i64 b], .agg #[.int .i64 c, .int .i64 d]] w fun e w' => e = .returned (.tuple #[.agg #[.int .i64 (max a c), .int .i64 (min b d)], .bool true]) ∧ Keep w w' := by
  have e : mOk a b c d = true := by
    rw [mOk, rgOk_mk ⟨h1.1, hab, h1.2⟩, rgOk_mk ⟨h2.1, hcd, h2.2⟩, decide_eq_true h3.1, decide_eq_true h3.2]; rfl
  have h := mOk_impl a b c d w
  rw [mLo, mHi, e, if_pos rfl, if_pos rfl] at h
  exact h
/-- Below block 'base' only block P has turned. -/
structure Ot (P base : Nat) (w w' : World) : Prop where
  os : w'.os = w.os
  tape : w'.tape = w.tape
  output : w'.output = w.output
  size : w.heap.size ≤ w'.heap.size
  block : ∀ k, k < w.heap.size → k < base → k ≠ P → w'.heap[k]? = w.heap[k]?
theorem Ot.refl (P base : Nat) (w : World) : Ot P base w w := ⟨rfl, rfl, rfl, Nat.le_refl _, fun _ _ _ _ => rfl⟩
theorem Ot.trans {P base : Nat} {a b c : World} (h : Ot P base a b) (k : Ot P base b c) : Ot P base a c :=
  ⟨k.os.trans h.os, k.tape.trans h.tape, k.output.trans h.output, Nat.le_trans h.size k.size, fun i hi h1 h2 => (k.block i (Nat.lt_of_lt_of_le hi h.size) h1 h2).trans (h.block i hi h1 h2)⟩
theorem Keep.ot {P base : Nat} {w w' : World} (h : Keep w w') : Ot P base w w' := ⟨Below.os h, Below.tape h, Below.output h, Below.size h, fun i hi _ _ => Below.block h i hi⟩
theorem Ot.keep {P base : Nat} {w0 w w' : World} (h : Ot P base w w') (k : Keep w0 w) (h1 : w0.heap.size ≤ P) (h2 : w0.heap.size ≤ base) : Keep w0 w' :=
  Only.keep (B := P) (w := w0) ⟨(h.os.trans (Below.os k)), (h.tape.trans (Below.tape k)), (h.output.trans (Below.output k)), Nat.le_trans k.size h.size, fun i hi _ => (h.block i (Nat.lt_of_lt_of_le hi k.size) (by omega) (by omega)).trans (Below.block k i hi)⟩ (Keep.refl w0) h1
theorem Ot.cell {P base : Nat} {w w' : World} (h : Ot P base w w') {b o : Nat} {v : Value} (hc : w.cell? ⟨b, o, none⟩ = some v) (h1 : b < base) (h2 : b ≠ P) : w'.cell? ⟨b, o, none⟩ = some v :=
  (World.cell?_of_block (w := w) (h.block b (World.block_lt_of_cell? w _ hc) h1 h2)).trans hc
theorem Ot.still {P base : Nat} {w w' : World} (h : Ot P base w w') {b o : Nat} {v : Value} {x : Bool} (hc : w.cell? ⟨b, o, none⟩ = some v) (hf : w.frozen? ⟨b, o, none⟩ = x) (h1 : b < base) (h2 : b ≠ P) : w'.frozen? ⟨b, o, none⟩ = x :=
  (World.frozen?_of_block (w := w) (h.block b (World.block_lt_of_cell? w _ hc) h1 h2)).trans hf
theorem Ot.setCell {P base o : Nat} {a w : World} (h : Ot P base a w) (u : Value) : Ot P base a (w.setCell ⟨P, o, none⟩ u) :=
  ⟨h.os, h.tape, h.output, by have := h.size; simpa [World.setCell] using this, fun k hk hb hne => (Below.heap_setCell _ _ _ _ (by intro e; exact hne (by rw [e]))).trans (h.block k hk hb hne)⟩
theorem Ot.grown {P base : Nat} {a w w' : World} {row : Option Nat} (h : Ot P base a w) (hg : w.grownBy w' row) (hr : ∀ g, row = some g → base ≤ g) : Ot P base a w' :=
  ⟨hg.os.trans h.os, hg.tape.trans h.tape, hg.output.trans h.output, Nat.le_trans h.size hg.size, fun k hk hb hne => (hg.block k (Nat.lt_of_lt_of_le hk h.size) (fun e => by have := hr k e.symm; omega)).trans (h.block k hk hb hne)⟩
theorem step_app_ownU {P : Program} {w : World} {ops : Array Oper} {o : Oper} {a : Act} {K : Act → World → Prop} {Q : Exit → Act → World → Prop} {E : Prop} (hgd : o.guard = none) (s x : Operand) (t : TypeId)
    (ho : o.op = .call { callee := .builtin .append, args := #[s, x], argTypes := #[t, t] })
    (base : Nat) (e : TypeId) (i : TypeInfo) (z : Value) (size bytes : Nat) (ht : P.underlying t = some (.slice e)) (hi : P.info? e = some i) (hz : i.zero = some z)
    (hsize : i.size = size) (hby : i.bytes = bytes) (hzs : z.cells.size = size) (hsz : 0 < size)
    (v : Value) (n : Nat) (xs : List Value) (hs : a.eval s = v) (hown : w.ownsRow base e size v n xs)
    (ad : Addr) (m c : Nat) (news : List Value) (hx : a.eval x = .slice (some ad) m c) (hl : news.length = m * size) (hnews : ∀ j u, news[j]? = some u → w.cell? (ad.add j) = some u) (h1 : ∀ u ∈ news, u.oneCell' = true)
    (h63 : n + m ≤ maxLen) (hbytes : (n + m) * bytes ≤ 140737488355328) (hbase : base ≤ w.heap.size)
    (h : ∀ v' w', w'.ownsRow base e size v' (n + m) (xs ++ news) → w.grownBy w' v.ownBlock → K (a.put o.dst v') w') :
    if Region.wanted o (yielded ops a.tmps) = true then Oper.wp P o a w K Q else E := by
  have hw : Region.wanted o (yielded ops a.tmps) = true := by simp [Region.wanted, hgd]
  rw [if_pos hw]
  exact wp_append_own w s x t ho base e i z size bytes ht hi hz hsize hby hzs hsz v n xs hs hown ad m c news hx hl hnews h1 h63 hbytes hbase fun v' w' h2 h3 _ => h v' w' h2 h3
set_option maxRecDepth 100000 in
set_option maxHeartbeats 2000000 in
theorem push_any (P base : Nat) (v : Value) (p q : Int) (H : List R2) (w : World) (hc : w.cell? ⟨P, 0, none⟩ = some v) (hf : w.frozen? ⟨P, 0, none⟩ = false) (hO : OwnU w base v H) (hg : P < base) (hb : base ≤ w.heap.size) (hn : H.length ≤ 20) :
    Calls Try.prog 117 #[.pointer (some ⟨P, 0, none⟩), .agg #[.int .i64 p, .int .i64 q]] w fun e w' => e = .returned (.tuple #[]) ∧ ∃ g cap, w'.cell? ⟨P, 0, none⟩ = some (.slice (some ⟨g, 0, none⟩) (H.length + 1) cap) ∧ w'.frozen? ⟨P, 0, none⟩ = false ∧ OwnU w' base (.slice (some ⟨g, 0, none⟩) (H.length + 1) cap) (H ++ [(p, q)]) ∧ Ot P base w w' := by
  obtain ⟨i0, hi, hz0, hz1, hz2⟩ := info_parts infoRngG
  have hown : w.ownsRow base 66 2 v H.length (flatU H) := hO
  have hP := World.block_lt_of_cell? w _ hc
  have kA : Keep w (((w.alloc (.cells #[.int .i64 p, .int .i64 q] 66)).drew).alloc (.cells #[.int .i64 p, .int .i64 q] 66)) := (((Keep.refl w).alloc _).drew).alloc _
  have hOD : (((w.alloc (.cells #[.int .i64 p, .int .i64 q] 66)).drew).alloc (.cells #[.int .i64 p, .int .i64 q] 66)).ownsRow base 66 2 v H.length (flatU H) := hO.keep kA
  have hNW : ∀ j u, (uc (p, q))[j]? = some u → (((w.alloc (.cells #[.int .i64 p, .int .i64 q] 66)).drew).alloc (.cells #[.int .i64 p, .int .i64 q] 66)).cell? ((⟨w.heap.size + 1, 0, none⟩ : Addr).add j) = some u := by
    intro j u hj
    rw [Addr.add_lit, Nat.zero_add, show (⟨w.heap.size + 1, j, none⟩ : Addr) = ⟨(w.alloc (.cells #[.int .i64 p, .int .i64 q] 66)).drew.heap.size, j, none⟩ by simp, World.cell?_alloc_new, ← hj]
    simp [uc, uL, uH]
  have hBs : base ≤ (((w.alloc (.cells #[.int .i64 p, .int .i64 q] 66)).drew).alloc (.cells #[.int .i64 p, .int .i64 q] 66)).heap.size := by simp; omega
  have h63 : H.length + 1 ≤ maxLen := by unfold maxLen; omega
  have hby : (H.length + 1) * 16 ≤ 140737488355328 := by omega
  have cA := kA.cell hc
  have fA := kA.still hc hf
  have hPA : P < (((w.alloc (.cells #[.int .i64 p, .int .i64 q] 66)).drew).alloc (.cells #[.int .i64 p, .int .i64 q] 66)).heap.size := Nat.lt_of_lt_of_le hP kA.size
  have hne : some P ≠ v.ownBlock := fun e => by have := (hown.lt P e.symm).1; omega
  have HK0 : Hid (∀ (wF : World), (((w.alloc (.cells #[.int .i64 p, .int .i64 q] 66)).drew).alloc (.cells #[.int .i64 p, .int .i64 q] 66)).grownBy wF v.ownBlock → Ot P base w wF ∧ wF.cell? ⟨P, 0, none⟩ = some v ∧ wF.frozen? ⟨P, 0, none⟩ = false) := Lib.hid (fun wF hgrow =>
    ⟨Ot.grown (Keep.ot kA) hgrow (fun g hg => (hown.lt g hg).1), (hgrow.cell_far ⟨P, 0, none⟩ hPA hne).trans cA, by
      rw [World.frozen?_of_block (a := ⟨P, 0, none⟩) (hgrow.block P hPA hne)]; exact fA⟩)
  clear kA hne cA fA hown
  go_enter Try.func117, Try.ntmps117
  go_wp2_with fail
  go_region_law (go_loud (refine step_app_ownU rfl _ _ _ rfl base 66 i0 _ 2 16 Try.underlying62 hi hz0 hz1 hz2 rfl (by decide) v H.length (flatU H) rfl hOD ⟨w.heap.size + 1, 0, none⟩ 1 1 (uc (p, q)) rfl rfl hNW (uc_one _) h63 hby hBs ?_)
                 intro v' wF hown' hgrow
                 obtain ⟨g, cap, rfl, hbg, hlg⟩ := hown'.form (Nat.succ_pos _)
                 obtain ⟨hOt, cPF, fPF⟩ := HK0.out wF hgrow
                 have HKF := Lib.hid hOt
                 have HOF := Lib.hid hown'
                 clear hown' hgrow hOt)
  all_goals
    go_wp2
    go_end0
    have hO1 : OwnU wF base (.slice (some ⟨g, 0, none⟩) (H.length + 1) cap) (H ++ [(p, q)]) := by
      have h9 := HOF.out
      unfold OwnU
      rw [List.length_append, flatU_app, flatU_one]
      exact h9
    refine ⟨rfl, g, cap, World.cell?_setCell_same _ _ _ cPF, by rw [World.frozen?_setCell]; exact fPF, ?_, HKF.out.setCell _⟩
    exact hO1.only ((Only.refl P wF).put1 0 _) hg
set_option maxRecDepth 100000 in
set_option maxHeartbeats 2000000 in
theorem pop_any (P g n cap : Nat) (H : List R2) (w : World) (hc : w.cell? ⟨P, 0, none⟩ = some (.slice (some ⟨g, 0, none⟩) (n + 1) cap)) (hf : w.frozen? ⟨P, 0, none⟩ = false) (hR : Rr w (some ⟨g, 0, none⟩) H) (hn : H.length = n + 1) (hcap : n + 1 ≤ cap) (hn20 : n ≤ 20) :
    Calls Try.prog 118 #[.pointer (some ⟨P, 0, none⟩)] w fun e w' => e = .returned (.agg #[.int .i64 (uL (H.getD n u0)), .int .i64 (uH (H.getD n u0))]) ∧ w'.cell? ⟨P, 0, none⟩ = some (.slice (some ⟨g, 0, none⟩) n cap) ∧ w'.frozen? ⟨P, 0, none⟩ = false ∧ Only P w w' := by
  obtain ⟨b, off, he, hb, ⟨c0, c1⟩⟩ := hR.at_ (show n < H.length by omega)
  injection he with he
  injection he with e1 e2 _
  subst e1
  subst e2
  rw [Nat.zero_add] at c0 c1
  have hP := World.block_lt_of_cell? w _ hc
  generalize uL (H.getD n u0) = x0 at *
  generalize uH (H.getD n u0) = x1 at *
  have i0 : (0 : Int) ≤ (n : Int) := by omega
  clear hR hn
  go_enter Try.func118, Try.ntmps118
  go_wp2
  refine bodyPost_ret (v := .agg #[.int .i64 x0, .int .i64 x1]) (by simp [results, Try.results118, go_sem, *]) rfl ⟨rfl, ?_, ?_, ?_⟩
  · go_simp
  · go_simp
  · exact (((Only.refl P w).put1 0 _).alloc _).alloc _
end Go.Proofs.Ytkiibklenpncpaa
