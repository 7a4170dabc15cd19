/- How series are drawn: numbers between -10000 and 12000, at most thirteen days. -/
import Derived.Test.YtehjjoalnfpgdaaDrHl
import Derived.Test.YtehjjoalnfpgdaaFg
import Derived.Deep.RegionWith
namespace Go.Proofs.Ytehjjoalnfpgdaa
open Go.RowKit
set_option linter.unusedVariables false

/-- A list in a block that is not the reader's. -/
def LsN (B : Nat) (w : World) (a : Option Addr) (zs : List Int) : Prop := Ls w a zs ∧ (zs = [] ∨ ∀ b o, a = some ⟨b, o, none⟩ → b ≠ B)
theorem LsN.onlyo {B : Nat} {w w' : World} {a : Option Addr} {zs : List Int} (h : LsN B w a zs) (ho : Only B w w') : LsN B w' a zs := by
  refine ⟨?_, h.2⟩
  rcases h.2 with h2 | h2
  · exact .inl h2
  · rcases h.1 with h1 | ⟨b, off, ha, hb, hc⟩
    · exact .inl h1
    · exact .inr ⟨b, off, ha, Nat.lt_of_lt_of_le hb ho.size, fun i hi => (ho.cell b _ hb (h2 b off ha)).trans (hc i hi)⟩
theorem LsN.alloc {B : Nat} {w : World} {a : Option Addr} {zs : List Int} (h : LsN B w a zs) (o : Obj) : LsN B (w.alloc o) a zs := ⟨h.1.alloc o, h.2⟩
theorem LsN.drew {B : Nat} {w : World} {a : Option Addr} {zs : List Int} (h : LsN B w a zs) : LsN B w.drew a zs := h
theorem OwnI.lsn {B : Nat} {w : World} {base : Nat} {v : Value} {zs : List Int} (h : OwnI w base v zs) (hB : B < base) : ∃ a c, v = .slice a zs.length c ∧ zs.length ≤ c ∧ LsN B w a zs := by
  by_cases h0 : zs = []
  · subst h0
    rcases id h.2 with ⟨rfl, h0⟩ | ⟨g, cap, cur, rfl, _, hc, _⟩
    · exact ⟨none, 0, rfl, by simp, .inl rfl, .inl rfl⟩
    · exact ⟨_, _, rfl, by omega, .inl rfl, .inl rfl⟩
  · obtain ⟨g, cap, hv, hb, hl⟩ := h.form (List.length_pos_iff.2 h0)
    subst hv
    refine ⟨_, _, rfl, ?_, (Ls.own h).2, .inr fun b o e => ?_⟩
    · rcases id h.2 with ⟨hn, _⟩ | ⟨g', cap', cur, hn, _, hc, _⟩
      · cases hn
      · injection hn with _ _ hn; subst hn; omega
    · injection e with e; injection e with e; omega
theorem mem4 {j : Int} (h : j ∈ ([-1, 0, 19999, 20000] : List Int)) : -1 ≤ j ∧ j ≤ 20000 := by simp at h; omega
theorem newCellAnyD {w w' : World} (l : List Int) {T B : Nat} (ho : Only B (w.alloc (.cells (l.map (Value.int .i64)).toArray T)).drew w') (hB : B < w.heap.size) (t : Int) (h0 : 0 ≤ t) (h1 : t < l.length) :
    ∃ u : Int, u ∈ l ∧ w'.cell? ⟨w.heap.size, t.toNat, none⟩ = some (.int .i64 u) := newCellAny l (w := w) (T := T) (⟨ho.os, ho.tape, ho.output, ho.size, ho.block⟩ : Only B (w.alloc (.cells (l.map (Value.int .i64)).toArray T)) w') hB t h0 h1
theorem pick4 {i j : Int} (h0 : 0 ≤ i) (h1 : i < 4) (h : #[Value.int .i64 (-1), .int .i64 0, .int .i64 19999, .int .i64 20000][i.toNat]? = some (.int .i64 j)) : -1 ≤ j ∧ j ≤ 20000 := by
  have : i = 0 ∨ i = 1 ∨ i = 2 ∨ i = 3 := by omega
  rcases this with rfl | rfl | rfl | rfl
  all_goals
    simp at h
    omega
theorem res4 {fn : Func} {t u v x : Tmp} (h : fn.results = #[.tmp t, .tmp u, .tmp v, .tmp x]) (tmps : Array Value) (P : Program) (w : World) :
    (results fn tmps).run P w = .ok (.tuple #[tmps.getD t undef, tmps.getD u undef, tmps.getD v undef, tmps.getD x undef]) w := by
  simp [results, h]
/-- A drawn series. -/
def DrewSq (w : World) (e : Ending) (w' : World) : Prop :=
  ∃ (a : Option Addr) (c : Nat) (zs : List Int), e = .returned (.slice a zs.length c) ∧ zs.length ≤ 13 ∧ zs.length ≤ c ∧ Btw (-10000) 12000 zs ∧ Ls w' a zs ∧ Keep w w'
theorem OwnI.lsc {w : World} {base : Nat} {v : Value} {zs : List Int} (h : OwnI w base v zs) : ∃ a c, v = .slice a zs.length c ∧ zs.length ≤ c ∧ Ls w a zs := by
  rcases id h.2 with ⟨rfl, h0⟩ | ⟨g, cap, cur, rfl, _, hc, _⟩
  · refine ⟨none, 0, by rw [h0], by omega, .inl (List.eq_nil_of_length_eq_zero h0)⟩
  · exact ⟨_, _, rfl, by omega, (Ls.own h).2⟩
end Go.Proofs.Ytehjjoalnfpgdaa
