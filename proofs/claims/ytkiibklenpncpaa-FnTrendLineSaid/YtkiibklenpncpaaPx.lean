/- The program's tree of values: a value put in. -/
import Derived.Test.YtkiibklenpncpaaPu
import Derived.Deep.LoopGhost
import Derived.Deep.QuietTactic
import Derived.BigQuiet
import Derived.LoopTactic
import Derived.IntWalk
namespace Go.Proofs.Ytkiibklenpncpaa
open Go.RowKit
set_option linter.unusedVariables false

theorem quietP {P : Program} {f : FuncId} {args : Array Value} {w : World} {n : Nat} {v : Value}
    (h : Calls P f args (w.drewN n) fun e w' => e = .returned v ∧ w.drewN n = w') : Calls P f args (w.drewN n) fun e w'' => e = .returned v ∧ ∃ m, w'' = w.drewN m :=
  h.mono fun _ _ ⟨he, hm⟩ => ⟨he, n, hm.symm⟩
theorem wrap_sub (m k : Nat) (h : k ≤ m) (hm : m ≤ 100) : IntKind.i64.wrap ((m : Int) - (k : Int)) = ((m - k : Nat) : Int) := by
  rw [show (m : Int) - (k : Int) = ((m - k : Nat) : Int) by omega]; exact IntWalk.i64_in _ ⟨by omega, by omega⟩
theorem wrap_add (m k : Nat) (h : m + k ≤ 1000) : IntKind.i64.wrap ((m : Int) + (k : Int)) = ((m + k : Nat) : Int) := by
  rw [show (m : Int) + (k : Int) = ((m + k : Nat) : Int) by omega]; exact IntWalk.i64_in _ ⟨by omega, by omega⟩
set_option maxHeartbeats 1000000 in
theorem tsz_any (t : Tr) (pl : Addr) (w : World) (h : Has w pl t) :
    Calls Try.prog 138 #[.pointer t.rt] w fun e w' => e = .returned (.int .i64 (t.sz : Int)) ∧ w = w' := by
  cases t with
  | leaf =>
    show Calls Try.prog 138 #[.pointer none] w fun e w' => e = .returned (.int .i64 0) ∧ w = w'
    go_enter Try.func138, Try.ntmps138
    go_wp2
    go_ret
    exact ⟨rfl, rfl⟩
  | node g v m l r =>
    obtain ⟨_, ⟨c0, c1, _⟩, _, _⟩ := h
    show Calls Try.prog 138 #[.pointer (some ⟨g, 0, none⟩)] w fun e w' => e = .returned (.int .i64 (m : Int)) ∧ w = w'
    go_enter Try.func138, Try.ntmps138
    go_wp2
    go_ret
    exact ⟨rfl, rfl⟩
/-- What putting a value in answers and leaves. -/
def AdT (R : Nat) (T : Tr) (L : List Int) (x : Int) (w : World) (e : Ending) (w' : World) : Prop :=
  ∃ T', e = .returned (.tuple #[.int .i64 (cLt L x : Int), .int .i64 (cGt L x : Int)]) ∧ Has w' ⟨R, 0, none⟩ T' ∧ Apart ⟨R, 0, none⟩ [] T' ∧ T'.WF (L ++ [x]) ∧ (∀ b ∈ T'.bl, b ∈ T.bl ∨ w.heap.size ≤ b) ∧ Off (R :: T.bl) w w'
set_option maxRecDepth 100000 in
set_option maxHeartbeats 4000000 in
theorem add_any (R : Nat) (T : Tr) (L : List Int) (x : Int) (w : World) (h : Has w ⟨R, 0, none⟩ T) (ha : Apart ⟨R, 0, none⟩ [] T) (hw : T.WF L) (hl : L.length ≤ 12) :
    Calls Try.prog 113 #[.pointer (some ⟨R, 0, none⟩), .int .i64 x] w (AdT R T L x w) := by
  have HT := Lib.hid (show T.lt x = cLt L x ∧ T.gt x = cGt L x ∧ (∀ g0, (T.ins x g0).WF (L ++ [x])) from ⟨hw.lt_eq, hw.gt_eq, fun _ => hw.ins⟩)
  have HA := Lib.hid (fun g0 (h0 : g0 ∉ R :: T.bl) => (show Apart ⟨R, 0, none⟩ [] (T.ins x g0) by
    unfold Apart at *
    simp only [blC, List.nil_append, List.nodup_cons, List.mem_cons, not_or] at *
    refine ⟨fun hh => ?_, Tr.nodup_ins ha.2 h0.2⟩
    rcases Tr.bl_ins hh with hh | hh
    · exact ha.1 hh
    · exact h0.1 hh.symm))
  have hR := World.block_lt_of_cell? w _ h.cell.1
  have HLT := Lib.hid h.lt
  have HB : Hid (∀ y : Nat, y ≤ 12 → (cLt L x : Int) ≤ 12 ∧ (cGt L x : Int) ≤ 12) := Lib.hid (fun y _ => by
    have h1 : cLt L x ≤ L.length := List.countP_le_length
    have h2 : cGt L x ≤ L.length := List.countP_le_length
    omega)
  have H0 := Lib.hid h
  have HA0 := Lib.hid ha
  have HW0 := Lib.hid hw
  clear h ha hw
  go_enter Try.func113, Try.ntmps113
  go_wp2_with fail
  go_loopg [4, 5, 6] T.bl.length (fun gk le gr pl wr => ∃ (c : List Fr) (t : Tr) (pb po a b : Nat) (L' : List Int), le = .int .i64 (a : Int) ∧ gr = .int .i64 (b : Int) ∧ pl = .pointer (some ⟨pb, po, none⟩) ∧ Hid (HasC wr ⟨R, 0, none⟩ c ⟨pb, po, none⟩) ∧ Hid (Has wr ⟨pb, po, none⟩ t) ∧ Hid (Apart ⟨R, 0, none⟩ c t) ∧ Hid (Way T x c t a b) ∧ Hid (t.WF L' ∧ L'.length ≤ 12) ∧ a ≤ 12 ∧ b ≤ 12 ∧ Hid (wr.heap.size = w.heap.size) ∧ Hid (Off (R :: T.bl) w wr) ∧ Hid (t.bl.length ≤ gk))
  case atStart => exact ⟨[], T, R, 0, 0, 0, L, rfl, rfl, rfl, Lib.hid rfl, H0, HA0, Lib.hid (Way.start T x), Lib.hid ⟨HW0.out, hl⟩, by omega, by omega, Lib.hid rfl, Lib.hid (Off.refl _ _), Lib.hid (Nat.le_refl _)⟩
  case round =>
    obtain ⟨c, t, pb, po, a, b, L', rfl, rfl, rfl, HC, HH, HAp, HWy, HWf, ha12, hb12, HSz, HOff, HM⟩ := hrel
    clear H0 HA0 HW0
    cases t with
    | leaf =>
      obtain ⟨c0, f0⟩ := HH.out
      have hRw : R < wr.heap.size := by rw [HSz.out]; exact hR
      have HN := Lib.hid (Has.new rfl HC.out HH.out HAp.out hRw HC.out.lt x 173 _ rfl)
      have hpb : pb < wr.heap.size := World.block_lt_of_cell? wr _ c0
      have HY := Lib.hid (HWy.out.new wr.heap.size)
      have HPb : Hid (pb ∈ R :: T.bl) := Lib.hid (by
        rcases HC.out.block with h | h
        · exact List.mem_cons.2 (.inl h)
        · exact List.mem_cons_of_mem _ (HWy.out.bl _ (.inl h)))
      have c0' : (wr.alloc (.cells #[.int .i64 x, .int .i64 0, .pointer none, .pointer none] 173)).cell? ⟨pb, po, none⟩ = some (.pointer none) := (World.cell?_alloc_lt wr _ ⟨pb, po, none⟩ hpb).trans c0
      have f0' : (wr.alloc (.cells #[.int .i64 x, .int .i64 0, .pointer none, .pointer none] 173)).frozen? ⟨pb, po, none⟩ = false := (World.frozen?_alloc_old wr _ ⟨pb, po, none⟩ (by show pb ≠ wr.heap.size; omega)).trans f0
      have hne : pb ≠ wr.heap.size := by omega
      have hne2 : wr.heap.size ≠ pb := by omega
      clear HC HH HAp HWf HM
      go_wp2_with fail
      have hWE : ((wr.alloc (.cells #[.int .i64 x, .int .i64 0, .pointer none, .pointer none] 173)).setCell ⟨pb, po, none⟩ (.pointer (some ⟨wr.heap.size, 0, none⟩))).setCell ⟨wr.heap.size, 1, none⟩ (.int .i64 1) = (wr.setCell ⟨pb, po, none⟩ (.pointer (some ⟨wr.heap.size, 0, none⟩))).alloc (.cells #[.int .i64 x, .int .i64 1, .pointer none, .pointer none] 173) := by go_simp
      have hN := HN.out
      rw [hWE] at hN
      have HOf : Off (R :: T.bl) w ((wr.setCell ⟨pb, po, none⟩ (.pointer (some ⟨wr.heap.size, 0, none⟩))).alloc (.cells #[.int .i64 x, .int .i64 1, .pointer none, .pointer none] 173)) := HOff.out.trans ((Off.put wr (.inl HPb.out) po _).trans (Off.alloc _ _ _))
      obtain ⟨hNC, hNH⟩ := hN
      have ea : a = cLt L x := HY.out.2.1.trans HT.out.1
      have eb : b = cGt L x := HY.out.2.2.trans HT.out.2.1
      have HP : plug c (.node wr.heap.size x 1 .leaf .leaf) = T.ins x w.heap.size := by rw [HY.out.1, HSz.out]
      clear hWE HN c0' f0' c0 f0
      generalize (wr.setCell ⟨pb, po, none⟩ (.pointer (some ⟨wr.heap.size, 0, none⟩))).alloc (.cells #[.int .i64 x, .int .i64 1, .pointer none, .pointer none] 173) = w5 at *
      have d2 : w5.cell? ⟨wr.heap.size, 2, none⟩ = some (.pointer none) := hNH.2.2.1.1
      have d3 : w5.cell? ⟨wr.heap.size, 3, none⟩ = some (.pointer none) := hNH.2.2.2.1
      have HSl : Hid (∀ n, Calls Try.prog 138 #[.pointer none] (w5.drewN n) fun e w' => e = .returned (.int .i64 0) ∧ w5.drewN n = w') := Lib.hid (fun n => tsz_any .leaf ⟨wr.heap.size, 2, none⟩ (w5.drewN n) (hNH.2.2.1.drewN n))
      go_quiet ((go_at_call 138; exact quietP (HSl.out _)))
      go_wp2
      go_ret2
      refine ⟨T.ins x w.heap.size, ?_, ?_, HA.out _ ?_, HT.out.2.2 _, ?_, HOf.trans (Off.drewN _ _ _)⟩
      · rw [← ea, ← eb]; first | rfl | simp
      · rw [← HP]; exact (hNC.plug hNH).drewN _
      · intro hm
        rcases List.mem_cons.1 hm with h | h
        · omega
        · have := HLT.out _ h; omega
      · intro b' hb'
        rcases Tr.bl_ins hb' with h | h
        · exact .inl h
        · right; omega
    | node g v m l r =>
      obtain ⟨⟨c0, f0⟩, ⟨c1, c2, f2⟩, hl1, hr1⟩ := HH.out
      have hm12 : m ≤ 12 := by have := HWf.out; have h2 := this.1.kids; omega
      have hls : l.sz ≤ 12 ∧ r.sz ≤ 12 ∧ l.sz ≤ m ∧ r.sz ≤ m := by have := HWf.out; have h2 := this.1.kids; omega
      have HG : Hid (g ∈ T.bl) := Lib.hid (HWy.out.bl g (.inr (by simp [Tr.bl])))
      have hcl := HB.out 0 (by omega)
      have hT1 := HT.out.1
      have hT2 := HT.out.2.1
      by_cases hx : v = x
      · subst hx
        have HN := Lib.hid (Has.count rfl HC.out HH.out HAp.out (m + 1))
        have HY := Lib.hid (HWy.out.found wr.heap.size)
        have cl := hl1.cell.1
        have cr := hr1.cell.1
        clear HC HH HAp HWf HM
        go_wp2_with fail
        have em : ((m + 1 : Nat) : Int) = (m : Int) + 1 := rfl
        have hN := HN.out
        rw [em] at hN
        obtain ⟨hNC, hNH⟩ := hN
        have HOf : Off (R :: T.bl) w (wr.setCell ⟨g, 1, none⟩ (.int .i64 ((m : Int) + 1))) := HOff.out.trans (Off.put wr (.inl (List.mem_cons_of_mem _ HG.out)) 1 _)
        have hf := HWy.out.found w.heap.size
        have ea : a + l.sz = cLt L v := hf.2.1.trans hT1
        have eb : b + r.sz = cGt L v := hf.2.2.trans hT2
        have HP := hf.1
        clear HN c0 f0 c1 c2 f2 cl cr HY
        generalize wr.setCell ⟨g, 1, none⟩ (.int .i64 ((m : Int) + 1)) = w5 at *
        have d2 : w5.cell? ⟨g, 2, none⟩ = some (.pointer l.rt) := hNH.2.2.1.cell.1
        have d3 : w5.cell? ⟨g, 3, none⟩ = some (.pointer r.rt) := hNH.2.2.2.cell.1
        have HSl := Lib.hid (fun n => tsz_any l ⟨g, 2, none⟩ (w5.drewN n) (hNH.2.2.1.drewN n))
        have HSr := Lib.hid (fun n => tsz_any r ⟨g, 3, none⟩ (w5.drewN n) (hNH.2.2.2.drewN n))
        have w1 := wrap_add a l.sz (by omega)
        have w2 := wrap_add b r.sz (by omega)
        go_quiet ((go_at_call 138; first | exact quietP (HSl.out _) | exact quietP (HSr.out _)))
        go_wp2
        go_ret2
        refine ⟨T.ins v w.heap.size, ?_, ?_, HA.out _ ?_, HT.out.2.2 _, ?_, HOf.trans (Off.drewN _ _ _)⟩
        · rw [← ea, ← eb]; first | rfl | simp
        · rw [← HP]; exact (hNC.plug hNH).drewN _
        · intro hm
          rcases List.mem_cons.1 hm with h | h
          · omega
          · have := HLT.out _ h; omega
        · intro b' hb'
          rcases Tr.bl_ins hb' with h | h
          · exact .inl h
          · right; omega
      · by_cases hgt : v < x
        · have e1 : (v != x) = true := by simpa using hx
          have e2 : decide (v < x) = true := decide_eq_true hgt
          have HSz1 := Lib.hid (fun n => tsz_any r ⟨g, 3, none⟩ (wr.drewN n) (hr1.drewN n))
          have cr := hr1.cell.1
          have HWy2 := Lib.hid (HWy.out.greater hgt)
          have hab := HWy2.out.lt
          have w1 := wrap_sub m r.sz hls.2.2.2 (by omega)
          have w2 := wrap_add a (m - r.sz) (by omega)
          go_wp2_with fail
          go_quiet ((go_at_call 138; exact quietP (HSz1.out _)))
          have em : ((m + 1 : Nat) : Int) = (m : Int) + 1 := rfl
          have hN := Has.count (w := wr.drewN nq) rfl (HC.out.drewN nq rfl) (HH.out.drewN nq) HAp.out (m + 1)
          rw [em] at hN
          have c2' : (wr.drewN nq).cell? ⟨g, 1, none⟩ = some (.int .i64 (m : Int)) := c2
          have f2' : (wr.drewN nq).frozen? ⟨g, 1, none⟩ = false := f2
          have HSz' : (wr.drewN nq).heap.size = w.heap.size := HSz.out
          have HOf : Off (R :: T.bl) w ((wr.drewN nq).setCell ⟨g, 1, none⟩ (.int .i64 ((m : Int) + 1))) := (HOff.out.trans (Off.drewN _ wr nq)).trans (Off.put _ (.inl (List.mem_cons_of_mem _ HG.out)) 1 _)
          have HAp2 := Lib.hid (HAp.out.down (m' := m + 1)).1
          have HWf2 : Hid (r.WF (L'.filter fun y => decide (v < y)) ∧ (L'.filter fun y => decide (v < y)).length ≤ 12) := Lib.hid ⟨HWf.out.1.2.2, Nat.le_trans (List.length_filter_le _ _) HWf.out.2⟩
          have hM := HM.out
          generalize wr.drewN nq = wq at *
          go_wp2
          go_roundg r.bl.length
          case measure => simp [Tr.bl] at hM; omega
          case rel =>
            exact ⟨_, r, g, 3, a + (m - r.sz), b, _, by first | rfl | go_num | simp, by first | rfl | go_num | simp, rfl, Lib.hid (Has.greater hN.1 hN.2).1, Lib.hid (Has.greater hN.1 hN.2).2, HAp2, HWy2, HWf2, by omega, by omega, Lib.hid (by simpa [World.setCell] using HSz'), Lib.hid HOf, Lib.hid (Nat.le_refl _)⟩
        · have hlt : x < v := by omega
          have e1 : (v != x) = true := by simpa using hx
          have e2 : decide (v < x) = false := decide_eq_false hgt
          have HSz1 := Lib.hid (fun n => tsz_any l ⟨g, 2, none⟩ (wr.drewN n) (hl1.drewN n))
          have cr := hl1.cell.1
          have HWy2 := Lib.hid (HWy.out.less hlt)
          have hab := HWy2.out.gt
          have w1 := wrap_sub m l.sz hls.2.2.1 (by omega)
          have w2 := wrap_add b (m - l.sz) (by omega)
          go_wp2_with fail
          go_quiet ((go_at_call 138; exact quietP (HSz1.out _)))
          have em : ((m + 1 : Nat) : Int) = (m : Int) + 1 := rfl
          have hN := Has.count (w := wr.drewN nq) rfl (HC.out.drewN nq rfl) (HH.out.drewN nq) HAp.out (m + 1)
          rw [em] at hN
          have c2' : (wr.drewN nq).cell? ⟨g, 1, none⟩ = some (.int .i64 (m : Int)) := c2
          have f2' : (wr.drewN nq).frozen? ⟨g, 1, none⟩ = false := f2
          have HSz' : (wr.drewN nq).heap.size = w.heap.size := HSz.out
          have HOf : Off (R :: T.bl) w ((wr.drewN nq).setCell ⟨g, 1, none⟩ (.int .i64 ((m : Int) + 1))) := (HOff.out.trans (Off.drewN _ wr nq)).trans (Off.put _ (.inl (List.mem_cons_of_mem _ HG.out)) 1 _)
          have HAp2 := Lib.hid (HAp.out.down (m' := m + 1)).2
          have HWf2 : Hid (l.WF (L'.filter fun y => decide (y < v)) ∧ (L'.filter fun y => decide (y < v)).length ≤ 12) := Lib.hid ⟨HWf.out.1.2.1, Nat.le_trans (List.length_filter_le _ _) HWf.out.2⟩
          have hM := HM.out
          generalize wr.drewN nq = wq at *
          go_wp2
          go_roundg l.bl.length
          case measure => simp [Tr.bl] at hM; omega
          case rel =>
            exact ⟨_, l, g, 2, a, b + (m - l.sz), _, by first | rfl | go_num | simp, by first | rfl | go_num | simp, rfl, Lib.hid (Has.less hN.1 hN.2).1, Lib.hid (Has.less hN.1 hN.2).2, HAp2, HWy2, HWf2, by omega, by omega, Lib.hid (by simpa [World.setCell] using HSz'), Lib.hid HOf, Lib.hid (Nat.le_refl _)⟩
end Go.Proofs.Ytkiibklenpncpaa
