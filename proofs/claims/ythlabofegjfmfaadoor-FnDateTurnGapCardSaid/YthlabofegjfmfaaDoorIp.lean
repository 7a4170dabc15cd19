/- DayOf of the program. -/
import Derived.Test.YthlabofegjfmfaaDoorIt
import Derived.Test.YthlabofegjfmfaaDoorCs
namespace Go.Proofs.YthlabofegjfmfaaDoor
open Go.RowKit Go.Shelf
set_option linter.unusedVariables false
attribute [local go_sem] Oper.semAt_some

theorem starts_fn (y c : Int) (w : World) :
    Calls Tryd.prog 33 #[.int .i64 y, .int .i64 c] w fun e w' => e = .returned (.func (.func 51) #[] #[.pointer (some ⟨w.heap.size, 0, none⟩), .pointer (some ⟨w.heap.size + 1, 0, none⟩)]) ∧ w' = (w.alloc (.cells #[.int .i64 y] 3)).alloc (.cells #[.int .i64 c] 3) := by
  go_enter Tryd.func33, Tryd.ntmps33
  go_wp2
  go_ret
  exact ⟨rfl, rfl⟩
theorem starts_stops (y c : Int) (n : Nat) (hn : 2 ≤ n) (hc : cOne c = true) (hy : yOk y = true) (By Bc Bd : Nat) (h1 : By ≠ Bd) (h2 : Bc ≠ Bd) (h0 : 0 ≠ Bd) (w : World) (hBd : Bd < w.heap.size) (hBy : By < w.heap.size) (hBc : Bc < w.heap.size)
    (hR : Reads y c By Bc w) :
    SeqStopsK Fence.wide n Tryd.prog 51 #[.pointer (some ⟨By, 0, none⟩), .pointer (some ⟨Bc, 0, none⟩)] (encs y c) (Kc Bd) (fun xs => xs = List.range 12) (fun pre => ∃ k, k < 12 ∧ pre = List.range (k + 1)) 12 w := fun l J Jx W hW hJ _ hY h0' =>
  starts_in y c n hn hc hy l By Bc Bd h1 h2 h0 J Jx W (Nat.lt_of_lt_of_le hBd hW.size) hJ hY ⟨(hW.cell (p := ⟨By, 0, none⟩) hBy).trans hR.y, (hW.cell (p := ⟨Bc, 0, none⟩) hBc).trans hR.c, hR.tab.keep hW⟩ h0'
/-- The day that has been reckoned when so many months have come. -/
def vday (y d c : Int) (pre : List Nat) : Int := match pre.getLast? with | none => 0 | some i => ys y c + cum y (mm i) c + d - 1
theorem vday_nil (y d c : Int) : vday y d c [] = 0 := rfl
theorem vday_snoc (y d c : Int) (pre : List Nat) (x : Nat) : vday y d c (pre ++ [x]) = ys y c + cum y (mm x) c + d - 1 := by simp [vday]
theorem range_snoc {k x : Nat} {init : List Nat} (h : List.range (k + 1) = init ++ [x]) : init = List.range k ∧ x = k := by
  rw [List.range_succ] at h
  obtain ⟨h1, h2⟩ := List.append_inj' h rfl
  exact ⟨h1.symm, by simpa using h2.symm⟩
theorem ownFrom_size {β : Type} (B N : Nat) : OwnFrom B (fun (_ : β) (W : World) => N ≤ W.heap.size) := fun _ _ _ _ hs hg _ => Nat.le_trans hs hg.size
def DayI (w : World) (g N : Nat) (y m d c : Int) (pre : List Nat) (W : World) : Prop :=
  (W.cell? ⟨g, 0, none⟩ = some (.int .i64 (vday y d c pre)) ∧ W.frozen? ⟨g, 0, none⟩ = false ∧ W.cell? ⟨w.heap.size, 1, none⟩ = some (.int .i64 m) ∧ W.cell? ⟨w.heap.size, 2, none⟩ = some (.int .i64 d)) ∧
  ((∀ x ∈ pre, mm x ≤ m) ∧ (N ≤ W.heap.size ∧ Below w.heap.size w W))
def DayX (w : World) (g : Nat) (y m d c : Int) (cc : Code) (pre : List Nat) (W : World) : Prop :=
  (∃ (init : List Nat) (x : Nat), (cc = .exit 0 ∧ pre = init ++ [x] ∧ (∀ z ∈ init, mm z ≤ m) ∧ m < mm x) ∧ W.cell? ⟨g, 0, none⟩ = some (.int .i64 (vday y d c init))) ∧ Below w.heap.size w W
theorem dayI_own {w : World} {g N B : Nat} {y m d c : Int} (hB : w.heap.size ≤ B) : OwnFrom B (DayI w g N y m d c) :=
  OwnFrom.and (Own.from (fun s X Y row hs hg hr => ⟨cell_kept hs.1 hg hr, (frozen_kept hs.1 hg hr).trans hs.2.1, cell_kept hs.2.2.1 hg hr, cell_kept hs.2.2.2 hg hr⟩) _) (OwnFrom.and (ownFrom_pure _ _) (OwnFrom.and (ownFrom_size _ _) (ownFrom_below (Nat.le_refl _) hB)))
theorem dayX_own {w : World} {g B : Nat} {y m d c : Int} (hB : w.heap.size ≤ B) (cc : Code) : OwnFrom B (DayX w g y m d c cc) :=
  OwnFrom.and (Own.from (fun s X Y row hs hg hr => by obtain ⟨init, x, hp, hcell⟩ := hs; exact ⟨init, x, hp, cell_kept hcell hg hr⟩) _) (ownFrom_below (Nat.le_refl _) hB)
theorem dayI_end {w W : World} {g N : Nat} {y m d c : Int} (h1 : 1 ≤ m) (h2 : m ≤ 12) (h : DayI w g N y m d c (List.range 12) W) : W.cell? ⟨g, 0, none⟩ = some (.int .i64 (dn y m d c)) := by
  have hm : mm 11 ≤ m := h.2.1 11 (by simp)
  have e : m = 12 := by have : mm 11 = 12 := rfl; omega
  have := h.1.1
  rw [List.range_succ, vday_snoc, show mm 11 = 12 from rfl] at this
  rw [this, e]; rfl
theorem dayX_end {w W : World} {g : Nat} {y m d c : Int} {cc : Code} {k : Nat} (hk : k < 12) (h1 : 1 ≤ m) (h2 : m ≤ 12) (h : DayX w g y m d c cc (List.range (k + 1)) W) : cc = .exit 0 ∧ W.cell? ⟨g, 0, none⟩ = some (.int .i64 (dn y m d c)) := by
  obtain ⟨⟨init, x, ⟨hcc, hp, hz, hx⟩, hc⟩, _⟩ := h
  obtain ⟨rfl, rfl⟩ := range_snoc hp
  refine ⟨hcc, ?_⟩
  rw [mm_lt hk] at hx
  match x, hk with
  | 0, _ => omega
  | j + 1, hk =>
    have hj := hz j (by simp)
    rw [mm_lt (by omega)] at hj
    rw [List.range_succ, vday_snoc, mm_lt (by omega), show ((j : Int) + 1) = m by omega] at hc
    exact hc

set_option maxRecDepth 100000 in
set_option maxHeartbeats 4000000 in
theorem dayof_impl_yes (y m d c : Int) (w : World) (T : Tabs w) (h : dv y m d c = true) :
    Calls Tryd.prog 17 #[.agg #[.int .i64 y, .int .i64 m, .int .i64 d], .int .i64 c] w fun e w' => e = .returned (.tuple #[.int .i64 (dn y m d c), .bool true]) ∧ Keep w w' := by
  obtain ⟨hc, y1, y2, m1, m2, d1, d2⟩ := dv_facts h
  have hy : yOk y = true := by simp [yOk, inB]; omega
  obtain ⟨b1, b2⟩ := ys_bd y c y1 (by omega)
  have d3 : d ≤ 31 := by have := mlen_bd y m c m1 m2; omega
  have HC := Lib.hid hc
  have HY := Lib.hid hy
  clear hc hy d2
  refine (callsIn_wide (n := 6)).1 ?_
  refine callsIn_of_wp_marks Tryd.func17 rfl trivial ?_ rfl
  simp only [Tryd.ntmps17, List.size_toArray, List.length_cons, List.length_nil, Nat.reduceAdd, Nat.reduceSub, Array.replicate_succ, Array.replicate_zero, List.push_toArray, List.append_toArray, List.nil_append, List.cons_append]
  gi_wp2_with fail
  refine ⟨trivial, (callsIn_wide.2 (dv_impl y m d c _ (T.keep ((Keep.refl w).alloc _)))).mono ?_⟩
  rintro e w1 ⟨rfl, k1⟩
  have c0 : w1.cell? ⟨w.heap.size, 0, none⟩ = some (.int .i64 y) := k1.new 0 rfl
  have c1 : w1.cell? ⟨w.heap.size, 1, none⟩ = some (.int .i64 m) := k1.new 1 rfl
  have c2 : w1.cell? ⟨w.heap.size, 2, none⟩ = some (.int .i64 d) := k1.new 2 rfl
  have zz : w.heap.size < w1.heap.size := World.block_lt_of_cell? w1 _ c0
  gi_wp2_with fail
  refine ⟨trivial, (callsIn_wide.2 (starts_fn y c _)).mono ?_⟩
  rintro e w2 ⟨rfl, rfl⟩
  gi_wp2_with fail
  have kw1 : Keep w w1 := ((Keep.refl w).alloc _).trans k1
  have q0 : (((w1.alloc (.cells #[.int .i64 0] 3)).alloc (.cells #[.int .i64 y] 3)).alloc (.cells #[.int .i64 c] 3)).cell? ⟨w1.heap.size, 0, none⟩ = some (.int .i64 0) := by go_simp
  have qf : (((w1.alloc (.cells #[.int .i64 0] 3)).alloc (.cells #[.int .i64 y] 3)).alloc (.cells #[.int .i64 c] 3)).frozen? ⟨w1.heap.size, 0, none⟩ = false := by go_simp
  have q1 : (((w1.alloc (.cells #[.int .i64 0] 3)).alloc (.cells #[.int .i64 y] 3)).alloc (.cells #[.int .i64 c] 3)).cell? ⟨w.heap.size, 1, none⟩ = some (.int .i64 m) := ((((Keep.refl w1).alloc _).alloc _).alloc _).cell c1
  have q2 : (((w1.alloc (.cells #[.int .i64 0] 3)).alloc (.cells #[.int .i64 y] 3)).alloc (.cells #[.int .i64 c] 3)).cell? ⟨w.heap.size, 2, none⟩ = some (.int .i64 d) := ((((Keep.refl w1).alloc _).alloc _).alloc _).cell c2
  have kw : Keep w (((w1.alloc (.cells #[.int .i64 0] 3)).alloc (.cells #[.int .i64 y] 3)).alloc (.cells #[.int .i64 c] 3)) := ((kw1.alloc _).alloc _).alloc _
  have hR : Reads y c (w1.heap.size + 1) (w1.heap.size + 1 + 1) (((w1.alloc (.cells #[.int .i64 0] 3)).alloc (.cells #[.int .i64 y] 3)).alloc (.cells #[.int .i64 c] 3)) := ⟨by go_simp, by go_simp, T.keep kw⟩
  have hsz : (((w1.alloc (.cells #[.int .i64 0] 3)).alloc (.cells #[.int .i64 y] 3)).alloc (.cells #[.int .i64 c] 3)).heap.size = w1.heap.size + 1 + 1 + 1 := by simp
  have t0 : 0 ≠ w1.heap.size := by have := World.block_lt_of_cell? w _ (T 0 (by decide)); simp at this; omega
  generalize (((w1.alloc (.cells #[.int .i64 0] 3)).alloc (.cells #[.int .i64 y] 3)).alloc (.cells #[.int .i64 c] 3)) = W0 at *
  generalize w1.heap.size = g at *
  clear c0 c1 c2 k1 kw1
  have hle : w.heap.size ≤ W0.heap.size := by omega
  refine wpIn_rangeFunc_ownH rfl (by omega) (gf := 51) (lb := #[.pointer (some ⟨g + 1, 0, none⟩), .pointer (some ⟨g + 1 + 1, 0, none⟩)]) rfl trivial (enters_of Tryd.func51 (by kernel_rfl) rfl)
    (starts_stops y c 5 (by omega) HC.out HY.out (g + 1) (g + 1 + 1) g (by omega) (by omega) t0 W0 (by omega) (by omega) (by omega) hR) Kc.trans (fun W l o o' _ hl hcl _ => Kc.put g W l o o' hl hcl) (Below.refl _ _) (fun _ => rfl)
    (DayI w g W0.heap.size y m d c) (DayX w g y m d c) (dayI_own hle) (dayX_own hle)
    ⟨⟨q0, qf, q1, q2⟩, by simp, Nat.le_refl _, kw⟩
    (fun x a' W => ∃ Bx, W0.heap.size ≤ Bx ∧ (W.cell? ⟨Bx, 1, none⟩ = some (.int .i64 (mm x)) ∧ W.cell? ⟨Bx, 2, none⟩ = some (.int .i64 1)) ∧ a' = { tmps := #[.agg #[.int .i64 y, .int .i64 m, .int .i64 d], .int .i64 c, .pointer (some ⟨w.heap.size, 0, none⟩), undef, .int .i64 0, .bool false, .pointer (some ⟨g, 0, none⟩), .pointer (some ⟨Bx, 0, none⟩), .int .i64 (ys y c + cum y (mm x) c), .agg #[.int .i64 y, .int .i64 m, .int .i64 d], .int .i64 c, .bool true, .bool false, .pointer (some ⟨w.heap.size, 0, none⟩), .int .i64 y, .int .i64 c, .func (.func 51) #[] #[.pointer (some ⟨g + 1, 0, none⟩), .pointer (some ⟨g + 1 + 1, 0, none⟩)], .agg #[.int .i64 y, .int .i64 (mm x), .int .i64 1], .int .i64 (ys y c + cum y (mm x) c), undef, undef, undef, undef, undef, undef, undef, undef, undef, undef, undef, undef, undef], defers := [] })
    (fun x a' => fun _ X Y row hs hg hr => by obtain ⟨Bx, h1, h2, h3⟩ := hs; exact ⟨Bx, h1, ⟨cell_kept h2.1 hg (fun r e => (hr r e).2), cell_kept h2.2 hg (fun r e => (hr r e).2)⟩, h3⟩) ?assign ?body ?done ?stop
  case assign =>
    rintro l pre x W K ⟨⟨i0, i1, i2, i3⟩, i4, i5, i6⟩ hK
    simp only [encs]
    gi_wp2
    exact hK _ _ ((KeepsOthers.alloc _ _).from _) (Kc.alloc _ _ _) ⟨⟨((Keep.refl W).alloc _).cell i0, ((Keep.refl W).alloc _).still i0 i1, ((Keep.refl W).alloc _).cell i2, ((Keep.refl W).alloc _).cell i3⟩, i4, by simp; omega, Keep.alloc i6 _⟩ ⟨W.heap.size, i5, ⟨by go_simp, by go_simp⟩, rfl⟩
  case body =>
    rintro l pre x a' W hl _ ⟨⟨i0, i1, i2, i3⟩, i4, i5, i6⟩ ⟨Bx, hBx, ⟨e1, e2⟩, rfl⟩ _
    have hx := mm_bd x
    obtain ⟨u1, u2⟩ := cum_bd y (mm x) c hx.1 (by omega)
    have I4 := Lib.hid i4
    have VS := Lib.hid (vday_snoc y d c pre x)
    clear i4
    by_cases hlt : mm x ≤ m
    · gi_wp2
      refine ⟨(KeepsOthers.setCell _ _ _).from _, Kc.setCell _ _ _ _, ⟨⟨?_, ?_, ?_, ?_⟩, ?_, ?_, ?_⟩⟩
      · rw [VS.out]; exact World.cell?_setCell_same' _ _ _ (by rw [i0]; rfl)
      · rw [World.frozen?_setCell]; exact i1
      · rw [World.cell?_setCell_other _ _ _ _ (by intro h; simp only [Addr.mk.injEq] at h; omega)]; exact i2
      · rw [World.cell?_setCell_other _ _ _ _ (by intro h; simp only [Addr.mk.injEq] at h; omega)]; exact i3
      · intro z hz; rcases List.mem_append.1 hz with h | h
        · exact I4.out z h
        · simp at h; rw [h]; exact hlt
      · simp [World.setCell]; exact i5
      · exact Keep.setCell i6 (by omega) _
    · gi_wp2
      exact ⟨(KeepsOthers.refl _).from _, ⟨pre, x, ⟨rfl, rfl, I4.out, by omega⟩, i0⟩, i6⟩
  case done =>
    rintro D xs W hD rfl hI hK
    have e0 := dayI_end m1 m2 hI
    have hB := hI.2.2.2
    clear hI
    gi_wp2
    refine ⟨by simp, .inl ⟨_, _, rfl, run_takeDeferred hK, ?_⟩⟩
    refine ⟨.tuple #[.int .i64 (dn y m d c), .bool true], ?_, rfl, hB.trans (belowK_b (w := w) (Nat.le_refl _) W D _ _ (by omega) hK rfl rfl)⟩
    simp [results, Tryd.f17, go_sem]
  case stop =>
    rintro D cc pre W hD ⟨k, hk, rfl⟩ hX hK
    obtain ⟨rfl, e0⟩ := dayX_end hk m1 m2 hX
    have hB := hX.2
    clear hX
    gi_wp2
    refine ⟨by simp, .inl ⟨_, _, rfl, run_takeDeferred hK, ?_⟩⟩
    refine ⟨.tuple #[.int .i64 (dn y m d c), .bool true], ?_, rfl, hB.trans (belowK_b (w := w) (Nat.le_refl _) W D _ _ (by omega) hK rfl rfl)⟩
    simp [results, Tryd.f17, go_sem]
theorem dayof_impl (y m d c : Int) (w : World) (T : Tabs w) :
    Calls Tryd.prog 17 #[.agg #[.int .i64 y, .int .i64 m, .int .i64 d], .int .i64 c] w fun e w' => e = .returned (.tuple #[.int .i64 (dOut y m d c), .bool (dv y m d c)]) ∧ Keep w w' := by
  rcases Bool.eq_false_or_eq_true (dv y m d c) with hv | hv
  · rw [dOut_yes hv, hv]; exact dayof_impl_yes y m d c w T hv
  · have E := Lib.hid (dOut_no hv)
    have HT := Lib.hid (T.keep ((Keep.refl w).alloc (.cells #[.int .i64 y, .int .i64 m, .int .i64 d] 24)))
    clear T
    go_enter Tryd.func17, Tryd.ntmps17
    go_wp2_with fail
    refine (dv_impl y m d c _ HT.out).mono ?_
    rintro e w1 ⟨rfl, k1⟩
    go_wp2
    go_ret2
    exact ⟨retII E.out.symm hv.symm, ((Keep.refl w).alloc _).trans k1⟩
end Go.Proofs.YthlabofegjfmfaaDoor
