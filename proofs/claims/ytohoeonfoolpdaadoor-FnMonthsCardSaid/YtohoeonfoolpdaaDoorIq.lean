/- DateOf of the program. -/
import Derived.Test.YtohoeonfoolpdaaDoorIy
import Derived.Test.YtohoeonfoolpdaaDoorCt
import Derived.Sort.QuietTacIn
namespace Go.Proofs.YtohoeonfoolpdaaDoor
open Go.RowKit Go.Shelf
set_option linter.unusedVariables false
attribute [local go_sem] Oper.semAt_some

theorem wide_fn (f : FuncId) : Fence.wide.fn f = True := rfl
attribute [local go_sem] wide_fn
theorem quietSIn {r : Nat} {P : Program} {f : FuncId} {args : Array Value} {w : World} {n : Nat} {v : Value}
    (h : Calls P f args (w.drewN n) fun e w' => e = .returned v ∧ w.drewN n = w') : CallsIn Fence.wide r P f args (w.drewN n) fun e w'' => e = .returned v ∧ ∃ m, w'' = w.drewN m :=
  callsIn_wide.2 (quietS h)
/-- The date that has been reckoned when so many months have come. -/
def vY (y : Int) (pre : List Nat) : Int := match pre.getLast? with | none => 0 | some _ => y
def vM (pre : List Nat) : Int := match pre.getLast? with | none => 0 | some i => mm i
def vD (y n c : Int) (pre : List Nat) : Int := match pre.getLast? with | none => 0 | some i => 1 + n - (ys y c + cum y (mm i) c)
theorem vY_snoc (y : Int) (pre : List Nat) (x : Nat) : vY y (pre ++ [x]) = y := by simp [vY]
theorem vM_snoc (pre : List Nat) (x : Nat) : vM (pre ++ [x]) = mm x := by simp [vM]
theorem vD_snoc (y n c : Int) (pre : List Nat) (x : Nat) : vD y n c (pre ++ [x]) = 1 + n - (ys y c + cum y (mm x) c) := by simp [vD]
def DateC (w : World) (g : Nat) (n c y : Int) (pre : List Nat) (W : World) : Prop := W.cell? ⟨g, 0, none⟩ = some (.int .i64 (vY y pre)) ∧ W.cell? ⟨g, 1, none⟩ = some (.int .i64 (vM pre)) ∧ W.cell? ⟨g, 2, none⟩ = some (.int .i64 (vD y n c pre)) ∧ W.cell? ⟨w.heap.size + 1, 0, none⟩ = some (.int .i64 0) ∧ W.cell? ⟨w.heap.size + 1, 1, none⟩ = some (.int .i64 0) ∧ W.cell? ⟨w.heap.size + 1, 2, none⟩ = some (.int .i64 0)
def DateF (w : World) (g : Nat) (W : World) : Prop := W.frozen? ⟨g, 0, none⟩ = false ∧ W.frozen? ⟨g, 1, none⟩ = false ∧ W.frozen? ⟨g, 2, none⟩ = false ∧ W.frozen? ⟨w.heap.size + 1, 0, none⟩ = false ∧ W.frozen? ⟨w.heap.size + 1, 1, none⟩ = false ∧ W.frozen? ⟨w.heap.size + 1, 2, none⟩ = false
def DateI (w : World) (g N : Nat) (n c y : Int) (pre : List Nat) (W : World) : Prop :=
  (DateC w g n c y pre W ∧ DateF w g W ∧ W.cell? ⟨w.heap.size, 0, none⟩ = some (.int .i64 n)) ∧ ((∀ x ∈ pre, ys y c + cum y (mm x) c ≤ n) ∧ (N ≤ W.heap.size ∧ Below w.heap.size w W))
def DateX (w : World) (g : Nat) (n c y : Int) (cc : Code) (pre : List Nat) (W : World) : Prop :=
  (∃ (init : List Nat) (x : Nat), (cc = .exit 0 ∧ pre = init ++ [x] ∧ (∀ z ∈ init, ys y c + cum y (mm z) c ≤ n) ∧ n < ys y c + cum y (mm x) c) ∧ DateC w g n c y init W ∧ DateF w g W) ∧ Below w.heap.size w W
theorem dateC_kept {w : World} {g : Nat} {n c y : Int} {pre : List Nat} {X Y : World} {row : Option Nat} (h : DateC w g n c y pre X) (hg : X.grownBy Y row) (hr : ∀ r, row = some r → ∃ o : Obj, X.heap[r]? = some o ∧ o.isCells = false) : DateC w g n c y pre Y := by
  obtain ⟨h0, h1, h2, h3, h4, h5⟩ := h
  exact ⟨cell_kept h0 hg hr, cell_kept h1 hg hr, cell_kept h2 hg hr, cell_kept h3 hg hr, cell_kept h4 hg hr, cell_kept h5 hg hr⟩
theorem dateF_kept {w : World} {g : Nat} {n c y : Int} {pre : List Nat} {X Y : World} {row : Option Nat} (k : DateF w g X) (h : DateC w g n c y pre X) (hg : X.grownBy Y row) (hr : ∀ r, row = some r → ∃ o : Obj, X.heap[r]? = some o ∧ o.isCells = false) : DateF w g Y := by
  obtain ⟨h0, h1, h2, h3, h4, h5⟩ := h
  obtain ⟨k0, k1, k2, k3, k4, k5⟩ := k
  exact ⟨(frozen_kept h0 hg hr).trans k0, (frozen_kept h1 hg hr).trans k1, (frozen_kept h2 hg hr).trans k2, (frozen_kept h3 hg hr).trans k3, (frozen_kept h4 hg hr).trans k4, (frozen_kept h5 hg hr).trans k5⟩
theorem dateI_own {w : World} {g N B : Nat} {n c y : Int} (hB : w.heap.size ≤ B) : OwnFrom B (DateI w g N n c y) :=
  OwnFrom.and (Own.from (fun s X Y row hs hg hr => ⟨dateC_kept hs.1 hg hr, dateF_kept hs.2.1 hs.1 hg hr, cell_kept hs.2.2 hg hr⟩) _) (OwnFrom.and (ownFrom_pure _ _) (OwnFrom.and (ownFrom_size _ _) (ownFrom_below (Nat.le_refl _) hB)))
theorem dateX_own {w : World} {g B : Nat} {n c y : Int} (hB : w.heap.size ≤ B) (cc : Code) : OwnFrom B (DateX w g n c y cc) :=
  OwnFrom.and (Own.from (fun s X Y row hs hg hr => by obtain ⟨init, x, hp, hc, hf⟩ := hs; exact ⟨init, x, hp, dateC_kept hc hg hr, dateF_kept hf hc hg hr⟩) _) (ownFrom_below (Nat.le_refl _) hB)
/-- What the loop leaves, whichever way it ends. -/
def DateEnd (w : World) (g : Nat) (n c : Int) (W : World) : Prop :=
  ∃ y m d : Int, (W.cell? ⟨g, 0, none⟩ = some (.int .i64 y) ∧ W.cell? ⟨g, 1, none⟩ = some (.int .i64 m) ∧ W.cell? ⟨g, 2, none⟩ = some (.int .i64 d) ∧ W.cell? ⟨w.heap.size + 1, 0, none⟩ = some (.int .i64 0) ∧ W.cell? ⟨w.heap.size + 1, 1, none⟩ = some (.int .i64 0) ∧ W.cell? ⟨w.heap.size + 1, 2, none⟩ = some (.int .i64 0)) ∧ DateF w g W ∧ dv y m d c = true ∧ dn y m d c = n
theorem dateC_end {w W : World} {g : Nat} {n c y : Int} (j : Nat) (hj : j < 12) (hc : cOne c = true) (y1 : 1 ≤ y) (y2 : y ≤ 2200) (h : DateC w g n c y (List.range (j + 1)) W) (hf : DateF w g W) (h1 : ys y c + cum y (mm j) c ≤ n) (h2 : n < ys y c + cum y (mm j + 1) c) : DateEnd w g n c W := by
  unfold DateC at h
  rw [List.range_succ, vY_snoc, vM_snoc, vD_snoc] at h
  obtain ⟨h0, h1', h2', h3⟩ := h
  have b := mm_bd j
  have e := date_mk hc y1 y2 b.1 b.2 h1 h2
  rw [show n - ys y c - cum y (mm j) c + 1 = 1 + n - (ys y c + cum y (mm j) c) by omega] at e
  exact ⟨y, mm j, _, ⟨h0, h1', h2', h3⟩, hf, e.1, e.2⟩
theorem dateI_end {w W : World} {g N : Nat} {n c y : Int} (hc : cOne c = true) (y1 : 1 ≤ y) (y2 : y ≤ 2200) (h4 : n < ys (y + 1) c) (h : DateI w g N n c y (List.range 12) W) : DateEnd w g n c W := by
  refine dateC_end 11 (by omega) hc y1 y2 h.1.1 h.1.2.1 (h.2.1 11 (by simp)) ?_
  rw [show mm 11 + 1 = 13 from rfl, cum_end]
  have := ys_succ y c hc y1
  omega
theorem dateX_end {w W : World} {g : Nat} {n c y : Int} {cc : Code} {k : Nat} (hk : k < 12) (hc : cOne c = true) (y1 : 1 ≤ y) (y2 : y ≤ 2200) (h3 : ys y c ≤ n) (h : DateX w g n c y cc (List.range (k + 1)) W) : cc = .exit 0 ∧ DateEnd w g n c W := by
  obtain ⟨⟨init, x, ⟨hcc, hp, hz, hx⟩, hC, hF⟩, _⟩ := h
  obtain ⟨rfl, rfl⟩ := range_snoc hp
  refine ⟨hcc, ?_⟩
  rw [mm_lt hk] at hx
  by_cases h0 : x = 0
  · rw [h0] at hx
    have e : cum y (((0 : Nat) : Int) + 1) c = 0 := cum_one y c
    omega
  · obtain ⟨j, hj⟩ : ∃ j, x = j + 1 := ⟨x - 1, by omega⟩
    have hj2 : j < 12 := by omega
    rw [hj] at hC hz hx
    refine dateC_end j hj2 hc y1 y2 hC hF (hz j (by simp)) ?_
    rw [mm_lt hj2]
    rw [show (((j + 1 : Nat) : Int) + 1) = (j : Int) + 1 + 1 by omega] at hx
    exact hx

set_option maxRecDepth 100000 in
set_option maxHeartbeats 8000000 in
theorem dateof_impl_yes (n c : Int) (w : World) (T : Tabs w) (h : dayOk n c = true) :
    Calls Tryd.prog 14 #[.int .i64 n, .int .i64 c] w (DateYes n c w) := by
  obtain ⟨hc, n1, n2⟩ := dayOk_facts h
  obtain ⟨b1, b2⟩ := day_bd h
  have g1 : decide (n < ys 1 c) = false := decide_eq_false (by omega)
  have g2 : decide (ys 2201 c ≤ n) = false := decide_eq_false (by omega)
  have HC := Lib.hid hc
  have HH := Lib.hid h
  have HT := Lib.hid T
  have t0 : 0 < w.heap.size := World.block_lt_of_cell? w _ (T 0 (by decide))
  clear h n1 n2 T
  refine (callsIn_wide (n := 6)).1 ?_
  refine callsIn_of_wp_marks Tryd.func14 rfl trivial ?_ rfl
  simp only [Tryd.ntmps14, List.size_toArray, List.length_cons, List.length_nil, Nat.reduceAdd, Nat.reduceSub, Array.replicate_succ, Array.replicate_zero, List.push_toArray, List.append_toArray, List.nil_append, List.cons_append]
  gi_wp2_with fail
  gi_quiet_th ((first | (gi_at_call 38; exact quietSIn (Calls.lit hc (cv_any _ _))) | (gi_at_call 39; exact quietSIn (ys_impl _ c _ HC.out (by omega) (by omega)))))
  gi_wp2_with fail
  refine (callsIn_wide.2 (yearof_any n c _ HH.out)).mono ?_
  rintro e w1 ⟨y, rfl, ⟨y1, y2, y3, y4⟩, k1⟩
  gi_wp2_with fail
  refine (callsIn_wide.2 (starts_fn y c _)).mono ?_
  rintro e w2 ⟨rfl, rfl⟩
  gi_wp2_with fail
  have Y3 := Lib.hid y3
  have Y4 := Lib.hid y4
  have hy : yOk y = true := by simp [yOk, inB]; omega
  obtain ⟨b3, b4⟩ := ys_bd y c y1 (by omega)
  have kk : Keep (((((w.alloc (.cells #[.int .i64 n] 3)).alloc (.cells #[.int .i64 0, .int .i64 0, .int .i64 0] 38)).drewN nq).alloc (.cells #[.int .i64 0, .int .i64 0, .int .i64 0] 38))) ((w1.alloc (.cells #[.int .i64 y] 3)).alloc (.cells #[.int .i64 c] 3)) := (k1.alloc _).alloc _
  have u0 : ((w1.alloc (.cells #[.int .i64 y] 3)).alloc (.cells #[.int .i64 c] 3)).cell? ⟨w.heap.size, 0, none⟩ = some (.int .i64 n) := kk.cell (by go_simp)
  have uf0 : ((w1.alloc (.cells #[.int .i64 y] 3)).alloc (.cells #[.int .i64 c] 3)).frozen? ⟨w.heap.size, 0, none⟩ = false := kk.still (v := .int .i64 n) (by go_simp) (by go_simp)
  have r0 : ((w1.alloc (.cells #[.int .i64 y] 3)).alloc (.cells #[.int .i64 c] 3)).cell? ⟨w.heap.size + 1, 0, none⟩ = some (.int .i64 0) := kk.cell (by go_simp)
  have rf0 : ((w1.alloc (.cells #[.int .i64 y] 3)).alloc (.cells #[.int .i64 c] 3)).frozen? ⟨w.heap.size + 1, 0, none⟩ = false := kk.still (v := .int .i64 0) (by go_simp) (by go_simp)
  have r1 : ((w1.alloc (.cells #[.int .i64 y] 3)).alloc (.cells #[.int .i64 c] 3)).cell? ⟨w.heap.size + 1, 1, none⟩ = some (.int .i64 0) := kk.cell (by go_simp)
  have rf1 : ((w1.alloc (.cells #[.int .i64 y] 3)).alloc (.cells #[.int .i64 c] 3)).frozen? ⟨w.heap.size + 1, 1, none⟩ = false := kk.still (v := .int .i64 0) (by go_simp) (by go_simp)
  have r2 : ((w1.alloc (.cells #[.int .i64 y] 3)).alloc (.cells #[.int .i64 c] 3)).cell? ⟨w.heap.size + 1, 2, none⟩ = some (.int .i64 0) := kk.cell (by go_simp)
  have rf2 : ((w1.alloc (.cells #[.int .i64 y] 3)).alloc (.cells #[.int .i64 c] 3)).frozen? ⟨w.heap.size + 1, 2, none⟩ = false := kk.still (v := .int .i64 0) (by go_simp) (by go_simp)
  have s0 : ((w1.alloc (.cells #[.int .i64 y] 3)).alloc (.cells #[.int .i64 c] 3)).cell? ⟨w.heap.size + 1 + 1, 0, none⟩ = some (.int .i64 0) := kk.cell (by go_simp)
  have sf0 : ((w1.alloc (.cells #[.int .i64 y] 3)).alloc (.cells #[.int .i64 c] 3)).frozen? ⟨w.heap.size + 1 + 1, 0, none⟩ = false := kk.still (v := .int .i64 0) (by go_simp) (by go_simp)
  have s1 : ((w1.alloc (.cells #[.int .i64 y] 3)).alloc (.cells #[.int .i64 c] 3)).cell? ⟨w.heap.size + 1 + 1, 1, none⟩ = some (.int .i64 0) := kk.cell (by go_simp)
  have sf1 : ((w1.alloc (.cells #[.int .i64 y] 3)).alloc (.cells #[.int .i64 c] 3)).frozen? ⟨w.heap.size + 1 + 1, 1, none⟩ = false := kk.still (v := .int .i64 0) (by go_simp) (by go_simp)
  have s2 : ((w1.alloc (.cells #[.int .i64 y] 3)).alloc (.cells #[.int .i64 c] 3)).cell? ⟨w.heap.size + 1 + 1, 2, none⟩ = some (.int .i64 0) := kk.cell (by go_simp)
  have sf2 : ((w1.alloc (.cells #[.int .i64 y] 3)).alloc (.cells #[.int .i64 c] 3)).frozen? ⟨w.heap.size + 1 + 1, 2, none⟩ = false := kk.still (v := .int .i64 0) (by go_simp) (by go_simp)
  have kw : Keep w ((w1.alloc (.cells #[.int .i64 y] 3)).alloc (.cells #[.int .i64 c] 3)) := Keep.trans ((((Keep.refl w).alloc _).alloc _).drewN _ |>.alloc _) kk
  have hR : Reads y c w1.heap.size (w1.heap.size + 1) ((w1.alloc (.cells #[.int .i64 y] 3)).alloc (.cells #[.int .i64 c] 3)) := ⟨by go_simp, by go_simp, HT.out.keep kw⟩
  have hsz : ((w1.alloc (.cells #[.int .i64 y] 3)).alloc (.cells #[.int .i64 c] 3)).heap.size = w1.heap.size + 1 + 1 := by simp
  have zz : w.heap.size + 1 + 1 < w1.heap.size := by have := k1.size; simp at this; omega
  generalize ((w1.alloc (.cells #[.int .i64 y] 3)).alloc (.cells #[.int .i64 c] 3)) = W0 at *
  generalize w1.heap.size = g1 at *
  clear k1 kk y3 y4
  have hle : w.heap.size ≤ W0.heap.size := by omega
  refine wpIn_rangeFunc_ownH rfl (by omega) (gf := 54) (lb := #[.pointer (some ⟨g1, 0, none⟩), .pointer (some ⟨g1 + 1, 0, none⟩)]) rfl trivial (enters_of Tryd.func54 (by kernel_rfl) rfl)
    (starts_stops y c 5 (by omega) HC.out hy g1 (g1 + 1) (w.heap.size + 1 + 1) (by omega) (by omega) (by omega) W0 (by omega) (by omega) (by omega) hR) Kc.trans (fun W l o o' _ hl hcl _ => Kc.put (w.heap.size + 1 + 1) W l o o' hl hcl) (Below.refl _ _) (fun _ => rfl)
    (DateI w (w.heap.size + 1 + 1) W0.heap.size n c y) (DateX w (w.heap.size + 1 + 1) n c y) (dateI_own hle) (dateX_own hle)
    ⟨⟨⟨s0, s1, s2, r0, r1, r2⟩, ⟨sf0, sf1, sf2, rf0, rf1, rf2⟩, u0⟩, by simp, Nat.le_refl _, kw⟩
    (fun x a' W => ∃ Bx, W0.heap.size ≤ Bx ∧ (W.cell? ⟨Bx, 0, none⟩ = some (.int .i64 y) ∧ W.cell? ⟨Bx, 1, none⟩ = some (.int .i64 (mm x)) ∧ W.cell? ⟨Bx, 2, none⟩ = some (.int .i64 1)) ∧ a' = { tmps := #[.int .i64 n, .int .i64 c, .pointer (some ⟨w.heap.size, 0, none⟩), undef, .pointer (some ⟨w.heap.size + 1, 0, none⟩), .bool false, .pointer (some ⟨w.heap.size + 1 + 1, 0, none⟩), .pointer (some ⟨Bx, 0, none⟩), .int .i64 (ys y c + cum y (mm x) c), .int .i64 c, .bool true, .bool false, .bool false, .int .i64 n, .int .i64 c, .int .i64 (ys 1 c), .bool false, .bool false, .bool false, .int .i64 n, .int .i64 c, .int .i64 (ys 2201 c), .bool false, .bool false, undef, .int .i64 n, .int .i64 c, .int .i64 y, .int .i64 c, .func (.func 54) #[] #[.pointer (some ⟨g1, 0, none⟩), .pointer (some ⟨g1 + 1, 0, none⟩)], .agg #[.int .i64 y, .int .i64 (mm x), .int .i64 1], .int .i64 (ys y c + cum y (mm x) c), undef, undef, undef, undef, undef, undef, undef, undef, undef, undef, undef, undef, undef, undef, undef], defers := [] })
    (fun x a' => fun _ X Y row hs hg hr => by obtain ⟨Bx, h1, h2, h3⟩ := hs; exact ⟨Bx, h1, ⟨cell_kept h2.1 hg (fun r e => (hr r e).2), cell_kept h2.2.1 hg (fun r e => (hr r e).2), cell_kept h2.2.2 hg (fun r e => (hr r e).2)⟩, h3⟩) ?assign ?body ?done ?stop
  case assign =>
    rintro l pre x W K ⟨⟨⟨i0, i1, i2, i3, i4, i5⟩, ⟨j0, j1, j2, j3, j4, j5⟩, iu⟩, ip, iN, iB⟩ hK
    simp only [encs]
    gi_wp2
    have ka := (Keep.refl W).alloc (.cells #[.int .i64 y, .int .i64 (mm x), .int .i64 1] 38)
    exact hK _ _ ((KeepsOthers.alloc _ _).from _) (Kc.alloc _ _ _) ⟨⟨⟨ka.cell i0, ka.cell i1, ka.cell i2, ka.cell i3, ka.cell i4, ka.cell i5⟩, ⟨ka.still i0 j0, ka.still i1 j1, ka.still i2 j2, ka.still i3 j3, ka.still i4 j4, ka.still i5 j5⟩, ka.cell iu⟩, ip, by simp; omega, Keep.alloc iB _⟩ ⟨W.heap.size, iN, ⟨by go_simp, by go_simp, by go_simp⟩, rfl⟩
  case body =>
    rintro l pre x a' W hl _ ⟨⟨⟨i0, i1, i2, i3, i4, i5⟩, ⟨j0, j1, j2, j3, j4, j5⟩, iu⟩, ip, iN, iB⟩ ⟨Bx, hBx, ⟨e0, e1, e2⟩, rfl⟩ _
    have hx := mm_bd x
    obtain ⟨u1, u2⟩ := cum_bd y (mm x) c hx.1 (by omega)
    have IP := Lib.hid ip
    have V0 := Lib.hid (vY_snoc y pre x)
    have V1 := Lib.hid (vM_snoc pre x)
    have V2 := Lib.hid (vD_snoc y n c pre x)
    clear ip
    by_cases hlt : ys y c + cum y (mm x) c ≤ n
    · gi_wp2
      refine ⟨((KeepsOthers.setCell _ _ _).trans ((KeepsOthers.setCell _ _ _).trans (KeepsOthers.setCell _ _ _))).from _, (Kc.setCell _ _ _ _).trans ((Kc.setCell _ _ _ _).trans (Kc.setCell _ _ _ _)),
        ⟨⟨⟨by rw [V0.out]; go_simp, by rw [V1.out]; go_simp, by rw [V2.out]; go_simp, by go_simp, by go_simp, by go_simp⟩, ⟨by go_simp, by go_simp, by go_simp, by go_simp, by go_simp, by go_simp⟩, by go_simp⟩, ?_, ?_, ?_⟩⟩
      · intro z hz; rcases List.mem_append.1 hz with h | h
        · exact IP.out z h
        · simp at h; rw [h]; exact hlt
      · simp [World.setCell]; exact iN
      · exact ((Keep.setCell iB (by omega) _).setCell (by omega) _).setCell (by omega) _
    · gi_wp2
      exact ⟨(KeepsOthers.refl _).from _, ⟨pre, x, ⟨rfl, rfl, IP.out, by omega⟩, ⟨i0, i1, i2, i3, i4, i5⟩, ⟨j0, j1, j2, j3, j4, j5⟩⟩, iB⟩
  case done =>
    rintro D xs W hD rfl hI hK
    obtain ⟨y', m', d', ⟨x0, x1, x2, x3, x4, x5⟩, ⟨j0, j1, j2, j3, j4, j5⟩, hv1, hv2⟩ := dateI_end HC.out y1 y2 Y4.out hI
    have hB := hI.2.2.2
    have HV1 := Lib.hid hv1
    have HV2 := Lib.hid hv2
    clear hI hv1 hv2
    gi_wp2
    have w0 : (((W.setCell ⟨w.heap.size + 1, 0, none⟩ (.int .i64 y')).setCell ⟨w.heap.size + 1, 1, none⟩ (.int .i64 m')).setCell ⟨w.heap.size + 1, 2, none⟩ (.int .i64 d')).cell? ⟨w.heap.size + 1, 0, none⟩ = some (.int .i64 y') := by go_simp
    have w1' : (((W.setCell ⟨w.heap.size + 1, 0, none⟩ (.int .i64 y')).setCell ⟨w.heap.size + 1, 1, none⟩ (.int .i64 m')).setCell ⟨w.heap.size + 1, 2, none⟩ (.int .i64 d')).cell? ⟨w.heap.size + 1, 1, none⟩ = some (.int .i64 m') := by go_simp
    have w2 : (((W.setCell ⟨w.heap.size + 1, 0, none⟩ (.int .i64 y')).setCell ⟨w.heap.size + 1, 1, none⟩ (.int .i64 m')).setCell ⟨w.heap.size + 1, 2, none⟩ (.int .i64 d')).cell? ⟨w.heap.size + 1, 2, none⟩ = some (.int .i64 d') := by go_simp
    have hK' := (((KeepsOthers.setCell W ⟨w.heap.size + 1, 0, none⟩ (.int .i64 y')).trans (KeepsOthers.setCell _ ⟨w.heap.size + 1, 1, none⟩ (.int .i64 m'))).trans (KeepsOthers.setCell _ ⟨w.heap.size + 1, 2, none⟩ (.int .i64 d'))).same D _ hK rfl
    have hB' : Keep w (((W.setCell ⟨w.heap.size + 1, 0, none⟩ (.int .i64 y')).setCell ⟨w.heap.size + 1, 1, none⟩ (.int .i64 m')).setCell ⟨w.heap.size + 1, 2, none⟩ (.int .i64 d')) := ((Keep.setCell hB (by omega) _).setCell (by omega) _).setCell (by omega) _
    generalize ((W.setCell ⟨w.heap.size + 1, 0, none⟩ (.int .i64 y')).setCell ⟨w.heap.size + 1, 1, none⟩ (.int .i64 m')).setCell ⟨w.heap.size + 1, 2, none⟩ (.int .i64 d') = W3 at *
    refine ⟨by simp, .inl ⟨_, _, rfl, run_takeDeferred hK', ?_⟩⟩
    have hr : ∀ r, some D = some r → ∃ o : Obj, W3.heap[r]? = some o ∧ o.isCells = false := fun r e => by cases e; exact ⟨_, hK', rfl⟩
    have p0 := cell_kept w0 (grownBy_putObj' W3 D (.deferred none)) hr
    have p1 := cell_kept w1' (grownBy_putObj' W3 D (.deferred none)) hr
    have p2 := cell_kept w2 (grownBy_putObj' W3 D (.deferred none)) hr
    refine ⟨.tuple #[.agg #[.int .i64 y', .int .i64 m', .int .i64 d'], .bool true], ?_, y', m', d', rfl, HV1.out, HV2.out, Below.trans (show Below w.heap.size w W3 from hB') (belowK_b (w := w) (Nat.le_refl _) W3 D _ _ (by omega) hK' rfl rfl)⟩
    simp [results, Tryd.f14, go_sem, p0, p1, p2]
  case stop =>
    rintro D cc pre W hD ⟨k, hk, rfl⟩ hX hK
    obtain ⟨rfl, y', m', d', ⟨x0, x1, x2, x3, x4, x5⟩, ⟨j0, j1, j2, j3, j4, j5⟩, hv1, hv2⟩ := dateX_end hk HC.out y1 y2 Y3.out hX
    have hB := hX.2
    have HV1 := Lib.hid hv1
    have HV2 := Lib.hid hv2
    clear hX hv1 hv2
    gi_wp2
    have w0 : (((W.setCell ⟨w.heap.size + 1, 0, none⟩ (.int .i64 y')).setCell ⟨w.heap.size + 1, 1, none⟩ (.int .i64 m')).setCell ⟨w.heap.size + 1, 2, none⟩ (.int .i64 d')).cell? ⟨w.heap.size + 1, 0, none⟩ = some (.int .i64 y') := by go_simp
    have w1' : (((W.setCell ⟨w.heap.size + 1, 0, none⟩ (.int .i64 y')).setCell ⟨w.heap.size + 1, 1, none⟩ (.int .i64 m')).setCell ⟨w.heap.size + 1, 2, none⟩ (.int .i64 d')).cell? ⟨w.heap.size + 1, 1, none⟩ = some (.int .i64 m') := by go_simp
    have w2 : (((W.setCell ⟨w.heap.size + 1, 0, none⟩ (.int .i64 y')).setCell ⟨w.heap.size + 1, 1, none⟩ (.int .i64 m')).setCell ⟨w.heap.size + 1, 2, none⟩ (.int .i64 d')).cell? ⟨w.heap.size + 1, 2, none⟩ = some (.int .i64 d') := by go_simp
    have hK' := (((KeepsOthers.setCell W ⟨w.heap.size + 1, 0, none⟩ (.int .i64 y')).trans (KeepsOthers.setCell _ ⟨w.heap.size + 1, 1, none⟩ (.int .i64 m'))).trans (KeepsOthers.setCell _ ⟨w.heap.size + 1, 2, none⟩ (.int .i64 d'))).same D _ hK rfl
    have hB' : Keep w (((W.setCell ⟨w.heap.size + 1, 0, none⟩ (.int .i64 y')).setCell ⟨w.heap.size + 1, 1, none⟩ (.int .i64 m')).setCell ⟨w.heap.size + 1, 2, none⟩ (.int .i64 d')) := ((Keep.setCell hB (by omega) _).setCell (by omega) _).setCell (by omega) _
    generalize ((W.setCell ⟨w.heap.size + 1, 0, none⟩ (.int .i64 y')).setCell ⟨w.heap.size + 1, 1, none⟩ (.int .i64 m')).setCell ⟨w.heap.size + 1, 2, none⟩ (.int .i64 d') = W3 at *
    refine ⟨by simp, .inl ⟨_, _, rfl, run_takeDeferred hK', ?_⟩⟩
    have hr : ∀ r, some D = some r → ∃ o : Obj, W3.heap[r]? = some o ∧ o.isCells = false := fun r e => by cases e; exact ⟨_, hK', rfl⟩
    have p0 := cell_kept w0 (grownBy_putObj' W3 D (.deferred none)) hr
    have p1 := cell_kept w1' (grownBy_putObj' W3 D (.deferred none)) hr
    have p2 := cell_kept w2 (grownBy_putObj' W3 D (.deferred none)) hr
    refine ⟨.tuple #[.agg #[.int .i64 y', .int .i64 m', .int .i64 d'], .bool true], ?_, y', m', d', rfl, HV1.out, HV2.out, Below.trans (show Below w.heap.size w W3 from hB') (belowK_b (w := w) (Nat.le_refl _) W3 D _ _ (by omega) hK' rfl rfl)⟩
    simp [results, Tryd.f14, go_sem, p0, p1, p2]
end Go.Proofs.YtohoeonfoolpdaaDoor
