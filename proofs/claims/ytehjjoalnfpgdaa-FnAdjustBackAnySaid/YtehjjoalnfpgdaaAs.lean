/- The steps: stepsOf of the program. -/
import Derived.Test.YtehjjoalnfpgdaaAb
namespace Go.Proofs.Ytehjjoalnfpgdaa
open Go.RowKit Go.Shelf
set_option linter.unusedVariables false
attribute [local go_sem] Oper.semAt_some

theorem ownFrom_sizeB {β : Type} (B N : Nat) : OwnFrom B (fun (_ : β) (W : World) => N < W.heap.size) := fun _ _ _ _ hs hg _ => Nat.lt_of_lt_of_le hs hg.size
theorem wr_kept {W W' : World} {g : Nat} {ys : List Int} {row : Option Nat} (h : Wr W g ys) (hg : W.grownBy W' row) (hr : ∀ r, row = some r → ∃ o : Obj, W.heap[r]? = some o ∧ o.isCells = false) : Wr W' g ys :=
  fun j hj => ⟨cell_kept (h j hj).1 hg hr, (frozen_kept (h j hj).1 hg hr).trans (h j hj).2⟩
theorem taL_L (v : Value) (W : World) : Sem.run Try.prog (Instr.typeAssert (.iface 62 v) 64 62 true) W = .ok (.tuple #[v, .bool true]) W := by kernel_rfl
theorem taL_E (v : Value) (W : World) : Sem.run Try.prog (Instr.typeAssert (.iface 61 v) 64 62 true) W = .ok (.tuple #[.agg #[.slice none 0 0], .bool false]) W := by kernel_rfl
theorem taE_E (v : Value) (W : World) : Sem.run Try.prog (Instr.typeAssert (.iface 61 v) 64 61 true) W = .ok (.tuple #[v, .bool true]) W := by kernel_rfl
/-- No operation of a region is a defer statement. -/
def noDefer (ops : Array Oper) : Bool := ops.toList.all fun o => match o.op with | .defer _ => false | _ => true
theorem noDefer_at {ops : Array Oper} (h : noDefer ops = true) {i : Nat} {o : Oper} (ho : ops[i]? = some o) : ∀ c, o.op ≠ .defer c := by
  intro c hc
  have h1 := List.all_eq_true.1 h o (by
    have := Array.mem_of_getElem? ho
    simpa using this)
  rw [hc] at h1
  cases h1
/-- A region in a round goes as outside of it. -/
theorem opsIn_round {F : Fence} {n : Nat} {P : Program} {ops : Array Oper} {Q : Exit → Act → World → Prop} (l : Nat) (hro : F.round = none) (hnd : noDefer ops = true) :
    ∀ (L : List Nat) (a : Act) (w : World), wpOpsIn F n P ops Q L a w → wpOpsIn (F.inRound l) n P ops Q L a w
  | [], a, w, h => h
  | i :: rest, a, w, h => by
    have ih := opsIn_round (P := P) (n := n) (Q := Q) l hro hnd rest
    unfold wpOpsIn at h ⊢
    cases ho : ops[i]? with
    | none => rw [ho] at h; exact ih _ _ h
    | some o =>
      rw [ho] at h
      simp only at h ⊢
      by_cases hw : Region.wanted o (yielded ops a.tmps) = true
      · rw [if_pos hw] at h ⊢
        have h2 : o.wpIn F n P a w (wpOpsIn (F.inRound l) n P ops Q rest) Q := Oper.wpIn_mono (fun a w => ih a w) h
        unfold Oper.wpIn at h2 ⊢
        rw [Fence.inRound_round, Oper.semAt_some _ _ _ (noDefer_at hnd ho)]
        rw [hro, Oper.semAt_none] at h2
        exact h2
      · rw [if_neg hw] at h ⊢
        exact ⟨h.1, ih _ _ h.2⟩
theorem region_inRound {F : Fence} {n : Nat} {P : Program} {id : Nat} {ops : Array Oper} {Q : Exit → Act → World → Prop} {a : Act} {w : World} (l : Nat) (hro : F.round = none) (hnd : noDefer ops = true) (hm : P.follows .mixedOrders = true)
    (h : wpAnyIn F n P .any ops Q ops.size (Array.replicate ops.size false) a w.drew) : (Code.region id ops true).wpIn (F.inRound l) n P Q a w :=
  wpIn_region_draw fun t => by
    simp only [Region.schedule, hm, Bool.true_or, if_true]
    exact opsIn_round l hro hnd _ _ _ (wpAnyIn_sound ops.size t _ a _ h)
/-- What lies in memory when some parts have come. -/
def StI (w : World) (M : Int) (D : Nat → Int) (m : Nat) (pre : List Nat) (W : World) : Prop :=
  (W.cell? ⟨w.heap.size + 1 + 1, 0, none⟩ = some (.int .i64 (bk M D m pre).1) ∧ W.frozen? ⟨w.heap.size + 1 + 1, 0, none⟩ = false ∧ W.cell? ⟨w.heap.size + 1, 0, none⟩ = some (.slice (some ⟨w.heap.size, 0, none⟩) m m)) ∧
  (Wr W w.heap.size (bk M D m pre).2 ∧ (w.heap.size + 1 + 1 + 1 < W.heap.size ∧ Below w.heap.size w W))
theorem stI_own {w : World} {M : Int} {D : Nat → Int} {m B : Nat} (hB : w.heap.size ≤ B) : OwnFrom B (StI w M D m) :=
  OwnFrom.and (Own.from (fun s X Y row hs hg hr => ⟨cell_kept hs.1 hg hr, (frozen_kept hs.1 hg hr).trans hs.2.1, cell_kept hs.2.2 hg hr⟩) _) (OwnFrom.and (Own.from (I := fun pre W => Wr W w.heap.size (bk M D m pre).2) (fun s X Y row hs hg hr => wr_kept hs hg hr) _) (OwnFrom.and (ownFrom_sizeB _ _) (ownFrom_below (Nat.le_refl _) hB)))
theorem StI.T {w : World} {M : Int} {D : Nat → Int} {m : Nat} {pre : List Nat} {W W3 : World} (h : StI w M D m pre W) (k : Keep W W3) {x : Nat} (hx : m - 1 - x + 1 = m) : StI w M D m (pre ++ [x]) (W3.setCell ⟨w.heap.size + 1 + 1, 0, none⟩ (.int .i64 M)) := by
  obtain ⟨⟨i0, i1, i2⟩, i3, i4, i5⟩ := h
  have hb : bk M D m (pre ++ [x]) = (M, (bk M D m pre).2) := by rw [bk_snoc, bkS, if_pos hx]
  refine ⟨⟨?_, ?_, ?_⟩, ?_, ?_, ?_⟩
  · rw [hb]; exact World.cell?_setCell_same' _ _ _ (by rw [k.cell i0]; rfl)
  · rw [World.frozen?_setCell]; exact k.still i0 i1
  · rw [World.cell?_setCell_other _ _ _ _ (by intro h; simp only [Addr.mk.injEq] at h; omega)]; exact k.cell i2
  · rw [hb]
    intro j hj
    exact ⟨(World.cell?_setCell_other _ _ _ _ (by intro h; simp only [Addr.mk.injEq] at h; omega)).trans (k.cell (i3 j hj).1), by rw [World.frozen?_setCell]; exact k.still (i3 j hj).1 (i3 j hj).2⟩
  · have := k.size; simp [World.setCell]; omega
  · exact Keep.setCell (Keep.trans i5 k) (by omega) _
theorem StI.S {w : World} {M : Int} {D : Nat → Int} {m : Nat} {pre : List Nat} {W W3 : World} (h : StI w M D m pre W) (k : Keep W W3) {x i : Nat} (hi : m - 1 - x = i) (him : i < m) (hx : ¬ i + 1 = m) : StI w M D m (pre ++ [x]) (W3.setCell ⟨w.heap.size, i, none⟩ (.int .i64 ((bk M D m pre).1 - D i))) := by
  obtain ⟨⟨i0, i1, i2⟩, i3, i4, i5⟩ := h
  have hb : bk M D m (pre ++ [x]) = ((bk M D m pre).1, (bk M D m pre).2.set i ((bk M D m pre).1 - D i)) := by rw [bk_snoc, bkS, hi, if_neg hx]
  refine ⟨⟨?_, ?_, ?_⟩, ?_, ?_, ?_⟩
  · rw [hb, World.cell?_setCell_other _ _ _ _ (by intro h; simp only [Addr.mk.injEq] at h; omega)]; exact k.cell i0
  · rw [World.frozen?_setCell]; exact k.still i0 i1
  · rw [World.cell?_setCell_other _ _ _ _ (by intro h; simp only [Addr.mk.injEq] at h; omega)]; exact k.cell i2
  · rw [hb]
    exact Wr.set (i3.keep k) (by rw [(bk_inv M D m pre).1]; exact him) _
  · have := k.size; simp [World.setCell]; omega
  · exact Keep.setCell (Keep.trans i5 k) (Nat.le_refl _) _
set_option maxRecDepth 100000 in
set_option maxHeartbeats 4000000 in
theorem st_any (b off ca g c m : Nat) (zs cs : List Int) (w : World) (hL : Ls w (some ⟨b, off, none⟩) zs) (hB : ajB zs cs = true) (hm : cs.length + 1 = m) (hg : g < w.heap.size) (hc : ∀ j, j < m → w.cell? ⟨g, j, none⟩ = some (prV b off ca zs cs j)) :
    Calls Try.prog 32 #[.slice (some ⟨g, 0, none⟩) m c] w fun e w' => e = .returned (.slice (some ⟨w.heap.size, 0, none⟩) m m) ∧ w.heap.size < w'.heap.size ∧ Wr w' w.heap.size (asl zs cs) ∧ Keep w w' := by
  obtain ⟨l1, l8, hlc⟩ := ajB_len hB
  have hm8 : m ≤ 8 := by omega
  have hm1 : 1 ≤ m := by omega
  have HMed := Lib.hid (fun (j : Nat) (hj : j < m) W (k : Keep w W) => (⟨med_any (some ⟨b, off + pS cs j, none⟩) (ca - pS cs j) (pE zs cs j - pS cs j) (seg zs (pS cs j) (pE zs cs j)) W (ls_seg (hL.keep k) _ _) (seg_p hB (by omega)).2 (seg_p hB (by omega)).1, mdP_bd hB (k := j) (by omega)⟩ :
    Calls Try.prog 103 #[.slice (some ⟨b, off + pS cs j, none⟩) (pE zs cs j - pS cs j) (ca - pS cs j)] W (fun e w' => e = .returned (.int .i64 (mdP zs cs j)) ∧ Keep W w') ∧ _))
  have HIn := Lib.hid (fun k (hk : k < cs.length) => prV_in (b := b) (off := off) (ca := ca) (zs := zs) hk)
  have HLa := Lib.hid (fun k (hk : ¬ k < cs.length) => prV_last (b := b) (off := off) (ca := ca) (zs := zs) hk)
  have HAll := Lib.hid (bk_all zs cs)
  rw [hm] at HAll
  have HM := Lib.hid (mdP_bd hB (k := cs.length) (Nat.le_refl _))
  have hcl : cs.length = m - 1 := by omega
  have hmk := fun W => run_make_row' (P := Try.prog) 23 3 (.int .i64 0) 8 Try.underlying23 infoIntO rfl .i64 .i64 m (by omega) (by omega) W
  have hmix : Try.prog.follows .mixedOrders = true := by kernel_rfl
  clear hB hL l1 l8 hlc hm
  refine (callsIn_wide (n := 6)).1 ?_
  refine callsIn_of_wp_marks Try.func32 rfl trivial ?_ rfl
  simp only [Try.ntmps32, List.size_toArray, List.length_cons, List.length_nil, Nat.reduceAdd, Nat.reduceSub, Array.replicate_succ, Array.replicate_zero, List.push_toArray, List.append_toArray, List.nil_append, List.cons_append]
  gi_wp2_with fail
  refine ⟨trivial, (callsIn_wide.2 (back_fn _ _ _ _)).mono ?_⟩
  rintro e w2 ⟨rfl, rfl⟩
  gi_wp2_with fail
  obtain ⟨W0, hW0⟩ : ∃ W0, W0 = ((((w.alloc (.cells (madeCells #[.int .i64 0] m) 3)).alloc (.cells #[.slice (some ⟨w.heap.size, 0, none⟩) m m] 23)).alloc (.cells #[.int .i64 0] 3)).alloc (.cells #[.slice (some ⟨g, 0, none⟩) m c] 40)) := ⟨_, rfl⟩
  have kw : Keep w W0 := by rw [hW0]; exact ((((Keep.refl w).alloc _).alloc _).alloc _).alloc _
  have q0 : W0.cell? ⟨w.heap.size + 1 + 1, 0, none⟩ = some (.int .i64 0) := by rw [hW0]; go_simp
  have qf : W0.frozen? ⟨w.heap.size + 1 + 1, 0, none⟩ = false := by rw [hW0]; go_simp
  have q1 : W0.cell? ⟨w.heap.size + 1, 0, none⟩ = some (.slice (some ⟨w.heap.size, 0, none⟩) m m) := by rw [hW0]; go_simp
  have q2 : W0.cell? ⟨w.heap.size + 1 + 1 + 1, 0, none⟩ = some (.slice (some ⟨g, 0, none⟩) m c) := by rw [hW0]; go_simp
  have hsz : W0.heap.size = w.heap.size + 1 + 1 + 1 + 1 := by rw [hW0]; simp
  have qW : Wr W0 w.heap.size (List.replicate m 0) := by
    intro j hj
    have hj' : j < m := by simpa using hj
    have k1 : Keep (w.alloc (.cells (madeCells #[.int .i64 0] m) 3)) W0 := by rw [hW0]; exact (((Keep.refl _).alloc _).alloc _).alloc _
    have c1 : (w.alloc (.cells (madeCells #[.int .i64 0] m) 3)).cell? ⟨w.heap.size, j, none⟩ = some (.int .i64 ((List.replicate m (0 : Int)).getD j 0)) := by
      rw [World.cell?_alloc_new, made_at _ _ hj']
      simp [List.getD_eq_getElem?_getD, hj']
    exact ⟨k1.cell c1, k1.still c1 (World.frozen?_alloc_at _ _ _ _ rfl)⟩
  rw [← hW0]
  clear hW0 hmk
  have hle : w.heap.size ≤ W0.heap.size := by omega
  have hcW : ∀ j, j < m → W0.cell? ⟨g, j, none⟩ = some (prV b off ca zs cs j) := fun j hj => kw.cell (hc j hj)
  have HBK := Lib.hid (fun pre => bk_inv (mdP zs cs cs.length) (mdP zs cs) m pre)
  refine wpIn_rangeFunc_ownF rfl (by omega) (gf := 65) (lb := #[.pointer (some ⟨w.heap.size + 1 + 1 + 1, 0, none⟩)]) rfl trivial (enters_of Try.func65 (by kernel_rfl) rfl)
    (back_stops 5 (by omega) (w.heap.size + 1 + 1 + 1) w.heap.size (w.heap.size + 1 + 1) g c m (prV b off ca zs cs) hm8 (by omega) (by omega) (by omega) (by omega) W0 (by omega) (by omega) q2 hcW) K2.trans (fun W l o o' _ hl hcl _ => K2.put _ _ W l o o' hl hcl) (Below.refl _ _) (fun _ => rfl)
    (StI w (mdP zs cs cs.length) (mdP zs cs) m) (fun _ _ _ => False) (stI_own hle) (fun _ => fun _ _ _ _ hs _ _ => hs)
    ⟨⟨q0, qf, q1⟩, qW, by omega, kw⟩
    (fun x => { tmps := #[.slice (some ⟨g, 0, none⟩) m c, undef, .slice none 0 0, .pointer (some ⟨w.heap.size + 1, 0, none⟩), .pointer (some ⟨w.heap.size + 1 + 1, 0, none⟩), .int .i64 ((m - 1 - x : Nat) : Int), prV b off ca zs cs (m - 1 - x), .slice (some ⟨g, 0, none⟩) m c, .int .i64 m, .slice (some ⟨w.heap.size, 0, none⟩) m m, .slice (some ⟨g, 0, none⟩) m c, .func (.func 65) #[] #[.pointer (some ⟨w.heap.size + 1 + 1 + 1, 0, none⟩)], .int .i64 ((m - 1 - x : Nat) : Int), prV b off ca zs cs (m - 1 - x), undef, undef, undef, undef, undef, undef, undef, undef, undef, undef, undef, undef, undef, undef, undef, undef, undef], defers := [] })
    ?assign ?body ?done ?stop
  case assign =>
    intro l x W K hK
    simp only [encB]
    gi_wp2
    exact hK
  case body =>
    rintro l pre x W hI _
    obtain ⟨i, hi⟩ : ∃ i, m - 1 - x = i := ⟨_, rfl⟩
    simp only [hi]
    have him : i < m := by omega
    have hkw : Keep w W := hI.2.2.2
    obtain ⟨hmed, b0, b1⟩ := HMed.out i him W hkw
    have HI := Lib.hid hI
    obtain ⟨⟨i0, i1, i2⟩, i3, i4, _⟩ := hI
    have hbk := HBK.out pre
    have hM := HM.out
    by_cases hl : i + 1 = m
    · have hv := HLa.out i (by omega)
      rw [hv]
      have HT := Lib.hid (fun W3 (k : Keep W W3) => HI.out.T k (x := x) (by rw [hi]; exact hl))
      have hmd : mdP zs cs i = mdP zs cs cs.length := by rw [show i = cs.length by omega]
      rw [hmd] at hmed
      have HMD := Lib.hid hmed
      have hnb : w.heap.size + 1 + 1 < W.heap.size := by omega
      clear hmed hv i3 HBK HMed HIn HLa HAll hc hcW qW hbk hcl hi hl hm8 hm1 hmd hsz q0 qf q1 q2 hkw HM b0 b1 hM
      generalize off + pS cs i = p1 at *
      generalize pE zs cs i - pS cs i = p2 at *
      generalize ca - pS cs i = p3 at *
      generalize mdP zs cs cs.length = M at *
      have hta := taL_L
      have hmm := mMedL
      gi_wp2_with fail
      refine ⟨trivial, (CallsIn.inRound l (callsIn_wide.2 HMD.out)).mono ?_⟩
      rintro e w3 ⟨rfl, k3⟩
      have j0 := k3.cell i0
      have jf := k3.still i0 i1
      have HT3 := Lib.hid (HT.out w3 k3)
      clear HT HMD HI
      gi_wp2
      exact ⟨(others_keep k3).trans (KeepsOthers.setCell _ _ _), (K2.keep k3).trans (K2.setC _ _ _ _ _), HT3.out⟩
    · have hv := HIn.out i (by omega)
      rw [hv]
      have HT := Lib.hid (fun W3 (k : Keep W W3) => HI.out.S k (x := x) hi him hl)
      have HMD := Lib.hid (fun W3 (k : Keep W W3) => (HMed.out i him W3 (Keep.trans hkw k)).1)
      have hnb : w.heap.size + 1 + 1 < W.heap.size := by omega
      have hlw : i < (bk (mdP zs cs cs.length) (mdP zs cs) m pre).2.length := by rw [hbk.1]; exact him
      obtain ⟨u0, u1⟩ := i3 i hlw
      have hT0 : -999 ≤ (bk (mdP zs cs cs.length) (mdP zs cs) m pre).1 ∧ (bk (mdP zs cs cs.length) (mdP zs cs) m pre).1 ≤ 10999 := by
        rcases hbk.2 with h9 | h9 <;> rw [h9]
        · omega
        · exact hM
      clear hmed hv i3 HBK HMed HIn HLa HAll hc hcW qW hbk hcl hi hm8 hsz q0 qf q1 q2 HM hM hlw HI
      generalize off + pS cs i = p1 at *
      generalize pE zs cs i - pS cs i = p2 at *
      generalize ca - pS cs i = p3 at *
      generalize (bk (mdP zs cs cs.length) (mdP zs cs) m pre).1 = T at *
      generalize (bk (mdP zs cs cs.length) (mdP zs cs) m pre).2.getD i 0 = u at *
      generalize mdP zs cs i = y at *
      have hta := taL_E
      have hta2 := taE_E
      have hmm := mMedE
      have i00 : (0 : Int) ≤ (i : Int) := by omega
      have im0 : (i : Int) < (m : Int) := by omega
      have HBf := Lib.hid (fun W3 (k : Keep W W3) => (⟨k.cell i0, k.cell i2, k.cell u0, k.still u0 u1⟩ : W3.cell? ⟨w.heap.size + 1 + 1, 0, none⟩ = some (.int .i64 T) ∧ W3.cell? ⟨w.heap.size + 1, 0, none⟩ = some (.slice (some ⟨w.heap.size, 0, none⟩) m m) ∧ W3.cell? ⟨w.heap.size, i, none⟩ = some (.int .i64 u) ∧ W3.frozen? ⟨w.heap.size, i, none⟩ = false))
      have wy : IntKind.i64.wrap (T - y) = T - y := IntWalk.i64_in _ ⟨by omega, by omega⟩
      gi_wp2_with fail
      refine region_inRound l rfl (by kernel_rfl) hmix ?_
      refine wpAnyIn_take (i := 1) (v := ?v1) rfl rfl (by kernel_rfl) (by kernel_rfl) (by kernel_rfl) (fun _ _ _ h => h) ⟨Or.inl ⟨by rfl, ?hy1⟩, fun _ => rfl⟩ ?rest1
      case hy1 => (intro w; go_simp; try with_reducible rfl)
      refine wpAnyIn_take (i := 3) (v := ?v2) rfl rfl (by kernel_rfl) (by kernel_rfl) (by kernel_rfl) (fun _ _ _ h => h) ⟨Or.inl ⟨by rfl, ?hy2⟩, fun _ => rfl⟩ ?rest2
      case hy2 => (intro w; go_simp; try with_reducible rfl)
      refine wpAnyIn_ready (rs := [0, 2, 4]) (by kernel_rfl) (by simp) ?_
      refine AllReadyIn.cons rfl (fun K hK => ?_) ?_
      ·
        go_simp
        refine hK _ _ ?_
        clear hK K
        refine wpAnyIn_ready (rs := [2, 4]) (by kernel_rfl) (by simp) ?_
        refine AllReadyIn.cons rfl (fun K hK => ?_) ?_
        ·
          go_simp
          refine hK _ _ ?_
          clear hK K
          refine wpAnyIn_ready (rs := [4]) (by kernel_rfl) (by simp) ?_
          refine AllReadyIn.cons rfl (fun K hK => ?_) ?_
          ·
            go_simp
            refine ⟨trivial, (callsIn_wide.2 (HMD.out _ (Keep.refl W).drew)).mono ?_⟩
            rintro e w3 ⟨rfl, k3⟩
            have kk : Keep W w3 := ((Keep.refl W).drew).trans k3
            obtain ⟨j0, j2, v0, v1⟩ := HBf.out _ kk
            try dsimp only
            go_simp
            refine hK _ _ ?_
            clear hK K
            refine wpAnyIn_take (i := 5) (v := ?v3) rfl rfl (by kernel_rfl) (by kernel_rfl) (by kernel_rfl) (fun _ _ _ h => h) ⟨Or.inl ⟨by rfl, ?hy3⟩, fun _ => rfl⟩ ?rest3
            case hy3 => (intro w; go_simp; try with_reducible rfl)
            refine wpAnyIn_take (i := 6) (v := ?v4) rfl rfl (by kernel_rfl) (by kernel_rfl) (by kernel_rfl) (fun _ _ _ h => h) ⟨Or.inl ⟨by rfl, ?hy4⟩, fun _ => rfl⟩ ?rest4
            case hy4 => (intro w; go_simp; try with_reducible rfl)
            refine wpAnyIn_ready (rs := [7]) (by kernel_rfl) (by simp) ?_
            refine AllReadyIn.cons rfl (fun K hK => ?_) ?_
            ·
              go_simp
              refine hK _ _ ?_
              clear hK K
              refine wpAnyIn_done (by kernel_rfl) ?_ _
              gi_wp2
              exact ⟨(others_keep kk).trans (KeepsOthers.setCell _ _ _), (K2.keep kk).trans (K2.setA _ _ _ _ _), HT.out _ kk⟩
            exact AllReadyIn.nil
          exact AllReadyIn.nil
        refine AllReadyIn.cons rfl (fun K hK => ?_) ?_
        ·
          go_simp
          refine ⟨trivial, (callsIn_wide.2 (HMD.out _ (Keep.refl W).drew)).mono ?_⟩
          rintro e w3 ⟨rfl, k3⟩
          have kk : Keep W w3 := ((Keep.refl W).drew).trans k3
          obtain ⟨j0, j2, v0, v1⟩ := HBf.out _ kk
          try dsimp only
          go_simp
          refine hK _ _ ?_
          clear hK K
          refine wpAnyIn_ready (rs := [2]) (by kernel_rfl) (by simp) ?_
          refine AllReadyIn.cons rfl (fun K hK => ?_) ?_
          ·
            go_simp
            refine hK _ _ ?_
            clear hK K
            refine wpAnyIn_take (i := 5) (v := ?v5) rfl rfl (by kernel_rfl) (by kernel_rfl) (by kernel_rfl) (fun _ _ _ h => h) ⟨Or.inl ⟨by rfl, ?hy5⟩, fun _ => rfl⟩ ?rest5
            case hy5 => (intro w; go_simp; try with_reducible rfl)
            refine wpAnyIn_take (i := 6) (v := ?v6) rfl rfl (by kernel_rfl) (by kernel_rfl) (by kernel_rfl) (fun _ _ _ h => h) ⟨Or.inl ⟨by rfl, ?hy6⟩, fun _ => rfl⟩ ?rest6
            case hy6 => (intro w; go_simp; try with_reducible rfl)
            refine wpAnyIn_ready (rs := [7]) (by kernel_rfl) (by simp) ?_
            refine AllReadyIn.cons rfl (fun K hK => ?_) ?_
            ·
              go_simp
              refine hK _ _ ?_
              clear hK K
              refine wpAnyIn_done (by kernel_rfl) ?_ _
              gi_wp2
              exact ⟨(others_keep kk).trans (KeepsOthers.setCell _ _ _), (K2.keep kk).trans (K2.setA _ _ _ _ _), HT.out _ kk⟩
            exact AllReadyIn.nil
          exact AllReadyIn.nil
        exact AllReadyIn.nil
      refine AllReadyIn.cons rfl (fun K hK => ?_) ?_
      ·
        go_simp
        refine hK _ _ ?_
        clear hK K
        refine wpAnyIn_ready (rs := [0, 4]) (by kernel_rfl) (by simp) ?_
        refine AllReadyIn.cons rfl (fun K hK => ?_) ?_
        ·
          go_simp
          refine hK _ _ ?_
          clear hK K
          refine wpAnyIn_ready (rs := [4]) (by kernel_rfl) (by simp) ?_
          refine AllReadyIn.cons rfl (fun K hK => ?_) ?_
          ·
            go_simp
            refine ⟨trivial, (callsIn_wide.2 (HMD.out _ (Keep.refl W).drew)).mono ?_⟩
            rintro e w3 ⟨rfl, k3⟩
            have kk : Keep W w3 := ((Keep.refl W).drew).trans k3
            obtain ⟨j0, j2, v0, v1⟩ := HBf.out _ kk
            try dsimp only
            go_simp
            refine hK _ _ ?_
            clear hK K
            refine wpAnyIn_take (i := 5) (v := ?v7) rfl rfl (by kernel_rfl) (by kernel_rfl) (by kernel_rfl) (fun _ _ _ h => h) ⟨Or.inl ⟨by rfl, ?hy7⟩, fun _ => rfl⟩ ?rest7
            case hy7 => (intro w; go_simp; try with_reducible rfl)
            refine wpAnyIn_take (i := 6) (v := ?v8) rfl rfl (by kernel_rfl) (by kernel_rfl) (by kernel_rfl) (fun _ _ _ h => h) ⟨Or.inl ⟨by rfl, ?hy8⟩, fun _ => rfl⟩ ?rest8
            case hy8 => (intro w; go_simp; try with_reducible rfl)
            refine wpAnyIn_ready (rs := [7]) (by kernel_rfl) (by simp) ?_
            refine AllReadyIn.cons rfl (fun K hK => ?_) ?_
            ·
              go_simp
              refine hK _ _ ?_
              clear hK K
              refine wpAnyIn_done (by kernel_rfl) ?_ _
              gi_wp2
              exact ⟨(others_keep kk).trans (KeepsOthers.setCell _ _ _), (K2.keep kk).trans (K2.setA _ _ _ _ _), HT.out _ kk⟩
            exact AllReadyIn.nil
          exact AllReadyIn.nil
        refine AllReadyIn.cons rfl (fun K hK => ?_) ?_
        ·
          go_simp
          refine ⟨trivial, (callsIn_wide.2 (HMD.out _ (Keep.refl W).drew)).mono ?_⟩
          rintro e w3 ⟨rfl, k3⟩
          have kk : Keep W w3 := ((Keep.refl W).drew).trans k3
          obtain ⟨j0, j2, v0, v1⟩ := HBf.out _ kk
          try dsimp only
          go_simp
          refine hK _ _ ?_
          clear hK K
          refine wpAnyIn_take (i := 5) (v := ?v9) rfl rfl (by kernel_rfl) (by kernel_rfl) (by kernel_rfl) (fun _ _ _ h => h) ⟨Or.inl ⟨by rfl, ?hy9⟩, fun _ => rfl⟩ ?rest9
          case hy9 => (intro w; go_simp; try with_reducible rfl)
          refine wpAnyIn_ready (rs := [0]) (by kernel_rfl) (by simp) ?_
          refine AllReadyIn.cons rfl (fun K hK => ?_) ?_
          ·
            go_simp
            refine hK _ _ ?_
            clear hK K
            refine wpAnyIn_take (i := 6) (v := ?v10) rfl rfl (by kernel_rfl) (by kernel_rfl) (by kernel_rfl) (fun _ _ _ h => h) ⟨Or.inl ⟨by rfl, ?hy10⟩, fun _ => rfl⟩ ?rest10
            case hy10 => (intro w; go_simp; try with_reducible rfl)
            refine wpAnyIn_ready (rs := [7]) (by kernel_rfl) (by simp) ?_
            refine AllReadyIn.cons rfl (fun K hK => ?_) ?_
            ·
              go_simp
              refine hK _ _ ?_
              clear hK K
              refine wpAnyIn_done (by kernel_rfl) ?_ _
              gi_wp2
              exact ⟨(others_keep kk).trans (KeepsOthers.setCell _ _ _), (K2.keep kk).trans (K2.setA _ _ _ _ _), HT.out _ kk⟩
            exact AllReadyIn.nil
          exact AllReadyIn.nil
        exact AllReadyIn.nil
      refine AllReadyIn.cons rfl (fun K hK => ?_) ?_
      ·
        go_simp
        refine ⟨trivial, (callsIn_wide.2 (HMD.out _ (Keep.refl W).drew)).mono ?_⟩
        rintro e w3 ⟨rfl, k3⟩
        have kk : Keep W w3 := ((Keep.refl W).drew).trans k3
        obtain ⟨j0, j2, v0, v1⟩ := HBf.out _ kk
        try dsimp only
        go_simp
        refine hK _ _ ?_
        clear hK K
        refine wpAnyIn_ready (rs := [0, 2]) (by kernel_rfl) (by simp) ?_
        refine AllReadyIn.cons rfl (fun K hK => ?_) ?_
        ·
          go_simp
          refine hK _ _ ?_
          clear hK K
          refine wpAnyIn_ready (rs := [2]) (by kernel_rfl) (by simp) ?_
          refine AllReadyIn.cons rfl (fun K hK => ?_) ?_
          ·
            go_simp
            refine hK _ _ ?_
            clear hK K
            refine wpAnyIn_take (i := 5) (v := ?v11) rfl rfl (by kernel_rfl) (by kernel_rfl) (by kernel_rfl) (fun _ _ _ h => h) ⟨Or.inl ⟨by rfl, ?hy11⟩, fun _ => rfl⟩ ?rest11
            case hy11 => (intro w; go_simp; try with_reducible rfl)
            refine wpAnyIn_take (i := 6) (v := ?v12) rfl rfl (by kernel_rfl) (by kernel_rfl) (by kernel_rfl) (fun _ _ _ h => h) ⟨Or.inl ⟨by rfl, ?hy12⟩, fun _ => rfl⟩ ?rest12
            case hy12 => (intro w; go_simp; try with_reducible rfl)
            refine wpAnyIn_ready (rs := [7]) (by kernel_rfl) (by simp) ?_
            refine AllReadyIn.cons rfl (fun K hK => ?_) ?_
            ·
              go_simp
              refine hK _ _ ?_
              clear hK K
              refine wpAnyIn_done (by kernel_rfl) ?_ _
              gi_wp2
              exact ⟨(others_keep kk).trans (KeepsOthers.setCell _ _ _), (K2.keep kk).trans (K2.setA _ _ _ _ _), HT.out _ kk⟩
            exact AllReadyIn.nil
          exact AllReadyIn.nil
        refine AllReadyIn.cons rfl (fun K hK => ?_) ?_
        ·
          go_simp
          refine hK _ _ ?_
          clear hK K
          refine wpAnyIn_take (i := 5) (v := ?v13) rfl rfl (by kernel_rfl) (by kernel_rfl) (by kernel_rfl) (fun _ _ _ h => h) ⟨Or.inl ⟨by rfl, ?hy13⟩, fun _ => rfl⟩ ?rest13
          case hy13 => (intro w; go_simp; try with_reducible rfl)
          refine wpAnyIn_ready (rs := [0]) (by kernel_rfl) (by simp) ?_
          refine AllReadyIn.cons rfl (fun K hK => ?_) ?_
          ·
            go_simp
            refine hK _ _ ?_
            clear hK K
            refine wpAnyIn_take (i := 6) (v := ?v14) rfl rfl (by kernel_rfl) (by kernel_rfl) (by kernel_rfl) (fun _ _ _ h => h) ⟨Or.inl ⟨by rfl, ?hy14⟩, fun _ => rfl⟩ ?rest14
            case hy14 => (intro w; go_simp; try with_reducible rfl)
            refine wpAnyIn_ready (rs := [7]) (by kernel_rfl) (by simp) ?_
            refine AllReadyIn.cons rfl (fun K hK => ?_) ?_
            ·
              go_simp
              refine hK _ _ ?_
              clear hK K
              refine wpAnyIn_done (by kernel_rfl) ?_ _
              gi_wp2
              exact ⟨(others_keep kk).trans (KeepsOthers.setCell _ _ _), (K2.keep kk).trans (K2.setA _ _ _ _ _), HT.out _ kk⟩
            exact AllReadyIn.nil
          exact AllReadyIn.nil
        exact AllReadyIn.nil
      exact AllReadyIn.nil
  case done =>
    rintro D xs W hD rfl hI hK
    obtain ⟨⟨i0, i1, i2⟩, i3, i4, i5⟩ := hI
    rw [HAll.out] at i3
    have e2 := cell_kept i2 (grownBy_putObj' W D (.deferred none)) (fun r e => by cases e; exact ⟨_, hK, rfl⟩)
    have hW := wr_kept i3 (grownBy_putObj' W D (.deferred none)) (fun r e => by cases e; exact ⟨_, hK, rfl⟩)
    have hKf := i5.trans (belowK_b (w := w) (Nat.le_refl _) W D _ (.deferred none) (by omega) hK rfl rfl)
    have HE := Lib.hid (And.intro hW hKf)
    clear i0 i1 i3 hW hKf
    gi_wp2
    refine ⟨by simp, .inl ⟨_, _, rfl, run_takeDeferred hK, ?_⟩⟩
    refine ⟨.slice (some ⟨w.heap.size, 0, none⟩) m m, ?_, rfl, ?_, HE.out.1, HE.out.2⟩
    · simp [results, Try.f32, go_sem]
    · simp; omega
  case stop =>
    rintro D cc pre W hD ⟨k, hk, rfl⟩ hX hK
    exact hX.elim
end Go.Proofs.Ytehjjoalnfpgdaa
