/- The heap's methods Swap, Push, Pop: what they leave. -/
import Derived.Test.YtpgdbhafdnfhcaaNs
import Derived.Deep.RegionLaw
import Derived.Laws.OwnMore
namespace Go.Proofs.Ytpgdbhafdnfhcaa
open Go.RowKit
set_option linter.unusedVariables false

/-- What lay below block P stays. -/
def Kp (P : Nat) (w w' : World) : Prop := w.heap.size ≤ w'.heap.size ∧ ∀ w0 : World, w0.heap.size ≤ P → Keep w0 w → Keep w0 w'
theorem Kp.refl (P : Nat) (w : World) : Kp P w w := ⟨Nat.le_refl _, fun _ _ k => k⟩
theorem Kp.trans {P : Nat} {a b c : World} (h : Kp P a b) (k : Kp P b c) : Kp P a c := ⟨Nat.le_trans h.1 k.1, fun w0 hw hk => k.2 w0 hw (h.2 w0 hw hk)⟩
theorem Keep.kp {P : Nat} {w w' : World} (k : Keep w w') : Kp P w w' := ⟨k.size, fun _ _ h => h.trans k⟩
theorem Kp.put3 {P g o : Nat} {r : R3} {a w : World} (h : Kp P a w) (hg : P ≤ g) : Kp P a (put3 w g o r) := ⟨by have := h.1; simpa [Go.Proofs.Ytpgdbhafdnfhcaa.put3, World.setCell] using this, fun w0 hw hk => put3_keep (h.2 w0 hw hk) (by omega)⟩
theorem Kp.drewN {P : Nat} {a w : World} (h : Kp P a w) (n : Nat) : Kp P a (w.drewN n) := ⟨h.1, fun w0 hw hk => (h.2 w0 hw hk).drewN n⟩
theorem Kp.setCell {P b o : Nat} {u : Value} {a w : World} (h : Kp P a w) (hb : P ≤ b) : Kp P a (w.setCell ⟨b, o, none⟩ u) := ⟨by have := h.1; simpa [World.setCell] using this, fun w0 hw hk => (h.2 w0 hw hk).setCell (by omega) u⟩
/-- Blocks P and g alone have turned. -/
structure Tw (P g : Nat) (w w' : World) : Prop where
  os : w'.os = w.os
  tape : w'.tape = w.tape
  output : w'.output = w.output
  size : w.heap.size ≤ w'.heap.size
  block : ∀ k, k < w.heap.size → k ≠ P → k ≠ g → w'.heap[k]? = w.heap[k]?
theorem Tw.refl (P g : Nat) (w : World) : Tw P g w w := ⟨rfl, rfl, rfl, Nat.le_refl _, fun _ _ _ _ => rfl⟩
theorem Tw.trans {P g : Nat} {a b c : World} (h : Tw P g a b) (k : Tw P g b c) : Tw P g a c :=
  ⟨k.os.trans h.os, k.tape.trans h.tape, k.output.trans h.output, Nat.le_trans h.size k.size, fun i hi h1 h2 => (k.block i (Nat.lt_of_lt_of_le hi h.size) h1 h2).trans (h.block i hi h1 h2)⟩
theorem Only.tw {P g : Nat} {w w' : World} (h : Only g w w') : Tw P g w w' := ⟨h.os, h.tape, h.output, h.size, fun k hk _ h2 => h.block k hk (by simp; exact h2)⟩
theorem Only.twP {P g : Nat} {w w' : World} (h : Only P w w') : Tw P g w w' := ⟨h.os, h.tape, h.output, h.size, fun k hk h1 _ => h.block k hk (by simp; exact h1)⟩
theorem Keep.tw {P g : Nat} {w w' : World} (h : Keep w w') : Tw P g w w' := Only.tw h.only
theorem Tw.put3 {P g o : Nat} {r : R3} {a w : World} (h : Tw P g a w) : Tw P g a (put3 w g o r) :=
  h.trans (Only.tw (((((Only.refl g w).put1 o _).put1 (o + 1) _).put1 (o + 2) _)))
theorem Tw.drewN {P g : Nat} {a w : World} (h : Tw P g a w) (n : Nat) : Tw P g a (w.drewN n) := h.trans (Only.tw ((Only.refl g w).drewN n))
theorem Tw.keep {P g : Nat} {w0 w w' : World} (h : Tw P g w w') (k : Keep w0 w) (h1 : w0.heap.size ≤ P) (h2 : w0.heap.size ≤ g) : Keep w0 w' :=
  Only.keep (B := P) (w := w0) ⟨(h.os.trans (Below.os k)), (h.tape.trans (Below.tape k)), (h.output.trans (Below.output k)), Nat.le_trans k.size h.size, fun i hi _ => (h.block i (Nat.lt_of_lt_of_le hi k.size) (by omega) (by omega)).trans (Below.block k i hi)⟩ (Keep.refl w0) h1
theorem Tw.kp {P g : Nat} {w w' : World} (h : Tw P g w w') (hPg : P < g) : Kp P w w' := ⟨h.size, fun w0 hw hk => h.keep hk hw (by omega)⟩
theorem Tw.own {P g base : Nat} {e : TypeId} {size n : Nat} {v : Value} {xs : List Value} {w w' : World} (ht : Tw P g w w') (h : w.ownsRow base e size v n xs) (h1 : P < base) (h2 : g < base) : w'.ownsRow base e size v n xs := by
  refine ⟨h.1, ?_⟩
  rcases h.2 with hn | ⟨g', cap, cur, rfl, hb, hgg, rest⟩
  · exact .inl hn
  · refine .inr ⟨g', cap, cur, rfl, hb, ?_, rest⟩
    rw [ht.block g' (Array.getElem?_eq_some_iff.1 hgg).1 (by omega) (by omega)]
    exact hgg
theorem Nr.drewN {w : World} {P : Nat} {v : Value} {c : R3} (h : Nr w P v c) (n : Nat) : Nr (w.drewN n) P v c := ⟨h.at3.drewN n, h.sl, h.fz⟩
theorem Nr.put3 {w : World} {P g o : Nat} {v : Value} {c r : R3} (h : Nr w P v c) (hne : P ≠ g) : Nr (put3 w g o r) P v c :=
  ⟨⟨(put3_far (by omega)).trans h.at3.s, (put3_far (by omega)).trans h.at3.d, (put3_far (by omega)).trans h.at3.k⟩, (put3_far (by omega)).trans h.sl, by rw [put3_frozen]; exact h.fz⟩
theorem flatS_set : ∀ (H : List R3) (k : Nat) (r : R3), k < H.length → flatS (H.set k r) = (((flatS H).set (k * 3) (.int .i64 (tS r))).set (k * 3 + 1) (.int .i64 (tX r))).set (k * 3 + 2) (.int .i64 (tY r))
  | [], _, _, h => by cases h
  | q :: H, 0, r, _ => by simp [flatS, tc]
  | q :: H, k + 1, r, h => by
    have ih := flatS_set H k r (by simpa using h)
    have e : ∀ L : List R3, flatS (q :: L) = tc q ++ flatS L := fun L => by simp [flatS]
    have hl : (tc q).length = 3 := rfl
    rw [List.set_cons_succ, e, e, ih]
    rw [List.set_append_right _ _ (by omega), List.set_append_right _ _ (by omega), List.set_append_right _ _ (by omega), hl]
    rw [show (k + 1) * 3 - 3 = k * 3 by omega, show (k + 1) * 3 + 1 - 3 = k * 3 + 1 by omega, show (k + 1) * 3 + 2 - 3 = k * 3 + 2 by omega]
theorem OwnS.put {w : World} {base g n cap k : Nat} {H : List R3} (h : OwnS w base (.slice (some ⟨g, 0, none⟩) n cap) H) (hk : k < H.length) (r : R3) : OwnS (put3 w g (k * 3) r) base (.slice (some ⟨g, 0, none⟩) n cap) (H.set k r) := by
  have hn : n = H.length := by
    obtain ⟨g', c', hv, _⟩ := World.ownsRow.form (show w.ownsRow base 62 3 _ H.length (flatS H) from h) (by omega)
    injection hv
  subst hn
  have h1 := (World.ownsRow.stored (show w.ownsRow base 62 3 _ H.length (flatS H) from h) (k * 3) (.int .i64 (tS r))).1
  have h2 := (World.ownsRow.stored h1 (k * 3 + 1) (.int .i64 (tX r))).1
  have h3 := (World.ownsRow.stored h2 (k * 3 + 2) (.int .i64 (tY r))).1
  unfold OwnS
  rw [List.length_set, flatS_set H k r hk]
  exact h3
theorem OwnS.drewN {w : World} {base : Nat} {v : Value} {ts : List R3} (h : OwnS w base v ts) (n : Nat) : OwnS (w.drewN n) base v ts := h.keep ((Keep.refl w).drewN n)
theorem swap_any (P g n cap : Nat) (c : R3) (H : List R3) (i j : Nat) (w : World) (h : Nr w P (.slice (some ⟨g, 0, none⟩) n cap) c) (hW : WrS w g H) (hn : H.length = n) (hg : P < g) (hi : i < n) (hj : j < n) (hn6 : n ≤ 6) :
    Calls Try.prog 188 #[.pointer (some ⟨P, 0, none⟩), .int .i64 (i : Int), .int .i64 (j : Int)] w fun e w' => e = .returned (.tuple #[]) ∧ Nr w' P (.slice (some ⟨g, 0, none⟩) n cap) c ∧ WrS w' g (swp H i j) ∧ Tw P g w w' ∧
      (∀ base, OwnS w base (.slice (some ⟨g, 0, none⟩) n cap) H → OwnS w' base (.slice (some ⟨g, 0, none⟩) n cap) (swp H i j)) := by
  obtain ⟨hA, fA⟩ := hW i (by omega)
  obtain ⟨hB, fB⟩ := hW j (by omega)
  have key : ∀ m, Nr ((put3 (put3 w g (i * 3) (H.getD j t0)) g (j * 3) (H.getD i t0)).drewN m) P (.slice (some ⟨g, 0, none⟩) n cap) c ∧ WrS ((put3 (put3 w g (i * 3) (H.getD j t0)) g (j * 3) (H.getD i t0)).drewN m) g (swp H i j) ∧ Tw P g w ((put3 (put3 w g (i * 3) (H.getD j t0)) g (j * 3) (H.getD i t0)).drewN m) ∧
      (∀ base, OwnS w base (.slice (some ⟨g, 0, none⟩) n cap) H → OwnS ((put3 (put3 w g (i * 3) (H.getD j t0)) g (j * 3) (H.getD i t0)).drewN m) base (.slice (some ⟨g, 0, none⟩) n cap) (swp H i j)) := fun m =>
    ⟨(((h.put3 (by omega)).put3 (by omega))).drewN m, ((hW.set (by omega) _).set (by rw [List.length_set]; omega) _).keep ((Keep.refl _).drewN m), ((Tw.refl P g w).put3.put3).drewN m, fun base hO => ((hO.put (by omega) _).put (by rw [List.length_set]; omega) _).drewN m⟩
  by_cases hij : i = j
  · subst hij
    refine (swap_one P g n cap c (H.getD i t0) i w h (by omega) hi hn6 hA fA).mono ?_
    rintro e w' ⟨rfl, m, rfl⟩
    exact ⟨rfl, key m⟩
  · refine (swap_w P g n cap c (H.getD i t0) (H.getD j t0) i j w h (by omega) hi hj hij hn6 hA hB fA fB).mono ?_
    rintro e w' ⟨rfl, m, rfl⟩
    exact ⟨rfl, key m⟩
set_option maxRecDepth 100000 in
set_option maxHeartbeats 1000000 in
theorem mpop_any (P g n cap : Nat) (c : R3) (H : List R3) (w : World) (h : Nr w P (.slice (some ⟨g, 0, none⟩) (n + 1) cap) c) (hW : WrS w g H) (hn : H.length = n + 1) (hg : P < g) (hn6 : n ≤ 6) (hcap : n + 1 ≤ cap) :
    Calls Try.prog 186 #[.pointer (some ⟨P, 0, none⟩)] w fun e w' => e = .returned (.iface 62 (ag (H.getD n t0))) ∧ Nr w' P (.slice (some ⟨g, 0, none⟩) n cap) c ∧ WrS w' g (H.take n) ∧ Tw P g w w' := by
  obtain ⟨⟨x0, x1, x2⟩, _⟩ := hW n (by omega)
  obtain ⟨h0, hsl, hfz⟩ := id h
  have hP := World.block_lt_of_cell? w _ hsl
  unfold ag
  have HT1 : WrS (w.setCell ⟨P, 3, none⟩ (.slice (some ⟨g, 0, none⟩) n cap)) g (H.take n) := by
    intro j hj
    rw [List.length_take] at hj
    have e : (H.take n).getD j t0 = H.getD j t0 := by rw [List.getD_eq_getElem?_getD, List.getElem?_take_of_lt (by omega), List.getD_eq_getElem?_getD]
    obtain ⟨h1, h2⟩ := hW j (by omega)
    rw [e]
    exact ⟨⟨(World.cell?_setCell_other _ _ _ _ (by intro e; simp only [Addr.mk.injEq] at e; omega)).trans h1.s, (World.cell?_setCell_other _ _ _ _ (by intro e; simp only [Addr.mk.injEq] at e; omega)).trans h1.d, (World.cell?_setCell_other _ _ _ _ (by intro e; simp only [Addr.mk.injEq] at e; omega)).trans h1.k⟩,
      ⟨by rw [World.frozen?_setCell]; exact h2.f0, by rw [World.frozen?_setCell]; exact h2.f1, by rw [World.frozen?_setCell]; exact h2.f2⟩⟩
  have HN1 : Nr (w.setCell ⟨P, 3, none⟩ (.slice (some ⟨g, 0, none⟩) n cap)) P (.slice (some ⟨g, 0, none⟩) n cap) c :=
    ⟨⟨(World.cell?_setCell_other _ _ _ _ (by simp)).trans h.at3.s, (World.cell?_setCell_other _ _ _ _ (by simp)).trans h.at3.d, (World.cell?_setCell_other _ _ _ _ (by simp)).trans h.at3.k⟩, World.cell?_setCell_same _ _ _ h.sl, by rw [World.frozen?_setCell]; exact h.fz⟩
  have HK1 : Tw P g w (w.setCell ⟨P, 3, none⟩ (.slice (some ⟨g, 0, none⟩) n cap)) := Only.twP ((Only.refl P w).put1 3 _)
  have HT := fun o => HT1.keep ((Keep.refl _).alloc o)
  have HN := fun o => HN1.keep ((Keep.refl _).alloc o)
  have HK := fun o => HK1.trans (Keep.tw ((Keep.refl _).alloc o))
  clear HT1 HN1 HK1
  have HT := Lib.hid HT
  have HN := Lib.hid HN
  have HK := Lib.hid HK
  clear hW h
  generalize tS (H.getD n t0) = a0 at *
  generalize tX (H.getD n t0) = a1 at *
  generalize tY (H.getD n t0) = a2 at *
  have i0 : (0 : Int) ≤ (n : Int) := by omega
  go_enter Try.func186, Try.ntmps186
  go_wp2
  go_ret
  exact ⟨rfl, HN.out _, HT.out _, HK.out _⟩
theorem taSite (v : Value) (W : World) : Sem.run Try.prog (Instr.typeAssert (.iface 62 v) 20 62 false) W = .ok v W := by kernel_rfl
theorem infoSiteN : (Try.prog.info? 62).map (fun i => (i.zero, i.size, i.bytes)) = some (some (.agg #[.int .i64 0, .int .i64 0, .int .i64 0]), 3, 24) := by kernel_rfl
theorem step_app_own' {P : Program} {w : World} {ops : Array Oper} {o : Oper} {a : Act} {K : Act → World → Prop} {Q : Exit → Act → World → Prop} {E : Prop} (hgd : o.guard = none) (s x : Operand) (t : TypeId)
    (ho : o.op = .call { callee := .builtin .append, args := #[s, x], argTypes := #[t, t] })
    (base : Nat) (e : TypeId) (i : TypeInfo) (z : Value) (size bytes : Nat) (ht : P.underlying t = some (.slice e)) (hi : P.info? e = some i) (hz : i.zero = some z)
    (hsize : i.size = size) (hby : i.bytes = bytes) (hzs : z.cells.size = size) (hsz : 0 < size)
    (v : Value) (n : Nat) (xs : List Value) (hs : a.eval s = v) (hown : w.ownsRow base e size v n xs)
    (ad : Addr) (m c : Nat) (news : List Value) (hx : a.eval x = .slice (some ad) m c) (hl : news.length = m * size) (hnews : ∀ j u, news[j]? = some u → w.cell? (ad.add j) = some u) (h1 : ∀ u ∈ news, u.oneCell' = true)
    (h63 : n + m ≤ maxLen) (hbytes : (n + m) * bytes ≤ 140737488355328) (hbase : base ≤ w.heap.size)
    (h : ∀ v' w', w'.ownsRow base e size v' (n + m) (xs ++ news) → w.grownBy w' v.ownBlock → K (a.put o.dst v') w') :
    if Region.wanted o (yielded ops a.tmps) = true then Oper.wp P o a w K Q else E := by
  have hw : Region.wanted o (yielded ops a.tmps) = true := by simp [Region.wanted, hgd]
  rw [if_pos hw]
  exact wp_append_own w s x t ho base e i z size bytes ht hi hz hsize hby hzs hsz v n xs hs hown ad m c news hx hl hnews h1 h63 hbytes hbase fun v' w' h2 h3 _ => h v' w' h2 h3
set_option maxRecDepth 100000 in
set_option maxHeartbeats 2000000 in
theorem mpush_any (P base n : Nat) (v : Value) (c r : R3) (H : List R3) (w : World) (h : Nr w P v c) (hO : OwnS w base v H) (hn : H.length = n) (hg : P < base) (hb : base ≤ w.heap.size) (hn6 : n ≤ 6) :
    Calls Try.prog 187 #[.pointer (some ⟨P, 0, none⟩), .iface 62 (ag r)] w fun e w' => e = .returned (.tuple #[]) ∧ ∃ g cap, Nr w' P (.slice (some ⟨g, 0, none⟩) (n + 1) cap) c ∧ OwnS w' base (.slice (some ⟨g, 0, none⟩) (n + 1) cap) (H ++ [r]) ∧ Kp P w w' := by
  obtain ⟨i0, hi, hz0, hz1, hz2⟩ := info_parts infoSiteN
  subst hn
  obtain ⟨h0, hsl, hfz⟩ := id h
  have hown : w.ownsRow base 62 3 v H.length (flatS H) := hO
  have hP := World.block_lt_of_cell? w _ hsl
  have hOD : (w.drew.alloc (.cells #[.int .i64 (tS r), .int .i64 (tX r), .int .i64 (tY r)] 62)).ownsRow base 62 3 v H.length (flatS H) := hO.keep (((Keep.refl w).drew).alloc _)
  have hNW : ∀ j u, (tc r)[j]? = some u → (w.drew.alloc (.cells #[.int .i64 (tS r), .int .i64 (tX r), .int .i64 (tY r)] 62)).cell? ((⟨w.heap.size, 0, none⟩ : Addr).add j) = some u := by
    intro j u hj
    rw [Addr.add_lit, Nat.zero_add, show (⟨w.heap.size, j, none⟩ : Addr) = ⟨w.drew.heap.size, j, none⟩ from rfl, World.cell?_alloc_new, ← hj]
    simp [tc]
  have hBs : base ≤ (w.drew.alloc (.cells #[.int .i64 (tS r), .int .i64 (tX r), .int .i64 (tY r)] 62)).heap.size := by simp; omega
  have h63 : H.length + 1 ≤ maxLen := by unfold maxLen; omega
  have hby : (H.length + 1) * 24 ≤ 140737488355328 := by omega
  have kA : Keep w (w.drew.alloc (.cells #[.int .i64 (tS r), .int .i64 (tX r), .int .i64 (tY r)] 62)) := ((Keep.refl w).drew).alloc _
  have hNA := Lib.hid (h.keep kA)
  have hPA : P < (w.drew.alloc (.cells #[.int .i64 (tS r), .int .i64 (tX r), .int .i64 (tY r)] 62)).heap.size := Nat.lt_of_lt_of_le hP kA.size
  have hne : some P ≠ v.ownBlock := fun e => by have := (hown.lt P e.symm).1; omega
  have HK0 : Hid (∀ (wF : World), (w.drew.alloc (.cells #[.int .i64 (tS r), .int .i64 (tX r), .int .i64 (tY r)] 62)).grownBy wF v.ownBlock → Kp P w wF) := Lib.hid (fun wF hgrow => ⟨Nat.le_trans kA.size hgrow.size, fun w0 hw hk => Below.grown (hk.trans kA) hgrow (hk.trans kA).size (fun q hq => by have := (hown.lt q hq).1; omega)⟩)
  have HN0 : Hid (∀ (wF : World), (w.drew.alloc (.cells #[.int .i64 (tS r), .int .i64 (tX r), .int .i64 (tY r)] 62)).grownBy wF v.ownBlock → Nr wF P v c) := Lib.hid (fun wF hgrow => by
    have hc : ∀ o, wF.cell? ⟨P, o, none⟩ = (w.drew.alloc (.cells #[.int .i64 (tS r), .int .i64 (tX r), .int .i64 (tY r)] 62)).cell? ⟨P, o, none⟩ := fun o => hgrow.cell_far ⟨P, o, none⟩ hPA hne
    refine ⟨hNA.out.at3.same hc, (hc 3).trans hNA.out.sl, ?_⟩
    rw [World.frozen?_of_block (a := ⟨P, 3, none⟩) (hgrow.block P hPA hne)]
    exact hNA.out.fz)
  unfold ag
  have hta := taSite
  clear kA hown hne
  go_enter Try.func187, Try.ntmps187
  go_wp2_with fail
  go_region_law (go_loud (refine step_app_own' rfl _ _ _ rfl base 62 i0 _ 3 24 Try.underlying56 hi hz0 hz1 hz2 rfl (by decide) v H.length (flatS H) rfl hOD ⟨w.heap.size, 0, none⟩ 1 1 (tc r) rfl rfl hNW (tc_one _) h63 hby hBs ?_)
                 intro v' wF hown' hgrow
                 obtain ⟨g, cap, rfl, hbg, hlg⟩ := hown'.form (Nat.succ_pos _)
                 have hNF := HN0.out wF hgrow
                 have HKF := Lib.hid (HK0.out wF hgrow)
                 have HNF := Lib.hid hNF
                 have HOF := Lib.hid hown'
                 have cPF := hNF.sl
                 have fPF := hNF.fz
                 clear hown' hgrow hNF)
  all_goals
    go_wp2
    go_end0
    have hO1 : OwnS wF base (.slice (some ⟨g, 0, none⟩) (H.length + 1) cap) (H ++ [r]) := by
      have h9 := HOF.out
      unfold OwnS
      rw [List.length_append, flatS_app, flatS_one]
      exact h9
    refine ⟨rfl, g, cap, ⟨⟨(World.cell?_setCell_other _ _ _ _ (by simp)).trans HNF.out.at3.s, (World.cell?_setCell_other _ _ _ _ (by simp)).trans HNF.out.at3.d, (World.cell?_setCell_other _ _ _ _ (by simp)).trans HNF.out.at3.k⟩, World.cell?_setCell_same _ _ _ cPF, by rw [World.frozen?_setCell]; exact fPF⟩, ?_, HKF.out.setCell (Nat.le_refl _)⟩
    exact hO1.only ((Only.refl P wF).put1 3 _) hg
end Go.Proofs.Ytpgdbhafdnfhcaa
