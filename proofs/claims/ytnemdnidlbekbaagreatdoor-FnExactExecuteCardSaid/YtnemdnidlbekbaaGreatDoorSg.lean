/- Changes of a store: the program and the model answer 'scL'. -/
import Derived.Test.YtnemdnidlbekbaaGreatDoorSf
namespace Go.Proofs.YtnemdnidlbekbaaGreatDoor
open Go.RowKit
set_option linter.unusedVariables false

/-- Report k changes what was told before it. -/
def chB (rs : List R4) (k : Nat) : Bool := decide (vN rs (rS (rs.getD k r0)) (rD (rs.getD k r0)) (rK (rs.getD k r0)) k ≠ -9999) && decide (vN rs (rS (rs.getD k r0)) (rD (rs.getD k r0)) (rK (rs.getD k r0)) k ≠ rV (rs.getD k r0))
def scN (rs : List R4) : Nat → List Int
  | 0 => []
  | k + 1 => if chB rs k then scN rs k ++ [(k : Int)] else scN rs k
def scL (rs : List R4) : List Int := if stB rs then scN rs rs.length else []
theorem scN_len (rs : List R4) : ∀ k, (scN rs k).length ≤ k
  | 0 => Nat.le_refl _
  | k + 1 => by
    have := scN_len rs k
    unfold scN; split <;> (try simp only [List.length_append, List.length_cons, List.length_nil]) <;> omega
theorem scL_no {rs : List R4} (h : stB rs = false) : scL rs = [] := by simp [scL, h]
theorem scL_yes {rs : List R4} (h : stB rs = true) : scL rs = scN rs rs.length := by simp [scL, h]
theorem scL_len (rs : List R4) : (scL rs).length ≤ 40 := by
  cases h : stB rs
  · rw [scL_no h]; simp
  · rw [scL_yes h]; exact Nat.le_trans (scN_len rs _) (stB_facts h).2
def ScPost (rs : List R4) (w : World) (e : Ending) (w' : World) : Prop :=
  ∃ (a : Option Addr) (c : Nat), e = .returned (.slice a (scL rs).length c) ∧ Fresh w w' a (scL rs) ∧ Keep w w'
theorem sc_post_no {rs : List R4} {w w' : World} (h : scL rs = []) (a : Option Addr) (c : Nat) (k : Keep w w') : ScPost rs w (.returned (.slice a 0 c)) w' :=
  ⟨a, c, by rw [h]; rfl, .inl h, k⟩
/-- What a slice of one's own holds is fresh. -/
theorem fresh_own {w wr : World} {base : Nat} {ga : Option Addr} {c : Nat} {zs : List Int} (h : wr.ownsRow base 3 1 (.slice ga zs.length c) zs.length (zs.map (Value.int .i64))) (hb : w.heap.size ≤ base) : Fresh w wr ga zs := by
  by_cases hz : zs = []
  · exact .inl hz
  · obtain ⟨g, c', he, _, _⟩ := h.form (List.length_pos_iff.2 hz)
    simp only [Value.slice.injEq] at he
    obtain ⟨rfl, _, rfl⟩ := he
    refine .inr ⟨g, rfl, Nat.le_trans hb (World.ownsRow.lt h g rfl).1, (World.ownsRow.lt h g rfl).2, fun j hj => ⟨?_, World.ownsRow.frozenAt h j⟩⟩
    rw [World.ownsRow.cellAt h j (by omega)]
    simp [hj, List.getD_eq_getElem?_getD]

theorem quietT {P : Program} {f : FuncId} {args : Array Value} {w : World} {n : Nat} {v : Value}
    (h : Calls P f args (w.drewN n) fun e w' => e = .returned v ∧ w.drewN n = w') : Calls P f args (w.drewN n) fun e w'' => e = .returned v ∧ ∃ m, w'' = w.drewN m :=
  h.mono fun _ _ ⟨he, hm⟩ => ⟨he, n, hm.symm⟩
theorem own_keep {w w' : World} {B e size n : Nat} {v : Value} {xs : List Value} (h : w.ownsRow B e size v n xs) (hb : Keep w w') : w'.ownsRow B e size v n xs := by
  refine ⟨h.1, ?_⟩
  rcases h.2 with hn | ⟨g, cap, cur, rfl, hg, hgg, rest⟩
  · exact .inl hn
  · exact .inr ⟨g, cap, cur, rfl, hg, by rw [hb.block g (Array.getElem?_eq_some_iff.1 hgg).1]; exact hgg, rest⟩

/-- A chain whose blocks are of the entries' type. -/
def ChT (w : World) (rs : List R4) : Nat → Option Addr → Prop
  | 0, p => p = none
  | n + 1, p => ∃ (g : Nat) (q : Option Addr) (cur : Array Value), p = some ⟨g, 0, none⟩ ∧ w.heap[g]? = some (Obj.cells cur 106 (0, 0)) ∧ At4 w g 0 (rs.getD n r0) ∧ w.cell? ⟨g, 4, none⟩ = some (.pointer q) ∧ ChT w rs n q
theorem ChT.chain {w : World} {rs : List R4} : ∀ {n : Nat} {p : Option Addr}, ChT w rs n p → Chain w rs n p
  | 0, _, h => h
  | n + 1, _, ⟨g, q, _, hp, _, h4, hc, ht⟩ => ⟨g, q, hp, h4, hc, ChT.chain ht⟩
theorem ChT.of {w w' : World} {rs : List R4} (hw : ∀ (g : Nat) (cur : Array Value), w.heap[g]? = some (Obj.cells cur 106 (0, 0)) → w'.heap[g]? = w.heap[g]?) : ∀ {n : Nat} {p : Option Addr}, ChT w rs n p → ChT w' rs n p
  | 0, _, h => h
  | n + 1, _, ⟨g, q, cur, hp, hb, h4, hc, ht⟩ => by
    have e := hw g cur hb
    have ec : ∀ i, w'.cell? ⟨g, i, none⟩ = w.cell? ⟨g, i, none⟩ := fun i => World.cell?_of_block e
    exact ⟨g, q, cur, hp, e.trans hb, ⟨(ec _).trans h4.s, (ec _).trans h4.d, (ec _).trans h4.k, (ec _).trans h4.v⟩, (ec _).trans hc, ChT.of hw ht⟩
theorem ChT.alloc {w : World} {rs : List R4} {n : Nat} {p : Option Addr} (h : ChT w rs n p) (o : Obj) : ChT (w.alloc o) rs n p :=
  ChT.of (fun g cur hg => by
    have hl : g < w.heap.size := by
      rcases Nat.lt_or_ge g w.heap.size with h1 | h1
      · exact h1
      · rw [Array.getElem?_eq_none h1] at hg; cases hg
    exact RowKit.Below.heap_alloc w _ g hl) h
theorem own_ty {w : World} {base n c : Nat} {ga : Option Addr} {xs : List Value} (h : w.ownsRow base 3 1 (.slice ga n c) n xs) (k : Nat) (hk : (Value.slice ga n c).ownBlock = some k) :
    ∃ cur, w.heap[k]? = some (Obj.cells cur 3 (0, 0)) := by
  rcases h.2 with ⟨h1, _⟩ | ⟨g, cap, cur, h1, _, h2, _⟩
  · rw [h1] at hk; cases hk
  · rw [h1] at hk
    simp only [Value.ownBlock, Option.some.injEq] at hk
    subst hk
    exact ⟨cur, h2⟩
theorem ChT.grown {w w' : World} {rs : List R4} {n m c base : Nat} {p ga : Option Addr} {xs : List Value} (h : ChT w rs n p) (ho : w.ownsRow base 3 1 (.slice ga m c) m xs) (hg : w.grownBy w' (Value.slice ga m c).ownBlock) : ChT w' rs n p :=
  ChT.of (fun g cur hc => by
    have hl : g < w.heap.size := by
      rcases Nat.lt_or_ge g w.heap.size with h1 | h1
      · exact h1
      · rw [Array.getElem?_eq_none h1] at hc; cases hc
    refine hg.block g hl (fun e => ?_)
    obtain ⟨cur2, h2⟩ := own_ty ho g e.symm
    rw [hc] at h2
    simp at h2) h
theorem ChT.snoc {w : World} {rs : List R4} {k : Nat} {p : Option Addr} {x0 x1 x2 x3 : Int} (hr : rs.getD k r0 = (x0, x1, x2, x3)) (h : ChT w rs k p) :
    ChT (w.alloc (.cells #[.int .i64 x0, .int .i64 x1, .int .i64 x2, .int .i64 x3, .pointer p] 106)) rs (k + 1) (some ⟨w.heap.size, 0, none⟩) := by
  refine ⟨w.heap.size, p, _, rfl, by first | exact heap_alloc_last w _ | exact Deep.heap_alloc_last w _ | exact (MapKept.heap_alloc w _).1, ?_, ?_, h.alloc _⟩
  · rw [hr]
    refine ⟨?_, ?_, ?_, ?_⟩ <;> exact (World.cell?_alloc_new w _ _ _).trans rfl
  · exact (World.cell?_alloc_new w _ _ _).trans rfl
theorem far_new {w : World} {base n c : Nat} {ga : Option Addr} {xs : List Value} (h : w.ownsRow base 3 1 (.slice ga n c) n xs) : some w.heap.size ≠ (Value.slice ga n c).ownBlock := by
  intro e
  obtain ⟨cur, h2⟩ := own_ty h _ e.symm
  rw [Array.getElem?_eq_none (Nat.le_refl _)] at h2; cases h2

set_option maxRecDepth 100000 in
set_option maxHeartbeats 2000000 in
theorem sc_impl (a : Option Addr) (cap : Nat) (rs : List R4) (w : World) (h : Rs w a rs) (hm : rs.length ≤ 4611686018427387904) :
    Calls Tryz.prog 52 #[.slice a rs.length cap] w (ScPost rs w) := by
  rcases Bool.eq_false_or_eq_true (stB rs) with hs | hs
  case' inr =>
    have H : Hid (scL rs = []) := Lib.hid (scL_no hs)
    go_enter Tryz.func52, Tryz.ntmps52
    go_wp2_with (go_at_call 74; refine (sv_impl a cap rs _ h hm).mono ?_; rintro e w1 ⟨he, k1⟩; rw [hs] at he; subst he)
    go_ret
    exact sc_post_no H.out none 0 k1
  have hl := (stB_facts hs).2
  have HO := Lib.hid (scL_yes hs)
  have HB := Lib.hid hs
  obtain ⟨i0, hi, hz0, hz1, hz2⟩ := info_parts infoIntS
  clear hs
  go_enter Tryz.func52, Tryz.ntmps52
  go_wp2_with (go_at_call 74; refine (sv_impl a cap rs _ h hm).mono ?_; rintro e w1 ⟨he, k1⟩; rw [HB.out] at he; subst he)
  have hz := k1.size
  go_loopw [3, 4, 13] (fun u v i wr => ∃ (k n c : Nat) (ga p : Option Addr), k ≤ rs.length ∧ i = .int .i64 k ∧ v = .pointer p ∧ u = .slice ga n c ∧ Hid (n = (scN rs k).length) ∧ Hid (wr.ownsRow w1.heap.size 3 1 (.slice ga n c) n ((scN rs k).map (Value.int .i64))) ∧ Hid (ChT wr rs k p) ∧ Keep w1 wr) (fun _ _ i _ => rs.length - (intOf i).toNat)
  case atStart => exact ⟨0, 0, 0, none, none, by omega, rfl, rfl, rfl, Lib.hid rfl, Lib.hid (World.ownsRow_nil w1 _ _ _), Lib.hid rfl, Keep.refl w1⟩
  case round =>
    obtain ⟨k, n, c, ga, p, hk, rfl, rfl, rfl, HLN, HW, HC, hK⟩ := hrel
    have hsz := hK.size
    have hln := scN_len rs k
    by_cases hlt : k < rs.length
    · obtain ⟨b, off, rfl, hb, hc⟩ := ((h.keep k1).keep hK).at_ hlt
      have HY : Hid (chB rs k = true → scN rs (k + 1) = scN rs k ++ [(k : Int)]) := Lib.hid (fun hy => by rw [scN, if_pos hy])
      have HNO : Hid (chB rs k = false → scN rs (k + 1) = scN rs k) := Lib.hid (fun hy => by rw [scN, if_neg (by rw [hy]; simp)])
      have HCB : Hid (chB rs k = (decide (vN rs (rS (rs.getD k r0)) (rD (rs.getD k r0)) (rK (rs.getD k r0)) k ≠ -9999) && decide (vN rs (rS (rs.getD k r0)) (rD (rs.getD k r0)) (rK (rs.getD k r0)) k ≠ rV (rs.getD k r0)))) := Lib.hid rfl
      have HR : Hid (rs.getD k r0 = (rS (rs.getD k r0), rD (rs.getD k r0), rK (rs.getD k r0), rV (rs.getD k r0))) := Lib.hid rfl
      obtain ⟨c0, c1, c2, c3⟩ := hc
      generalize hx0 : rS (rs.getD k r0) = x0 at c0 HCB HR
      generalize hx1 : rD (rs.getD k r0) = x1 at c1 HCB HR
      generalize hx2 : rK (rs.getD k r0) = x2 at c2 HCB HR
      generalize hx3 : rV (rs.getD k r0) = x3 at c3 HCB HR
      clear hx0 hx1 hx2 hx3
      have HV := Lib.hid (val_any rs x0 x1 x2 k p (wr.alloc (.cells #[.int .i64 x0, .int .i64 x1, .int .i64 x2, .int .i64 x3] 54)) (HC.out.alloc _).chain)
      generalize vN rs x0 x1 x2 k = y at HV HCB
      have hcase : ((y == -9999) = true ∧ chB rs k = false) ∨ ((y == -9999) = false ∧ ((y == x3) = true ∧ (y != x3) = false) ∧ chB rs k = false) ∨ ((y == -9999) = false ∧ ((y == x3) = false ∧ (y != x3) = true) ∧ chB rs k = true) := by
        rw [HCB.out]
        by_cases e0 : y = -9999 <;> by_cases e1 : y = x3 <;> simp [e0, e1] <;> exact Classical.em _
      clear HCB
      have hown := HW.out
      have ho1 : (wr.alloc (.cells #[.int .i64 x0, .int .i64 x1, .int .i64 x2, .int .i64 x3] 54)).ownsRow w1.heap.size 3 1 (.slice ga n c) n ((scN rs k).map (Value.int .i64)) := hown.alloc _
      have HOW := Lib.hid ho1
      have HFN := Lib.hid (far_new hown)
      have HK1 := Lib.hid (hK.alloc (.cells #[.int .i64 x0, .int .i64 x1, .int .i64 x2, .int .i64 x3] 54))
      have HC1 := Lib.hid (HC.out.alloc (.cells #[.int .i64 x0, .int .i64 x1, .int .i64 x2, .int .i64 x3] 54))
      clear ho1 hown
      rcases hcase with ⟨e0, ey⟩ | ⟨e0, ⟨e1, e2⟩, ey⟩ | ⟨e0, ⟨e1, e2⟩, ey⟩
      · obtain rfl : y = -9999 := by simpa using e0
        clear e0
        replace HY := Lib.hid (HNO.out ey)
        clear ey
        clear HNO
        go_wp2_with fail
        refine HV.out.mono ?_
        rintro e w' ⟨rfl, rfl⟩
        go_wp2
        go_roundw
        case rel =>
          refine ⟨k + 1, n, c, ga, some ⟨wr.heap.size + 1, 0, none⟩, by omega, by go_num, by go_simp, rfl, Lib.hid (by rw [HY.out]; exact HLN.out), Lib.hid (by rw [HY.out]; exact HOW.out.alloc _), Lib.hid ?_, HK1.out.alloc _⟩
          have h1 := ChT.snoc HR.out HC1.out
          simpa using h1
        case measure => simp [intOf]; omega
      · have hne : ¬ y = -9999 := by simpa using e0
        have heq : y = x3 := by simpa using e1
        replace HY := Lib.hid (HNO.out ey)
        clear ey
        clear HNO
        go_wp2_with fail
        refine HV.out.mono ?_
        rintro e w' ⟨rfl, rfl⟩
        go_wp2
        go_roundw
        case rel =>
          refine ⟨k + 1, n, c, ga, some ⟨wr.heap.size + 1, 0, none⟩, by omega, by go_num, by go_simp, rfl, Lib.hid (by rw [HY.out]; exact HLN.out), Lib.hid (by rw [HY.out]; exact HOW.out.alloc _), Lib.hid ?_, HK1.out.alloc _⟩
          have h1 := ChT.snoc HR.out HC1.out
          simpa using h1
        case measure => simp [intOf]; omega
      · have hne : ¬ y = -9999 := by simpa using e0
        have heq : ¬ y = x3 := by simpa using e1
        replace HY := Lib.hid (HY.out ey)
        clear ey
        clear HNO
        go_wp2_with fail
        refine HV.out.mono ?_
        rintro e w' ⟨rfl, rfl⟩
        have hlen : n ≤ 40 := by rw [HLN.out]; omega
        have hown := HOW.out
        go_wp2_with (at_builtin; go_loud (refine wpList_append_own _ rfl _ _ 64 rfl w1.heap.size 3 i0 (.int .i64 0) 1 8 Tryz.underlying64 hi hz0 hz1 hz2 rfl (by decide) _ _ _ rfl (hown.alloc _) ⟨wr.heap.size + 1, 0, none⟩ 1 1 [.int .i64 (k : Int)] rfl rfl ?c1a ?c2a ?c3a ?c4a ?c5a ?_))
        case c1a =>
          intro j u hj
          match j, hj with
          | 0, hj => simp at hj; subst hj; simp [Addr.add]
        case c2a => first | rfl | (intro u hu; simp at hu; subst hu; rfl)
        case c3a => unfold maxLen; omega
        case c4a => omega
        case c5a => first | omega | (simp; omega)
        intro v' w5 hown' hgrow hnil
        obtain ⟨g', c', rfl, hbg, hlg⟩ := hown'.form (by omega)
        have HN : Hid (w5.ownsRow w1.heap.size 3 1 (.slice (some ⟨g', 0, none⟩) (n + 1) c') (n + 1) ((scN rs (k + 1)).map (Value.int .i64))) := Lib.hid (by rw [HY.out]; simpa using hown')
        have HN2 : Hid (n + 1 = (scN rs (k + 1)).length) := Lib.hid (by rw [HY.out, List.length_append, ← HLN.out]; rfl)
        have HK2 : Hid (Keep w1 w5) := Lib.hid (Below.grown (HK1.out.alloc (.cells #[.int .i64 (k : Int)] 3)) hgrow (HK1.out.alloc (.cells #[.int .i64 (k : Int)] 3)).size (fun q hq => (hown.lt q hq).1))
        have hs1 : wr.heap.size < ((wr.alloc (.cells #[.int .i64 x0, .int .i64 x1, .int .i64 x2, .int .i64 x3] 54)).alloc (.cells #[.int .i64 (k : Int)] 3)).heap.size := by simp; omega
        have HC5 := Lib.hid (ChT.grown (HC1.out.alloc (.cells #[.int .i64 (k : Int)] 3)) (hown.alloc (.cells #[.int .i64 (k : Int)] 3)) hgrow)
        have fc : ∀ (j : Nat) (u : Value), (#[.int .i64 x0, .int .i64 x1, .int .i64 x2, .int .i64 x3] : Array Value)[j]? = some u → w5.cell? ⟨wr.heap.size, j, none⟩ = some u := by
          intro j u hj
          rw [hgrow.cell_far ⟨wr.heap.size, j, none⟩ hs1 HFN.out, World.cell?_of_block (w := wr.alloc (.cells #[.int .i64 x0, .int .i64 x1, .int .i64 x2, .int .i64 x3] 54)) (RowKit.Below.heap_alloc _ _ _ (by simp))]
          exact (World.cell?_alloc_new wr _ _ j).trans hj
        have n0 := fc 0 _ rfl
        have n1 := fc 1 _ rfl
        have n2 := fc 2 _ rfl
        have n3 := fc 3 _ rfl
        have hs5 := HK2.out.size
        clear hown' hgrow hnil hown fc hs1 hlen
        go_wp2
        go_roundw
        case rel => exact ⟨k + 1, n + 1, c', some ⟨g', 0, none⟩, some ⟨w5.heap.size, 0, none⟩, by omega, by go_num, by go_simp, rfl, HN2, Lib.hid (HN.out.alloc _), Lib.hid (ChT.snoc HR.out HC5.out), HK2.out.alloc _⟩
        case measure => simp [intOf]; omega
    · obtain rfl : k = rs.length := by omega
      have HF := Lib.hid (fresh_own (w := w) (by have h1 := HW.out; rw [HLN.out] at h1; exact h1) hz)
      go_wp2
      go_ret
      exact ⟨ga, c, by rw [HO.out, HLN.out]; rfl, by rw [HO.out]; exact HF.out, k1.trans hK⟩
set_option maxRecDepth 100000 in
set_option maxHeartbeats 2000000 in
theorem sc_spec (a : Option Addr) (cap : Nat) (rs : List R4) (w : World) (h : Rs w a rs) (hm : rs.length ≤ 4611686018427387904) (hc : rs.length ≤ cap) :
    Calls Tryz.prog 39 #[.slice a rs.length cap] w (ScPost rs w) := by
  rcases Bool.eq_false_or_eq_true (stB rs) with hs | hs
  case' inr =>
    have H : Hid (scL rs = []) := Lib.hid (scL_no hs)
    have HB := Lib.hid hs
    clear hs
    go_enter Tryz.func39, Tryz.ntmps39
    go_wp2_with fail
    go_loopw [3, 4] (fun u i wr => ∃ (g c : Nat), i = .int .i64 0 ∧ u = .slice (some ⟨g, 0, none⟩) 0 c ∧ Keep w wr) (fun _ i _ => 1)
    case atStart => exact ⟨_, _, rfl, rfl, (Keep.refl w).alloc _⟩
    case round =>
      obtain ⟨g, c, rfl, rfl, hK⟩ := hrel
      have HS := Lib.hid (sv_spec a cap rs wr (h.keep hK) hm)
      rw [HB.out] at HS
      by_cases h0 : 0 < (rs.length : Int)
      · go_wp2_with (go_at_call 61; refine HS.out.mono ?_; rintro e w1 ⟨rfl, k1⟩)
        go_ret
        exact sc_post_no H.out _ _ (hK.trans k1)
      · go_wp2_with fail
        go_ret
        exact sc_post_no H.out _ _ hK
  have hl := (stB_facts hs).2
  have HO := Lib.hid (scL_yes hs)
  have HB := Lib.hid hs
  obtain ⟨i0, hi, hz0, hz1, hz2⟩ := info_parts infoIntS
  clear hs
  go_enter Tryz.func39, Tryz.ntmps39
  go_wp2_with fail
  go_loopw [3, 4] (fun u i wr => ∃ (k n g c : Nat), k ≤ rs.length ∧ i = .int .i64 k ∧ u = .slice (some ⟨g, 0, none⟩) n c ∧ Hid (n = (scN rs k).length) ∧ Hid (wr.ownsRow w.heap.size 3 1 (.slice (some ⟨g, 0, none⟩) n c) n ((scN rs k).map (Value.int .i64))) ∧ Keep w wr) (fun _ i _ => rs.length - (intOf i).toNat)
  case atStart => exact ⟨0, 0, w.heap.size, 0, by omega, rfl, rfl, Lib.hid rfl, Lib.hid (World.ownsRow_made w #[] 0 (Nat.le_refl _) (by unfold maxLen; omega) rfl), (Keep.refl w).alloc _⟩
  case round =>
    obtain ⟨k, n, g, c, hk, rfl, rfl, HLN, HW, hK⟩ := hrel
    have hsz := hK.size
    have hln := scN_len rs k
    have HS := Lib.hid (sv_spec a cap rs wr (h.keep hK) hm)
    rw [HB.out] at HS
    by_cases hlt : k < rs.length
    · go_wp2_with (go_at_call 61; refine HS.out.mono ?_; rintro e w1 ⟨rfl, k1⟩)
      have HK1 := Lib.hid (hK.trans k1)
      have HOW : Hid (w1.ownsRow w.heap.size 3 1 (.slice (some ⟨g, 0, none⟩) n c) n ((scN rs k).map (Value.int .i64))) := Lib.hid (own_keep HW.out k1)
      obtain ⟨b, off, rfl, hb, hcc⟩ := (h.keep HK1.out).at_ hlt
      have HY : Hid (chB rs k = true → scN rs (k + 1) = scN rs k ++ [(k : Int)]) := Lib.hid (fun hy => by rw [scN, if_pos hy])
      have HNO : Hid (chB rs k = false → scN rs (k + 1) = scN rs k) := Lib.hid (fun hy => by rw [scN, if_neg (by rw [hy]; simp)])
      have HCB : Hid (chB rs k = (decide (vN rs (rS (rs.getD k r0)) (rD (rs.getD k r0)) (rK (rs.getD k r0)) k ≠ -9999) && decide (vN rs (rS (rs.getD k r0)) (rD (rs.getD k r0)) (rK (rs.getD k r0)) k ≠ rV (rs.getD k r0)))) := Lib.hid rfl
      have HL := Lib.hid (len_take hk)
      have HT := Lib.hid (fun s d t => vN_take rs s d t k hk k (Nat.le_refl _))
      obtain ⟨c0, c1, c2, c3⟩ := hcc
      generalize hx0 : rS (rs.getD k r0) = x0 at c0 HCB
      generalize hx1 : rD (rs.getD k r0) = x1 at c1 HCB
      generalize hx2 : rK (rs.getD k r0) = x2 at c2 HCB
      generalize hx3 : rV (rs.getD k r0) = x3 at c3 HCB
      clear hx0 hx1 hx2 hx3
      have HV : Hid (∀ m, Calls Tryz.prog 62 #[.slice (some ⟨b, off, none⟩) k cap, .int .i64 x0, .int .i64 x1, .int .i64 x2] (w1.drewN m) fun e w' => e = .returned (.int .i64 (vN rs x0 x1 x2 k)) ∧ w1.drewN m = w') := Lib.hid (fun m => by
        have h1 := l11_any _ cap (rs.take k) x0 x1 x2 (w1.drewN m) (((h.keep HK1.out).keep ((Keep.refl w1).drewN m)).take k) (by rw [HL.out]; omega)
        rw [HL.out, HT.out] at h1
        exact h1)
      generalize vN rs x0 x1 x2 k = y at HV HCB
      have hcase : ((y == -9999) = true ∧ chB rs k = false) ∨ ((y == -9999) = false ∧ ((y == x3) = true ∧ (y != x3) = false) ∧ chB rs k = false) ∨ ((y == -9999) = false ∧ ((y == x3) = false ∧ (y != x3) = true) ∧ chB rs k = true) := by
        rw [HCB.out]
        by_cases e0 : y = -9999 <;> by_cases e1 : y = x3 <;> simp [e0, e1] <;> exact Classical.em _
      clear HCB
      have q0 : (0 : Int) ≤ (k : Int) := by omega
      have q1 : (k : Int) ≤ (cap : Int) := by omega
      go_quiet ((go_at_call 62; exact quietT (HV.out _)))
      have HKD : Hid (Keep w (w1.drewN nq)) := Lib.hid (HK1.out.drewN nq)
      have HOD : Hid ((w1.drewN nq).ownsRow w.heap.size 3 1 (.slice (some ⟨g, 0, none⟩) n c) n ((scN rs k).map (Value.int .i64))) := Lib.hid (own_keep HOW.out ((Keep.refl w1).drewN nq))
      have c3' : (w1.drewN nq).cell? ⟨b, off + k * 4 + 3, none⟩ = some (.int .i64 x3) := ((Keep.refl w1).drewN nq).cell c3
      generalize w1.drewN nq = w2 at HKD HOD c3' ⊢
      have hs2 := HKD.out.size
      clear c0 c1 c2 c3 HV HK1 HOW HT HL
      rcases hcase with ⟨e0, ey⟩ | ⟨e0, ⟨e1, e2⟩, ey⟩ | ⟨e0, ⟨e1, e2⟩, ey⟩
      · obtain rfl : y = -9999 := by simpa using e0
        clear e0
        replace HY := Lib.hid (HNO.out ey)
        clear ey
        clear HNO
        go_wp2
        go_roundw
        case rel => exact ⟨k + 1, n, g, c, by omega, by go_num, rfl, Lib.hid (by rw [HY.out]; exact HLN.out), Lib.hid (by rw [HY.out]; exact HOD.out), HKD.out⟩
        case measure => simp [intOf]; omega
      · have hne : ¬ y = -9999 := by simpa using e0
        have heq : y = x3 := by simpa using e1
        replace HY := Lib.hid (HNO.out ey)
        clear ey
        clear HNO
        go_wp2
        go_roundw
        case rel => exact ⟨k + 1, n, g, c, by omega, by go_num, rfl, Lib.hid (by rw [HY.out]; exact HLN.out), Lib.hid (by rw [HY.out]; exact HOD.out), HKD.out⟩
        case measure => simp [intOf]; omega
      · have hne : ¬ y = -9999 := by simpa using e0
        have heq : ¬ y = x3 := by simpa using e1
        replace HY := Lib.hid (HY.out ey)
        clear ey HNO
        have hlen : n ≤ 40 := by rw [HLN.out]; omega
        have hown := HOD.out
        go_wp2_with (at_builtin; refine wpList_append_own _ rfl _ _ 64 rfl w.heap.size 3 i0 (.int .i64 0) 1 8 Tryz.underlying64 hi hz0 hz1 hz2 rfl (by decide) _ _ _ rfl (hown.alloc _) ⟨w2.heap.size, 0, none⟩ 1 1 [.int .i64 (k : Int)] rfl rfl ?c1b ?c2b ?c3b ?c4b ?c5b ?_)
        case c1b =>
          intro j u hj
          match j, hj with
          | 0, hj => simp at hj; subst hj; simp [Addr.add]
        case c2b => first | rfl | (intro u hu; simp at hu; subst hu; rfl)
        case c3b => unfold maxLen; omega
        case c4b => omega
        case c5b => first | omega | (simp; omega)
        intro v' w5 hown' hgrow hnil
        obtain ⟨g', c', rfl, hbg, hlg⟩ := hown'.form (by omega)
        have HN : Hid (w5.ownsRow w.heap.size 3 1 (.slice (some ⟨g', 0, none⟩) (n + 1) c') (n + 1) ((scN rs (k + 1)).map (Value.int .i64))) := Lib.hid (by rw [HY.out]; simpa using hown')
        have HN2 : Hid (n + 1 = (scN rs (k + 1)).length) := Lib.hid (by rw [HY.out, List.length_append, ← HLN.out]; rfl)
        have HK2 : Hid (Keep w w5) := Lib.hid (Below.grown (HKD.out.alloc (.cells #[.int .i64 (k : Int)] 3)) hgrow (HKD.out.alloc (.cells #[.int .i64 (k : Int)] 3)).size (fun q hq => (hown.lt q hq).1))
        clear hown' hgrow hnil hown hlen
        go_wp2
        go_roundw
        case rel => exact ⟨k + 1, n + 1, g', c', by omega, by go_num, rfl, HN2, HN, HK2.out⟩
        case measure => simp [intOf]; omega
    · obtain rfl : k = rs.length := by omega
      have HF := Lib.hid (fresh_own (w := w) (by have h1 := HW.out; rw [HLN.out] at h1; exact h1) (Nat.le_refl _))
      go_wp2
      go_ret
      exact ⟨_, c, by rw [HO.out, HLN.out]; rfl, by rw [HO.out]; exact HF.out, hK⟩
end Go.Proofs.YtnemdnidlbekbaaGreatDoor
