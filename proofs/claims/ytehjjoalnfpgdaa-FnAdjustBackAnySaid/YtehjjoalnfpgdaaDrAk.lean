/- How the arguments of AdjustBack are drawn. -/
import Derived.Test.YtehjjoalnfpgdaaDrCu
import Derived.Deep.QuietTactic
import Derived.BigQuiet
import Derived.Deep.RegionLaw
import Derived.Deep.RegionWith
import Derived.OwnWalk
namespace Go.Proofs.Ytehjjoalnfpgdaa
open Go.RowKit
set_option linter.unusedVariables false

/-- Values, cuts and steps as they are drawn. -/
def DrewAb (w : World) (e : Ending) (w' : World) : Prop := ∃ (a b s : Option Addr) (c d f : Nat) (zs cs st : List Int), e = .returned (.tuple #[.slice a zs.length c, .slice b cs.length d, .slice s st.length f]) ∧ (zs.length ≤ 11 ∧ zs.length ≤ c) ∧ (cs.length ≤ 13 ∧ cs.length ≤ d) ∧ (st.length ≤ 14 ∧ st.length ≤ f) ∧ Ls w' a zs ∧ Ls w' b cs ∧ Ls w' s st ∧ Keep w w'
theorem res3k {fn : Func} {t u v : Tmp} (h : fn.results = #[.tmp t, .tmp u, .tmp v]) (tmps : Array Value) (P : Program) (w : World) :
    (results fn tmps).run P w = .ok (.tuple #[tmps.getD t undef, tmps.getD u undef, tmps.getD v undef]) w := by
  simp [results, h]
theorem OwnI.tail {w : World} {base g cap n : Nat} {zs : List Int} (h : OwnI w base (.slice (some ⟨g, 0, none⟩) n cap) zs) (hn : zs.length = n) : Ls w (some ⟨g, 1, none⟩) (zs.drop 1) := by
  by_cases h0 : n = 0
  · exact .inl (by rw [List.drop_eq_nil_iff]; omega)
  subst hn
  obtain ⟨g2, c2, hv, _, hl, hc⟩ := h.at_ (by omega)
  injection hv with e1 _ _
  injection e1 with e1
  injection e1 with e1 _ _
  subst e1
  refine .inr ⟨g, 1, rfl, hl, fun j hj => ?_⟩
  rw [List.length_drop] at hj
  rw [show (1 : Nat) + j = j + 1 by omega, (hc (j + 1) (by omega)).1]
  simp [List.getD_eq_getElem?_getD]
theorem OwnI.capK {w : World} {base n : Nat} {a : Option Addr} {c : Nat} {zs : List Int} (h : OwnI w base (.slice a n c) zs) : zs.length ≤ c := by
  rcases h.2 with ⟨h1, h0⟩ | ⟨g, cap, cur, hv, _, _, hc, _⟩
  · omega
  · injection hv with _ _ hv; subst hv; exact hc
set_option maxRecDepth 100000 in
set_option maxHeartbeats 6400000 in
theorem drawAdjustBack (a0 : Option Addr) (len cap : Nat) (w : World) (ha : CodeArg w a0 len cap) :
    Calls Try.prog 23 #[.slice a0 len cap] w (DrewAb w) := by
  obtain ⟨i0, hi, hz0, hz1, hz2⟩ := info_parts infoInt'
  go_enter Try.func23, Try.ntmps23
  go_wp2_with fail
  refine (open_any a0 len cap _ ha).mono ?_
  rintro e w1 ⟨rfl, hr1, hb, hs⟩
  have hb : Keep w w1 := hb
  go_wp2_with fail
  refine (drawFull _ 0 _ (by omega) hr1).mono ?_
  rintro e w2 ⟨a, c, zs, q, rfl, hl, hc, hB, hL, hq, hr2, ho2⟩
  go_wp2_with fail
  refine (drawCutsN _ q zs.length _ (by omega) (by omega) (by omega) hr2).mono ?_
  rintro e w3 ⟨b, d, cs, q3, rfl, hl3, hc3, hB3, hL3, hq3, hr3, ho3⟩
  have hL := hL.onlyo ho3
  have hBR := hr3.lt
  have HK := Lib.hid (fun W (ho : Only w.heap.size w3 W) => (Only.keep ((ho2.trans ho3).trans ho) hb (Nat.le_refl _) : Keep w W))
  have HLs := Lib.hid (fun W (ho : Only w.heap.size w3 W) => And.intro (hL.onlyo ho).1 (hL3.onlyo ho).1)
  clear ho2 ho3 hL hL3 hb hs hr1 hr2 hB hB3
  generalize w.heap.size = B at *
  have hOf : OwnI (w3.alloc (.cells #[] 3)) w3.heap.size (.slice (some ⟨w3.heap.size, 0, none⟩) 0 0) [] := World.ownsRow_made w3 #[] 0 (Nat.le_refl _) (by unfold maxLen; omega) rfl
  obtain ⟨m, hm⟩ : ∃ m, cs.length = m := ⟨_, rfl⟩
  have hRes : ∀ (x : Option Addr) (f : Nat) (st : List Int) (n : Nat) W, st.length = n → n ≤ 14 → n ≤ f → Ls W x st → Only B w3 W → DrewAb w (.returned (.tuple #[.slice a zs.length c, .slice b m d, .slice x n f])) W := fun x f st n W h1 h2 h3 h4 h5 =>
    ⟨a, b, x, c, d, f, zs, cs, st, by rw [hm, h1], ⟨hl, hc⟩, ⟨hl3, hc3⟩, by omega, (HLs.out W h5).1, (HLs.out W h5).2, h4, HK.out W h5⟩
  have hm13 : m ≤ 13 := by omega
  replace hRes := Lib.hid hRes
  rw [hm]
  clear HK HLs hm hl3 hc3 hl hc
  go_wp2_with fail
  go_loopw [8, 9] (fun v i wr => ∃ (k : Nat) (zs : List Int), i = .int .i64 k ∧ k ≤ m + 1 ∧ Hid (zs.length = k) ∧ Hid (OwnI wr w3.heap.size v zs) ∧ (∃ q : Nat, q ≤ 60 + k ∧ Hid (Rd wr B q)) ∧ Only B w3 wr) (fun _ i _ => m + 1 - (intOf i).toNat)
  case atStart =>
    exact ⟨0, [], rfl, Nat.zero_le _, Lib.hid rfl, Lib.hid hOf, ⟨q3, by omega, Lib.hid (hr3.alloc _)⟩, (Only.refl B w3).alloc _⟩
  case round =>
    obtain ⟨k, st, rfl, hk, HL, HO, ⟨q, hq, HR⟩, hW⟩ := hrel
    clear hOf hr3
    have hsz := hW.size
    have k0 : (0 : Int) ≤ (k : Int) := by omega
    by_cases hlt : k ≤ m
    · have hlt2 : (k : Int) ≤ (m : Int) := by omega
      go_wp2_with fail
      refine (pick_any B q 60 _ (by omega) (by omega) HR.out).mono ?_
      rintro e w4 ⟨z, rfl, z0, z1, hr4, ho4, hs4⟩
      have HO4 := Lib.hid (HO.out.only ho4 hBR)
      have HR4 := Lib.hid hr4
      have hW4 := hW.trans ho4
      have hsz4 := hW4.size
      clear ho4 hs4 HO HR hW hsz hr4
      have hown : w4.ownsRow w3.heap.size 3 1 _ st.length (st.map (Value.int .i64)) := HO4.out
      go_wp2_with (at_builtin; refine wpList_append_own _ rfl _ _ 23 rfl w3.heap.size 3 i0 (.int .i64 0) 1 8 Try.underlying23 hi hz0 hz1 hz2 rfl (by decide) _ _ _ rfl (hown.alloc _) ⟨w4.heap.size, 0, none⟩ 1 1 [.int .i64 (z - 30)] rfl rfl ?c1a ?c2a ?c3a ?c4a ?c5a ?_)
      try case c1a =>
        intro j u hj
        match j, hj with
        | 0, hj => simp at hj; subst hj; simp [Addr.add]
      try case c2a => first | rfl | (intro u hu; simp at hu; subst hu; rfl)
      case c3a => unfold maxLen; have := HL.out; omega
      case c4a => have := HL.out; omega
      case c5a => have := HL.out; first | omega | (simp; omega)
      intro v' w9 hown' hgrow hnil
      have hrow : ∀ g, _ = some g → w3.heap.size ≤ g := fun g hg => (hown.lt g hg).1
      have HN : Hid (OwnI w9 w3.heap.size v' (st ++ [(z - 30)])) := Lib.hid (by unfold OwnI; simpa using hown')
      have HR9 := Lib.hid ((HR4.out.alloc _).grown2 hgrow hBR hrow)
      have HG := Lib.hid ((hW4.alloc _).grown2 hgrow hrow)
      clear hown' hgrow hnil hown hrow
      go_wp2
      go_roundw
      case rel => exact ⟨k + 1, st ++ [z - 30], by go_num, by omega, Lib.hid (by have := HL.out; simp; omega), HN, ⟨_, by omega, HR9⟩, HG.out⟩
      case measure => simp [intOf]; omega
    · have hlt2 : ¬ ((k : Int) ≤ (m : Int)) := by omega
      obtain rfl : k = m + 1 := by omega
      go_wp2_with fail
      refine (pick_any B q 16 _ (by omega) (by omega) HR.out).mono ?_
      rintro e w4 ⟨z, rfl, z0, z1, hr4, ho4, hs4⟩
      have HO4 := Lib.hid (HO.out.only ho4 hBR)
      have hW4 := hW.trans ho4
      clear ho4 hs4 HO HR hW hsz
      rcases (show z = 0 ∨ z = 1 ∨ ((z == 0) = false ∧ (z == 1) = false) by
        by_cases h0 : z = 0 <;> by_cases h1 : z = 1 <;> simp_all) with rfl | rfl | ⟨n0, n1⟩
      · have hmix : Try.prog.follows .mixedOrders = true := by kernel_rfl
        have HO := HO4
        have hW := hW4
        have hR := hr4
        have hsz := hW.size
        clear HO4 hW4 hr4 z0 z1
        go_wp2_with fail
        have hs0 : w4.heap.size < (w4.alloc (.cells #[.int .i64 (-20000), .int .i64 19999] 3)).heap.size := by simp
        have F1 : ∀ x, x < 2 → (w4.alloc (.cells #[.int .i64 (-20000), .int .i64 19999] 3)).cell? ⟨w4.heap.size, x, none⟩ = some (.int .i64 ([-20000, 19999].getD x 0)) := fun x hx => by rw [World.cell?_alloc_new]; rcases (show x = 0 ∨ x = 1 by omega) with rfl | rfl <;> rfl
        have n1 : w4.heap.size ≠ B := by have := hR.lt; omega
        refine (pick_any B (q + 1) 2 _ (by omega) (by omega) (hR.alloc _)).mono ?_
        rintro e w5 ⟨x, rfl, x0, x1, hr5, ho5, hs5⟩
        obtain ⟨j, rfl⟩ := Int.eq_ofNat_of_zero_le x0
        obtain ⟨u, hu⟩ : ∃ u, [-20000, 19999].getD j 0 = u := ⟨_, rfl⟩
        have s1 := (ho5.cell w4.heap.size j hs0 n1).trans (F1 j (by omega))
        rw [hu] at s1
        have HO5 := Lib.hid ((OwnI.keep HO.out ((Keep.refl w4).alloc (.cells #[.int .i64 (-20000), .int .i64 19999] 3))).only ho5 hBR)
        have hW5 := (hW.alloc (.cells #[.int .i64 (-20000), .int .i64 19999] 3)).trans ho5
        clear hu F1 n1 hs0 ho5 hs5 hr5 hR hW HO
        obtain ⟨g, cap, rfl, hgb, hgl, hcell⟩ := HO5.out.at_ (by have := HL.out; omega)
        obtain ⟨d0, f0⟩ := hcell 0 (by have := HL.out; omega)
        have hO9 := HO5.out.stored 0 u
        have HW9 := Lib.hid (hW5.setCell (b := g) (o := 0) hgb (.int .i64 u))
        have hcp := OwnI.capK HO5.out
        rw [List.length_set] at hO9
        rw [HL.out] at hO9 hcp ⊢
        have HF := Lib.hid (hRes.out (some ⟨g, 0, none⟩) cap (st.set 0 u) (m + 1) _ (by rw [List.length_set]; exact HL.out) (by omega) hcp (by obtain ⟨_, _, hv, h9⟩ := OwnI.ls hO9; injection hv with e1 _ _; rw [e1]; exact h9) HW9.out)
        generalize st.getD 0 0 = dv at d0
        have zl : (0 : Int) < ((m + 1 : Nat) : Int) := by omega
        have zl2 : (0 : Int) < (m : Int) + 1 := by omega
        clear hcell hW5 HO5 hO9 HW9
        go_wp2
        go_ret3
        exact HF.out
      · obtain ⟨g, cap, rfl, hgb, hgl, hcell⟩ := HO4.out.at_ (by have := HL.out; omega)
        have hT := OwnI.tail HO4.out rfl
        have hcp := OwnI.capK HO4.out
        rw [HL.out] at hcp ⊢
        have HLn : Hid ((st.drop 1).length = m) := Lib.hid (by have := HL.out; rw [List.length_drop]; omega)
        clear hcell HO4
        have hmix : Try.prog.follows .mixedOrders = true := by kernel_rfl
        have hcp2 : (1 : Int) ≤ ((m : Int) + 1) := by omega
        have hcp3 : ((m : Int) + 1) ≤ (cap : Int) := by omega
        rcases (show cap = 1 ∨ 1 < cap by omega) with rfl | hc1
        · obtain rfl : m = 0 := by omega
          have HF := Lib.hid (hRes.out (some ⟨g, 0, none⟩) 0 (st.drop 1) 0 w4.drew HLn.out (by omega) (by omega) (.inl (List.eq_nil_of_length_eq_zero HLn.out)) (hW4.trans ⟨rfl, rfl, rfl, Nat.le_refl _, fun _ _ _ => rfl⟩))
          go_wp2_with fail
          refine wp_region_any hmix ?_
          (try (change wpAny _ _ _ _ _ _ _ (World.drew _)))
          refine wpAny_take (i := 0) (oi := ({ dst := some 44, op := Op.move (Operand.tmp 6), type := 23, pos := "l92_draw.go:168", after := #[], guard := none })) (v := ?v1) rfl (by kernel_rfl) (by kernel_rfl) (by kernel_rfl) (fun _ _ _ h => h) (Or.inl ⟨by rfl, ?hy1⟩) ?rest1
          case hy1 => (intro w; go_simp; try with_reducible rfl)
          try simp only [Act.put, List.setIfInBounds_toArray, List.set_cons_zero, List.set_cons_succ]
          refine wpAny_take (i := 1) (oi := ({ dst := some 45, op := Op.move (Operand.tmp 7), type := 23, pos := "l92_draw.go:168", after := #[{ on := 4, ground := Ground.gcOnly Departure.lateStores }], guard := none })) (v := ?v2) rfl (by kernel_rfl) (by kernel_rfl) (by kernel_rfl) (fun _ _ _ h => h) (Or.inl ⟨by rfl, ?hy2⟩) ?rest2
          case hy2 => (intro w; go_simp; try with_reducible rfl)
          try simp only [Act.put, List.setIfInBounds_toArray, List.set_cons_zero, List.set_cons_succ]
          refine wpAny_take (i := 2) (oi := ({ dst := some 46, op := Op.move (Operand.tmp 8), type := 23, pos := "l92_draw.go:168", after := #[], guard := none })) (v := ?v3) rfl (by kernel_rfl) (by kernel_rfl) (by kernel_rfl) (fun _ _ _ h => h) (Or.inl ⟨by rfl, ?hy3⟩) ?rest3
          case hy3 => (intro w; go_simp; try with_reducible rfl)
          try simp only [Act.put, List.setIfInBounds_toArray, List.set_cons_zero, List.set_cons_succ]
          refine wpAny_take (i := 3) (oi := ({ dst := some 47, op := Op.slice 23 (Operand.tmp 46) (some (Operand.const (Value.int IntKind.i64 1))) none none, type := 23, pos := "l92_draw.go:168", after := #[{ on := 2, ground := Ground.data }], guard := none })) (v := ?v4) rfl (by kernel_rfl) (by kernel_rfl) (by kernel_rfl) (fun _ _ _ h => h) (Or.inl ⟨by rfl, ?hy4⟩) ?rest4
          case hy4 => (intro w; go_simp; try with_reducible rfl)
          try simp only [Act.put, List.setIfInBounds_toArray, List.set_cons_zero, List.set_cons_succ]
          refine wpAny_take (i := 4) (oi := ({ dst := some 2, op := Op.assign (Operand.tmp 44), type := 23, pos := "l92_draw.go:168", after := #[{ on := 0, ground := Ground.data }, { on := 0, ground := Ground.phase }, { on := 1, ground := Ground.textOnly Departure.lateStores }, { on := 2, ground := Ground.textOnly Departure.lateStores }, { on := 3, ground := Ground.textOnly Departure.lateStoresUnsure }], guard := none })) (v := ?v5) rfl (by kernel_rfl) (by kernel_rfl) (by kernel_rfl) (fun _ _ _ h => h) (Or.inl ⟨by rfl, ?hy5⟩) ?rest5
          case hy5 => (intro w; go_simp; try with_reducible rfl)
          try simp only [Act.put, List.setIfInBounds_toArray, List.set_cons_zero, List.set_cons_succ]
          refine wpAny_take (i := 5) (oi := ({ dst := some 3, op := Op.assign (Operand.tmp 45), type := 23, pos := "l92_draw.go:168", after := #[{ on := 1, ground := Ground.data }, { on := 4, ground := Ground.chain }, { on := 0, ground := Ground.phase }, { on := 1, ground := Ground.phase }, { on := 2, ground := Ground.textOnly Departure.lateStores }, { on := 3, ground := Ground.textOnly Departure.lateStoresUnsure }, { on := 4, ground := Ground.phase }], guard := none })) (v := ?v6) rfl (by kernel_rfl) (by kernel_rfl) (by kernel_rfl) (fun _ _ _ h => h) (Or.inl ⟨by rfl, ?hy6⟩) ?rest6
          case hy6 => (intro w; go_simp; try with_reducible rfl)
          try simp only [Act.put, List.setIfInBounds_toArray, List.set_cons_zero, List.set_cons_succ]
          refine wpAny_take (i := 6) (oi := ({ dst := some 4, op := Op.assign (Operand.tmp 47), type := 23, pos := "l92_draw.go:168", after := #[{ on := 3, ground := Ground.data }, { on := 5, ground := Ground.chain }, { on := 0, ground := Ground.phase }, { on := 1, ground := Ground.phase }, { on := 2, ground := Ground.phase }, { on := 3, ground := Ground.phase }, { on := 4, ground := Ground.phase }, { on := 5, ground := Ground.phase }], guard := none })) (v := ?v7) rfl (by kernel_rfl) (by kernel_rfl) (by kernel_rfl) (fun _ _ _ h => h) (Or.inl ⟨by rfl, ?hy7⟩) ?rest7
          case hy7 => (intro w; go_simp; try with_reducible rfl)
          try simp only [Act.put, List.setIfInBounds_toArray, List.set_cons_zero, List.set_cons_succ]
          refine wpAny_done (by kernel_rfl) ?_ _
          go_wp2
          go_ret3
          exact HF.out
        · have HF := Lib.hid (hRes.out (some ⟨g, 1, none⟩) (cap - 1) (st.drop 1) m w4.drew HLn.out (by omega) (by omega) hT (hW4.trans ⟨rfl, rfl, rfl, Nat.le_refl _, fun _ _ _ => rfl⟩))
          have hcp4 : (1 : Int) < (cap : Int) := by omega
          have hcp5 : ¬ cap = 1 := by omega
          go_wp2_with fail
          refine wp_region_any hmix ?_
          (try (change wpAny _ _ _ _ _ _ _ (World.drew _)))
          refine wpAny_take (i := 0) (oi := ({ dst := some 44, op := Op.move (Operand.tmp 6), type := 23, pos := "l92_draw.go:168", after := #[], guard := none })) (v := ?v8) rfl (by kernel_rfl) (by kernel_rfl) (by kernel_rfl) (fun _ _ _ h => h) (Or.inl ⟨by rfl, ?hy8⟩) ?rest8
          case hy8 => (intro w; go_simp; try with_reducible rfl)
          try simp only [Act.put, List.setIfInBounds_toArray, List.set_cons_zero, List.set_cons_succ]
          refine wpAny_take (i := 1) (oi := ({ dst := some 45, op := Op.move (Operand.tmp 7), type := 23, pos := "l92_draw.go:168", after := #[{ on := 4, ground := Ground.gcOnly Departure.lateStores }], guard := none })) (v := ?v9) rfl (by kernel_rfl) (by kernel_rfl) (by kernel_rfl) (fun _ _ _ h => h) (Or.inl ⟨by rfl, ?hy9⟩) ?rest9
          case hy9 => (intro w; go_simp; try with_reducible rfl)
          try simp only [Act.put, List.setIfInBounds_toArray, List.set_cons_zero, List.set_cons_succ]
          refine wpAny_take (i := 2) (oi := ({ dst := some 46, op := Op.move (Operand.tmp 8), type := 23, pos := "l92_draw.go:168", after := #[], guard := none })) (v := ?v10) rfl (by kernel_rfl) (by kernel_rfl) (by kernel_rfl) (fun _ _ _ h => h) (Or.inl ⟨by rfl, ?hy10⟩) ?rest10
          case hy10 => (intro w; go_simp; try with_reducible rfl)
          try simp only [Act.put, List.setIfInBounds_toArray, List.set_cons_zero, List.set_cons_succ]
          refine wpAny_take (i := 3) (oi := ({ dst := some 47, op := Op.slice 23 (Operand.tmp 46) (some (Operand.const (Value.int IntKind.i64 1))) none none, type := 23, pos := "l92_draw.go:168", after := #[{ on := 2, ground := Ground.data }], guard := none })) (v := ?v11) rfl (by kernel_rfl) (by kernel_rfl) (by kernel_rfl) (fun _ _ _ h => h) (Or.inl ⟨by rfl, ?hy11⟩) ?rest11
          case hy11 => (intro w; go_simp; try with_reducible rfl)
          try simp only [Act.put, List.setIfInBounds_toArray, List.set_cons_zero, List.set_cons_succ]
          refine wpAny_take (i := 4) (oi := ({ dst := some 2, op := Op.assign (Operand.tmp 44), type := 23, pos := "l92_draw.go:168", after := #[{ on := 0, ground := Ground.data }, { on := 0, ground := Ground.phase }, { on := 1, ground := Ground.textOnly Departure.lateStores }, { on := 2, ground := Ground.textOnly Departure.lateStores }, { on := 3, ground := Ground.textOnly Departure.lateStoresUnsure }], guard := none })) (v := ?v12) rfl (by kernel_rfl) (by kernel_rfl) (by kernel_rfl) (fun _ _ _ h => h) (Or.inl ⟨by rfl, ?hy12⟩) ?rest12
          case hy12 => (intro w; go_simp; try with_reducible rfl)
          try simp only [Act.put, List.setIfInBounds_toArray, List.set_cons_zero, List.set_cons_succ]
          refine wpAny_take (i := 5) (oi := ({ dst := some 3, op := Op.assign (Operand.tmp 45), type := 23, pos := "l92_draw.go:168", after := #[{ on := 1, ground := Ground.data }, { on := 4, ground := Ground.chain }, { on := 0, ground := Ground.phase }, { on := 1, ground := Ground.phase }, { on := 2, ground := Ground.textOnly Departure.lateStores }, { on := 3, ground := Ground.textOnly Departure.lateStoresUnsure }, { on := 4, ground := Ground.phase }], guard := none })) (v := ?v13) rfl (by kernel_rfl) (by kernel_rfl) (by kernel_rfl) (fun _ _ _ h => h) (Or.inl ⟨by rfl, ?hy13⟩) ?rest13
          case hy13 => (intro w; go_simp; try with_reducible rfl)
          try simp only [Act.put, List.setIfInBounds_toArray, List.set_cons_zero, List.set_cons_succ]
          refine wpAny_take (i := 6) (oi := ({ dst := some 4, op := Op.assign (Operand.tmp 47), type := 23, pos := "l92_draw.go:168", after := #[{ on := 3, ground := Ground.data }, { on := 5, ground := Ground.chain }, { on := 0, ground := Ground.phase }, { on := 1, ground := Ground.phase }, { on := 2, ground := Ground.phase }, { on := 3, ground := Ground.phase }, { on := 4, ground := Ground.phase }, { on := 5, ground := Ground.phase }], guard := none })) (v := ?v14) rfl (by kernel_rfl) (by kernel_rfl) (by kernel_rfl) (fun _ _ _ h => h) (Or.inl ⟨by rfl, ?hy14⟩) ?rest14
          case hy14 => (intro w; go_simp; try with_reducible rfl)
          try simp only [Act.put, List.setIfInBounds_toArray, List.set_cons_zero, List.set_cons_succ]
          refine wpAny_done (by kernel_rfl) ?_ _
          go_wp2
          go_ret3
          exact HF.out
      · obtain ⟨g, cap, rfl, hgb, hgl, hcell⟩ := HO4.out.at_ (by have := HL.out; omega)
        have hT := OwnI.ls HO4.out
        have hcp := OwnI.capK HO4.out
        rw [HL.out] at hcp ⊢
        go_wp2
        go_ret3
        exact hRes.out _ _ st _ _ HL.out (by omega) hcp (by obtain ⟨_, _, hv, h9⟩ := hT; injection hv with e1 _ _; rw [e1]; exact h9) hW4
end Go.Proofs.Ytehjjoalnfpgdaa
