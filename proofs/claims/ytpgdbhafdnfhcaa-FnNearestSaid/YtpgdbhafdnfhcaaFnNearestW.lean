/- P52: nearer stations come first. -/
import Derived.Test.YtpgdbhafdnfhcaaDrSj
import Derived.Test.YtpgdbhafdnfhcaaNw
import Derived.Test.YtpgdbhafdnfhcaaFr
import Derived.LoopTactic
import Derived.IntWalk
import Derived.Deep.RegionHeld3
import Derived.BigQuiet
namespace Go.Proofs.Ytpgdbhafdnfhcaa
open Go.RowKit
set_option linter.unusedVariables false

theorem ls_take {w : World} {a : Option Addr} {zs : List Int} (h : Ls w a zs) (n : Nat) : Ls w a (zs.take n) := by
  rcases h with rfl | ⟨b, off, ha, hb, h⟩
  · left; simp
  · refine .inr ⟨b, off, ha, hb, fun i hi => ?_⟩
    rw [List.length_take] at hi
    have e : (zs.take n).getD i 0 = zs.getD i 0 := by simp [List.getD_eq_getElem?_getD, show i < n by omega]
    rw [e]; exact h i (by omega)
set_option maxRecDepth 100000 in
set_option maxHeartbeats 6400000 in
theorem walk_FnNearest (a0 : Option Addr) (len0 cap0 : Nat) (z0 : List Int) (w : World) (w0 : IsRow .u8 w a0 len0 cap0 z0) :
    Calls Try.prog 12 #[.slice a0 len0 cap0] w fun e w' => e = .returned (.bool true) ∧ Below w.heap.size w w' := by
  have ha := code_of_row w0
  obtain ⟨hl0, hm0⟩ := ha.1
  unfold maxLen at hm0
  clear w0
  by_cases h : len0 ≤ 1048576
  case' neg =>
    have hd : decide (1048576 < (len0 : Int)) = true := by simp; omega
    go_enter Try.func12, Try.ntmps12
    go_wp2
    go_ret
    exact ⟨rfl, Below.refl _ _⟩
  have hd : decide (1048576 < (len0 : Int)) = false := by simp; omega
  go_enter Try.func12, Try.ntmps12
  go_wp2_with fail
  refine (drawNearestOf a0 len0 cap0 _ ha).mono ?_
  rintro e w1 ⟨g0, c0, ts, st, many, rfl, hl7, hcl, hS1, ⟨mn, mx⟩, k1⟩
  clear ha
  have hz := nrL_len ts st many
  go_wp2_with fail
  refine (nr_impl _ c0 ts st many _ hS1 (by omega)).mono ?_
  rintro e w2 ⟨p, q, rfl, hpq, hF2, k2⟩
  go_wp2_with fail
  refine (nr_spec _ c0 ts st many _ (hS1.keep k2) (by omega)).mono ?_
  rintro e w3 ⟨g3, q3, rfl, hq3, hW3, hg3, hl3, k3⟩
  have K3 : Keep w w3 := (k1.trans k2).trans k3
  have hO := hF2.ls.keep k3
  have hT := (hS1.keep k2).keep k3
  have HSE := Lib.hid (fun W (k : Keep w3 W) => sI_eq p (some ⟨g3, 0, none⟩) q q3 (nrL ts st many) W (hO.keep k) (hW3.ls.keep k) (by omega))
  clear hF2 hW3 hS1 k1 k2 k3
  have HSO := Lib.hid (fun W (k : Keep w3 W) => siteOf_any (some ⟨g0, 0, none⟩) c0 ts st W (hT.keep k) (by omega))
  have HSI := Lib.hid (fun W (k : Keep w3 W) o => siteOf_any (some ⟨g0, 0, none⟩) c0 ts o W (hT.keep k) (by omega))
  have HO := Lib.hid hO
  have HOKL : Hid (0 < (nrL ts st many).length → nrOk ts st many = true) := Lib.hid (fun h0 => by
    rcases Bool.eq_false_or_eq_true (nrOk ts st many) with h9 | h9
    · exact h9
    · rw [nrL_no h9] at h0; simp at h0)
  have HNA := Lib.hid (fun (h : nrOk ts st many = true) i hi => nr_at (i := i) h hi)
  have HON := Lib.hid (fun (h : nrOk ts st many = true) i hi => nr_once (i := i) h hi)
  have HPC := Lib.hid (fun (h : nrOk ts st many = true) => plc_at (nrOk_facts h).2.1)
  have HPL := Lib.hid (fun (h : nrOk ts st many = true) => (nrOk_facts h).2.1)
  have HSB := Lib.hid (fun (h : nrOk ts st many = true) => (nrOk_facts h).1)
  obtain ⟨pp, hpp⟩ : ∃ pp, plc ts st = pp := ⟨_, rfl⟩
  rw [hpp] at HSO HNA HPC HPL
  obtain ⟨c, hc⟩ : ∃ c, ts.getD pp t0 = c := ⟨_, rfl⟩
  rw [hc] at HSO HPC
  have HC := Lib.hid hc
  unfold ag at HSO
  clear hc hpp hO hT
  generalize nrL ts st many = L at *
  obtain ⟨cs, hcs⟩ : ∃ x, tS c = x := ⟨_, rfl⟩
  obtain ⟨cx, hcx⟩ : ∃ x, tX c = x := ⟨_, rfl⟩
  obtain ⟨cy, hcy⟩ : ∃ x, tY c = x := ⟨_, rfl⟩
  have HCC : Hid (ag c = .agg #[.int .i64 cs, .int .i64 cx, .int .i64 cy]) := Lib.hid (by unfold ag; rw [hcs, hcx, hcy])
  have HCS := Lib.hid hcs
  rw [hcs, hcx, hcy] at HSO
  clear hcs hcx hcy
  go_wp2_with fail
  refine (HSE.out _ (Keep.refl _)).mono ?_
  rintro e w4 ⟨rfl, k4⟩
  go_wp2_with fail
  refine (HSO.out _ k4).mono ?_
  rintro e w5 ⟨rfl, k5⟩
  have H0 := (World.cell?_alloc_new w5 #[.int .i64 cs, .int .i64 cx, .int .i64 cy] 62 0)
  have H1 := (World.cell?_alloc_new w5 #[.int .i64 cs, .int .i64 cx, .int .i64 cy] 62 1)
  have H2 := (World.cell?_alloc_new w5 #[.int .i64 cs, .int .i64 cx, .int .i64 cy] 62 2)
  have H0 := Lib.hid H0
  have H1 := Lib.hid H1
  have H2 := Lib.hid H2
  have K5 : Hid (Keep w3 (w5.alloc (.cells #[.int .i64 cs, .int .i64 cx, .int .i64 cy] 62))) := Lib.hid ((k4.trans k5).alloc _)
  clear k4 k5 HSO
  go_wp2_with fail
  go_loopw [9] (fun i wr => ∃ k : Nat, k ≤ L.length ∧ i = .int .i64 k ∧ Keep (w5.alloc (.cells #[.int .i64 cs, .int .i64 cx, .int .i64 cy] 62)) wr) (fun i _ => L.length - (intOf i).toNat)
  case atStart => exact ⟨0, by omega, rfl, Keep.refl _⟩
  case round =>
    obtain ⟨k, hk, rfl, hK⟩ := hrel
    by_cases hlt : k < L.length
    case' neg =>
      go_wp2
      go_ret
      exact ⟨rfl, (K3.trans K5.out).trans hK⟩
    have h0 := Lib.hid (hK.cell H0.out)
    have h1 := Lib.hid (hK.cell H1.out)
    have h2 := Lib.hid (hK.cell H2.out)
    have hKW := K5.out.trans hK
    have HOk := Lib.hid (HOKL.out (by omega))
    have HTC := Lib.hid (HC.out ▸ si_tB (HSB.out HOk.out) (HPL.out HOk.out) : tB c = true)
    have hcase : k = 0 ∨ ∃ u, Hid (u + 1 = k) := by
      cases k with
      | zero => exact .inl rfl
      | succ u => exact .inr ⟨u, Lib.hid rfl⟩
    obtain ⟨bh, hbh⟩ : ∃ bh, w5.heap.size = bh := ⟨_, rfl⟩
    rw [hbh] at h0 h1 h2
    have HBH := Lib.hid hbh
    obtain ⟨q0, hq0, hqp, hnr, hLq, hpq0, hil, hkm⟩ := HNA.out HOk.out k hlt
    have HNR := Lib.hid hnr
    have HIL := Lib.hid hil
    have HTR := Lib.hid (si_tB (HSB.out HOk.out) hq0)
    have hS1 := HSI.out wr hKW (L.getD k 0)
    have HSW := Lib.hid (fun W (hw : Keep wr W) => HSI.out W (hKW.trans hw))
    rw [hpq0] at hS1
    have hon := HON.out HOk.out k hlt
    obtain ⟨b, off, hpe, _, hcell⟩ := (HO.out.keep hKW).all (by omega)
    have HCELL := Lib.hid hcell
    have HLI := Lib.hid (fun W (hw : Keep wr W) => hasI_any p q (L.take k) (L.getD k 0) W (ls_take ((HO.out.keep hKW).keep hw) k) (by rw [List.length_take]; omega))
    have hlk : (L.take k).length = k := by rw [List.length_take]; omega
    rw [decide_eq_false hon, hlk] at HLI
    have HOS := Lib.hid (show L.getD k 0 ≠ st from fun e => hqp (si_inj (HSB.out HOk.out) hq0 (HPL.out HOk.out) (by rw [HC.out, HPC.out HOk.out, ← e, hLq])))
    have HS1 := Lib.hid (fun W (hw : Keep wr W) => HSW.out W hw (L.getD k 0))
    rw [hpq0] at HS1
    obtain ⟨r, hr⟩ : ∃ r, ts.getD q0 t0 = r := ⟨_, rfl⟩
    have hRO : tS r = L.getD k 0 := by rw [hLq, hr]
    rw [hr] at HS1 HTR HNR
    obtain ⟨o, ho⟩ : ∃ o, L.getD k 0 = o := ⟨_, rfl⟩
    have hcc := HCELL.out k hlt
    rw [ho] at HLI HOS HS1 hRO hcc
    have hos : (o == st) = false := beq_eq_false_iff_ne.2 HOS.out
    have hoo : (o != o) = false := by simp
    have HFa := Lib.hid (fun W => wfar r c HTR.out HTC.out W)
    unfold ag at HS1 HFa
    have hcs2 := HCS.out
    have hcx2 : tX c = cx := by have := HCC.out; unfold ag at this; simp at this; exact this.2.1
    have hcy2 : tY c = cy := by have := HCC.out; unfold ag at this; simp at this; exact this.2.2
    rw [hRO] at HS1 HFa
    rw [hcs2, hcx2, hcy2] at HFa
    have hfd := fldSite
    subst hpe
    have k0 : (0 : Int) ≤ (k : Int) := by omega
    have kz : (k : Int) < (L.length : Int) := by omega
    have kq : (k : Int) ≤ (q : Int) := by omega
    have HI := Lib.hid (fun W (hw : Keep wr W) => (HLI.out W hw).mono fun e w' (hh : e = .returned (.bool false) ∧ W = w') => (⟨hh.1, hh.2 ▸ Keep.refl W⟩ : e = .returned (.bool false) ∧ Keep W w'))
    have HSI2 := HSI
    clear hS1 hon hcell hLq hpq0 hqp ho hr HLI hlk HSI HON HCC hnr hil HSW
    rcases hcase with rfl | ⟨u, HUK⟩
    · have hg0 : decide ((0 : Int) < ((0 : Nat) : Int)) = false := by decide
      have hg1 : ¬ (0 : Int) < ((0 : Nat) : Int) := by decide
      generalize tX r = x at *
      generalize tY r = y at *
      generalize far r c = fr at *
      clear HNA HNR HCELL
      obtain ⟨W0, rfl⟩ : ∃ W0 : World, W0 = wr := ⟨_, rfl⟩
      have co := hcc
      simp only [Nat.add_zero] at co
      replace h0 := h0.out
      replace h1 := h1.out
      replace h2 := h2.out
      clear hcc
      have hKK := hK
      clear hbh
      go_wp2_with fail
      rw [HBH.out]
      have HSa : ∀ W, Keep W0 W → (Keep W0 W ∧ W.cell? ⟨b, off, none⟩ = some (.int .i64 o) ∧ W.cell? ⟨bh, 0, none⟩ = some (.int .i64 cs) ∧ W.cell? ⟨bh, 1, none⟩ = some (.int .i64 cx) ∧ W.cell? ⟨bh, 2, none⟩ = some (.int .i64 cy)) := fun W kW => ⟨kW, kW.cell co, kW.cell h0, kW.cell h1, kW.cell h2⟩
      refine wp_region_held_drew (S := (fun w' => Keep W0 w' ∧ w'.cell? ⟨b, off, none⟩ = some (.int .i64 o) ∧ w'.cell? ⟨bh, 0, none⟩ = some (.int .i64 cs) ∧ w'.cell? ⟨bh, 1, none⟩ = some (.int .i64 cx) ∧ w'.cell? ⟨bh, 2, none⟩ = some (.int .i64 cy))) (by kernel_rfl) (HSa _ ((Keep.refl W0).drewN 1)) (fun hHeld => ?_)
      refine wpAnyH_take (i := 0) (oi := ({ dst := some 43, op := Op.move (Operand.tmp 6), type := 43, pos := "laws.go:976", after := #[], guard := none })) (v := ?v1) rfl (by kernel_rfl) (by kernel_rfl) (by kernel_rfl) (fun _ _ _ h => h) (Or.inl ⟨by rfl, ?hy1⟩) hHeld ?rest1
      case hy1 => (intro w' hSw; (try dsimp only at hSw); go_split_ands; go_simp; try with_reducible rfl)
      try simp only [Act.put, List.setIfInBounds_toArray, List.set_cons_zero, List.set_cons_succ]
      refine wpAnyH_take (i := 1) (oi := ({ dst := some 44, op := Op.move (Operand.tmp 9), type := 3, pos := "laws.go:976", after := #[], guard := none })) (v := ?v2) rfl (by kernel_rfl) (by kernel_rfl) (by kernel_rfl) (fun _ _ _ h => h) (Or.inl ⟨by rfl, ?hy2⟩) hHeld ?rest2
      case hy2 => (intro w' hSw; (try dsimp only at hSw); go_split_ands; go_simp; try with_reducible rfl)
      try simp only [Act.put, List.setIfInBounds_toArray, List.set_cons_zero, List.set_cons_succ]
      refine wpAnyH_take (i := 2) (oi := ({ dst := some 45, op := Op.indexAddr 43 (Operand.tmp 43) (Operand.tmp 44), type := 0, pos := "laws.go:976", after := #[{ on := 0, ground := Ground.data }, { on := 1, ground := Ground.data }], guard := none })) (v := ?v3) rfl (by kernel_rfl) (by kernel_rfl) (by kernel_rfl) (fun _ _ _ h => h) (Or.inl ⟨by rfl, ?hy3⟩) hHeld ?rest3
      case hy3 => (intro w' hSw; (try dsimp only at hSw); go_split_ands; go_simp; try with_reducible rfl)
      try simp only [Act.put, List.setIfInBounds_toArray, List.set_cons_zero, List.set_cons_succ]
      refine wpAnyH_take (i := 3) (oi := ({ dst := some 46, op := Op.load 3 (Operand.tmp 45), type := 3, pos := "laws.go:976", after := #[{ on := 2, ground := Ground.data }], guard := none })) (v := ?v4) rfl (by kernel_rfl) (by kernel_rfl) (by kernel_rfl) (fun _ _ _ h => h) (Or.inl ⟨by rfl, ?hy4⟩) hHeld ?rest4
      case hy4 => (intro w' hSw; (try dsimp only at hSw); go_split_ands; go_simp; try with_reducible rfl)
      try simp only [Act.put, List.setIfInBounds_toArray, List.set_cons_zero, List.set_cons_succ]
      refine wpAnyH_take (i := 4) (oi := ({ dst := some 47, op := Op.move (Operand.tmp 4), type := 3, pos := "laws.go:976", after := #[], guard := none })) (v := ?v5) rfl (by kernel_rfl) (by kernel_rfl) (by kernel_rfl) (fun _ _ _ h => h) (Or.inl ⟨by rfl, ?hy5⟩) hHeld ?rest5
      case hy5 => (intro w' hSw; (try dsimp only at hSw); go_split_ands; go_simp; try with_reducible rfl)
      try simp only [Act.put, List.setIfInBounds_toArray, List.set_cons_zero, List.set_cons_succ]
      refine wpAnyH_take (i := 5) (oi := ({ dst := some 48, op := Op.binOp BinOp.eql 3 (Operand.tmp 46) (Operand.tmp 47) 3, type := 4, pos := "laws.go:976", after := #[{ on := 3, ground := Ground.data }, { on := 4, ground := Ground.data }], guard := none })) (v := ?v6) rfl (by kernel_rfl) (by kernel_rfl) (by kernel_rfl) (fun _ _ _ h => h) (Or.inl ⟨by rfl, ?hy6⟩) hHeld ?rest6
      case hy6 => (intro w' hSw; (try dsimp only at hSw); go_split_ands; go_simp; try with_reducible rfl)
      try simp only [Act.put, List.setIfInBounds_toArray, List.set_cons_zero, List.set_cons_succ]
      refine wpAnyH_take (i := 6) (oi := ({ dst := some 49, op := Op.move (Operand.tmp 48), type := 4, pos := "laws.go:976", after := #[{ on := 5, ground := Ground.data }], guard := none })) (v := ?v7) rfl (by kernel_rfl) (by kernel_rfl) (by kernel_rfl) (fun _ _ _ h => h) (Or.inl ⟨by rfl, ?hy7⟩) hHeld ?rest7
      case hy7 => (intro w' hSw; (try dsimp only at hSw); go_split_ands; go_simp; try with_reducible rfl)
      try simp only [Act.put, List.setIfInBounds_toArray, List.set_cons_zero, List.set_cons_succ]
      refine wpAnyH_take (i := 7) (oi := ({ dst := some 50, op := Op.move (Operand.tmp 3), type := 56, pos := "laws.go:976", after := #[{ on := 6, ground := Ground.guard }], guard := some (6, false) })) (v := ?v8) rfl (by kernel_rfl) (by kernel_rfl) (by kernel_rfl) (fun _ _ _ h => h) (Or.inl ⟨by rfl, ?hy8⟩) hHeld ?rest8
      case hy8 => (intro w' hSw; (try dsimp only at hSw); go_split_ands; go_simp; try with_reducible rfl)
      try simp only [Act.put, List.setIfInBounds_toArray, List.set_cons_zero, List.set_cons_succ]
      refine wpAnyH_take (i := 8) (oi := ({ dst := some 51, op := Op.move (Operand.tmp 6), type := 43, pos := "laws.go:976", after := #[{ on := 6, ground := Ground.guard }], guard := some (6, false) })) (v := ?v9) rfl (by kernel_rfl) (by kernel_rfl) (by kernel_rfl) (fun _ _ _ h => h) (Or.inl ⟨by rfl, ?hy9⟩) hHeld ?rest9
      case hy9 => (intro w' hSw; (try dsimp only at hSw); go_split_ands; go_simp; try with_reducible rfl)
      try simp only [Act.put, List.setIfInBounds_toArray, List.set_cons_zero, List.set_cons_succ]
      refine wpAnyH_take (i := 9) (oi := ({ dst := some 52, op := Op.move (Operand.tmp 9), type := 3, pos := "laws.go:976", after := #[{ on := 6, ground := Ground.guard }], guard := some (6, false) })) (v := ?v10) rfl (by kernel_rfl) (by kernel_rfl) (by kernel_rfl) (fun _ _ _ h => h) (Or.inl ⟨by rfl, ?hy10⟩) hHeld ?rest10
      case hy10 => (intro w' hSw; (try dsimp only at hSw); go_split_ands; go_simp; try with_reducible rfl)
      try simp only [Act.put, List.setIfInBounds_toArray, List.set_cons_zero, List.set_cons_succ]
      refine wpAnyH_take (i := 10) (oi := ({ dst := some 53, op := Op.indexAddr 43 (Operand.tmp 51) (Operand.tmp 52), type := 0, pos := "laws.go:976", after := #[{ on := 8, ground := Ground.data }, { on := 9, ground := Ground.data }, { on := 6, ground := Ground.guard }], guard := some (6, false) })) (v := ?v11) rfl (by kernel_rfl) (by kernel_rfl) (by kernel_rfl) (fun _ _ _ h => h) (Or.inl ⟨by rfl, ?hy11⟩) hHeld ?rest11
      case hy11 => (intro w' hSw; (try dsimp only at hSw); go_split_ands; go_simp; try with_reducible rfl)
      try simp only [Act.put, List.setIfInBounds_toArray, List.set_cons_zero, List.set_cons_succ]
      refine wpAnyH_take (i := 11) (oi := ({ dst := some 54, op := Op.load 3 (Operand.tmp 53), type := 3, pos := "laws.go:976", after := #[{ on := 10, ground := Ground.data }, { on := 6, ground := Ground.guard }], guard := some (6, false) })) (v := ?v12) rfl (by kernel_rfl) (by kernel_rfl) (by kernel_rfl) (fun _ _ _ h => h) (Or.inl ⟨by rfl, ?hy12⟩) hHeld ?rest12
      case hy12 => (intro w' hSw; (try dsimp only at hSw); go_split_ands; go_simp; try with_reducible rfl)
      try simp only [Act.put, List.setIfInBounds_toArray, List.set_cons_zero, List.set_cons_succ]
      refine wpAnyH_take (i := 14) (oi := ({ dst := some 57, op := Op.move (Operand.tmp 6), type := 43, pos := "laws.go:976", after := #[{ on := 6, ground := Ground.guard }], guard := some (6, false) })) (v := ?v13) rfl (by kernel_rfl) (by kernel_rfl) (by kernel_rfl) (fun _ _ _ h => h) (Or.inl ⟨by rfl, ?hy13⟩) hHeld ?rest13
      case hy13 => (intro w' hSw; (try dsimp only at hSw); go_split_ands; go_simp; try with_reducible rfl)
      try simp only [Act.put, List.setIfInBounds_toArray, List.set_cons_zero, List.set_cons_succ]
      refine wpAnyH_take (i := 15) (oi := ({ dst := some 58, op := Op.move (Operand.tmp 9), type := 3, pos := "laws.go:976", after := #[{ on := 6, ground := Ground.guard }], guard := some (6, false) })) (v := ?v14) rfl (by kernel_rfl) (by kernel_rfl) (by kernel_rfl) (fun _ _ _ h => h) (Or.inl ⟨by rfl, ?hy14⟩) hHeld ?rest14
      case hy14 => (intro w' hSw; (try dsimp only at hSw); go_split_ands; go_simp; try with_reducible rfl)
      try simp only [Act.put, List.setIfInBounds_toArray, List.set_cons_zero, List.set_cons_succ]
      refine wpAnyH_take (i := 16) (oi := ({ dst := some 59, op := Op.indexAddr 43 (Operand.tmp 57) (Operand.tmp 58), type := 0, pos := "laws.go:976", after := #[{ on := 14, ground := Ground.data }, { on := 15, ground := Ground.data }, { on := 6, ground := Ground.guard }], guard := some (6, false) })) (v := ?v15) rfl (by kernel_rfl) (by kernel_rfl) (by kernel_rfl) (fun _ _ _ h => h) (Or.inl ⟨by rfl, ?hy15⟩) hHeld ?rest15
      case hy15 => (intro w' hSw; (try dsimp only at hSw); go_split_ands; go_simp; try with_reducible rfl)
      try simp only [Act.put, List.setIfInBounds_toArray, List.set_cons_zero, List.set_cons_succ]
      refine wpAnyH_take (i := 17) (oi := ({ dst := some 60, op := Op.load 3 (Operand.tmp 59), type := 3, pos := "laws.go:976", after := #[{ on := 16, ground := Ground.data }, { on := 6, ground := Ground.guard }], guard := some (6, false) })) (v := ?v16) rfl (by kernel_rfl) (by kernel_rfl) (by kernel_rfl) (fun _ _ _ h => h) (Or.inl ⟨by rfl, ?hy16⟩) hHeld ?rest16
      case hy16 => (intro w' hSw; (try dsimp only at hSw); go_split_ands; go_simp; try with_reducible rfl)
      try simp only [Act.put, List.setIfInBounds_toArray, List.set_cons_zero, List.set_cons_succ]
      refine wpAnyH_ready (rs := [12]) (by kernel_rfl) (by simp) ?_
      refine AllReadyH.cons (o := ({ dst := some 55, op := Op.call { callee := Callee.value (Operand.func 47), args := #[Operand.tmp 50, Operand.tmp 54], argTypes := #[56, 3] }, type := 62, pos := "laws.go:976", after := #[{ on := 7, ground := Ground.data }, { on := 11, ground := Ground.data }, { on := 6, ground := Ground.chain }, { on := 6, ground := Ground.guard }], guard := some (6, false) })) rfl (fun K hK => ?_) ?_
      ·
        go_simp
        go_at_call 47; refine (HS1.out _ ((Keep.refl W0).drewN 1)).mono ?_; rintro e wA ⟨rfl, kA'⟩
        try go_wp2_with fail
        have kA : Keep W0 wA := Keep.trans ((Keep.refl W0).drewN 1) kA'
        refine hK.out _ _ (HSa _ kA) (fun hHeld => ?_)
        clear hK K
        try simp only [Act.put, List.setIfInBounds_toArray, List.set_cons_zero, List.set_cons_succ]
        refine wpAnyH_take (i := 13) (oi := ({ dst := some 56, op := Op.field 62 (Operand.tmp 55) 0, type := 3, pos := "laws.go:976", after := #[{ on := 12, ground := Ground.data }, { on := 6, ground := Ground.guard }], guard := some (6, false) })) (v := ?v17) rfl (by kernel_rfl) (by kernel_rfl) (by kernel_rfl) (fun _ _ _ h => h) (Or.inl ⟨by rfl, ?hy17⟩) hHeld ?rest17
        case hy17 => (intro w' hSw; (try dsimp only at hSw); go_split_ands; go_simp; try with_reducible rfl)
        try simp only [Act.put, List.setIfInBounds_toArray, List.set_cons_zero, List.set_cons_succ]
        refine wpAnyH_take (i := 18) (oi := ({ dst := some 61, op := Op.binOp BinOp.neq 3 (Operand.tmp 56) (Operand.tmp 60) 3, type := 4, pos := "laws.go:976", after := #[{ on := 13, ground := Ground.data }, { on := 17, ground := Ground.data }, { on := 6, ground := Ground.guard }], guard := some (6, false) })) (v := ?v18) rfl (by kernel_rfl) (by kernel_rfl) (by kernel_rfl) (fun _ _ _ h => h) (Or.inl ⟨by rfl, ?hy18⟩) hHeld ?rest18
        case hy18 => (intro w' hSw; (try dsimp only at hSw); go_split_ands; go_simp; try with_reducible rfl)
        try simp only [Act.put, List.setIfInBounds_toArray, List.set_cons_zero, List.set_cons_succ]
        refine wpAnyH_take (i := 19) (oi := ({ dst := some 62, op := Op.pick (Operand.tmp 49) (Operand.const (Value.bool true)) (Operand.tmp 61), type := 4, pos := "laws.go:976", after := #[{ on := 6, ground := Ground.data }, { on := 18, ground := Ground.data }], guard := none })) (v := ?v19) rfl (by kernel_rfl) (by kernel_rfl) (by kernel_rfl) (fun _ _ _ h => h) (Or.inl ⟨by rfl, ?hy19⟩) hHeld ?rest19
        case hy19 => (intro w' hSw; (try dsimp only at hSw); go_split_ands; go_simp; try with_reducible rfl)
        try simp only [Act.put, List.setIfInBounds_toArray, List.set_cons_zero, List.set_cons_succ]
        refine wpAnyH_take (i := 20) (oi := ({ dst := some 63, op := Op.move (Operand.tmp 62), type := 4, pos := "laws.go:976", after := #[{ on := 19, ground := Ground.data }, { on := 12, ground := Ground.chain }], guard := none })) (v := ?v20) rfl (by kernel_rfl) (by kernel_rfl) (by kernel_rfl) (fun _ _ _ h => h) (Or.inl ⟨by rfl, ?hy20⟩) hHeld ?rest20
        case hy20 => (intro w' hSw; (try dsimp only at hSw); go_split_ands; go_simp; try with_reducible rfl)
        try simp only [Act.put, List.setIfInBounds_toArray, List.set_cons_zero, List.set_cons_succ]
        refine wpAnyH_take (i := 21) (oi := ({ dst := some 64, op := Op.move (Operand.tmp 6), type := 43, pos := "laws.go:976", after := #[{ on := 20, ground := Ground.guard }], guard := some (20, false) })) (v := ?v21) rfl (by kernel_rfl) (by kernel_rfl) (by kernel_rfl) (fun _ _ _ h => h) (Or.inl ⟨by rfl, ?hy21⟩) hHeld ?rest21
        case hy21 => (intro w' hSw; (try dsimp only at hSw); go_split_ands; go_simp; try with_reducible rfl)
        try simp only [Act.put, List.setIfInBounds_toArray, List.set_cons_zero, List.set_cons_succ]
        refine wpAnyH_take (i := 22) (oi := ({ dst := some 65, op := Op.move (Operand.tmp 9), type := 3, pos := "laws.go:976", after := #[{ on := 20, ground := Ground.guard }], guard := some (20, false) })) (v := ?v22) rfl (by kernel_rfl) (by kernel_rfl) (by kernel_rfl) (fun _ _ _ h => h) (Or.inl ⟨by rfl, ?hy22⟩) hHeld ?rest22
        case hy22 => (intro w' hSw; (try dsimp only at hSw); go_split_ands; go_simp; try with_reducible rfl)
        try simp only [Act.put, List.setIfInBounds_toArray, List.set_cons_zero, List.set_cons_succ]
        refine wpAnyH_take (i := 23) (oi := ({ dst := some 66, op := Op.slice 43 (Operand.tmp 64) none (some (Operand.tmp 65)) none, type := 43, pos := "laws.go:976", after := #[{ on := 21, ground := Ground.data }, { on := 22, ground := Ground.data }, { on := 20, ground := Ground.guard }], guard := some (20, false) })) (v := ?v23) rfl (by kernel_rfl) (by kernel_rfl) (by kernel_rfl) (fun _ _ _ h => h) (Or.inl ⟨by rfl, ?hy23⟩) hHeld ?rest23
        case hy23 => (intro w' hSw; (try dsimp only at hSw); go_split_ands; go_simp; try with_reducible rfl)
        try simp only [Act.put, List.setIfInBounds_toArray, List.set_cons_zero, List.set_cons_succ]
        refine wpAnyH_take (i := 24) (oi := ({ dst := some 67, op := Op.move (Operand.tmp 6), type := 43, pos := "laws.go:976", after := #[{ on := 20, ground := Ground.guard }], guard := some (20, false) })) (v := ?v24) rfl (by kernel_rfl) (by kernel_rfl) (by kernel_rfl) (fun _ _ _ h => h) (Or.inl ⟨by rfl, ?hy24⟩) hHeld ?rest24
        case hy24 => (intro w' hSw; (try dsimp only at hSw); go_split_ands; go_simp; try with_reducible rfl)
        try simp only [Act.put, List.setIfInBounds_toArray, List.set_cons_zero, List.set_cons_succ]
        refine wpAnyH_take (i := 25) (oi := ({ dst := some 68, op := Op.move (Operand.tmp 9), type := 3, pos := "laws.go:976", after := #[{ on := 20, ground := Ground.guard }], guard := some (20, false) })) (v := ?v25) rfl (by kernel_rfl) (by kernel_rfl) (by kernel_rfl) (fun _ _ _ h => h) (Or.inl ⟨by rfl, ?hy25⟩) hHeld ?rest25
        case hy25 => (intro w' hSw; (try dsimp only at hSw); go_split_ands; go_simp; try with_reducible rfl)
        try simp only [Act.put, List.setIfInBounds_toArray, List.set_cons_zero, List.set_cons_succ]
        refine wpAnyH_take (i := 26) (oi := ({ dst := some 69, op := Op.indexAddr 43 (Operand.tmp 67) (Operand.tmp 68), type := 0, pos := "laws.go:976", after := #[{ on := 24, ground := Ground.data }, { on := 25, ground := Ground.data }, { on := 20, ground := Ground.guard }], guard := some (20, false) })) (v := ?v26) rfl (by kernel_rfl) (by kernel_rfl) (by kernel_rfl) (fun _ _ _ h => h) (Or.inl ⟨by rfl, ?hy26⟩) hHeld ?rest26
        case hy26 => (intro w' hSw; (try dsimp only at hSw); go_split_ands; go_simp; try with_reducible rfl)
        try simp only [Act.put, List.setIfInBounds_toArray, List.set_cons_zero, List.set_cons_succ]
        refine wpAnyH_take (i := 27) (oi := ({ dst := some 70, op := Op.load 3 (Operand.tmp 69), type := 3, pos := "laws.go:976", after := #[{ on := 26, ground := Ground.data }, { on := 20, ground := Ground.guard }], guard := some (20, false) })) (v := ?v27) rfl (by kernel_rfl) (by kernel_rfl) (by kernel_rfl) (fun _ _ _ h => h) (Or.inl ⟨by rfl, ?hy27⟩) hHeld ?rest27
        case hy27 => (intro w' hSw; (try dsimp only at hSw); go_split_ands; go_simp; try with_reducible rfl)
        try simp only [Act.put, List.setIfInBounds_toArray, List.set_cons_zero, List.set_cons_succ]
        refine wpAnyH_ready (rs := [28]) (by kernel_rfl) (by simp) ?_
        refine AllReadyH.cons (o := ({ dst := some 71, op := Op.call { callee := Callee.value (Operand.func 43), args := #[Operand.tmp 66, Operand.tmp 70], argTypes := #[43, 3] }, type := 4, pos := "laws.go:976", after := #[{ on := 23, ground := Ground.data }, { on := 27, ground := Ground.data }, { on := 20, ground := Ground.chain }, { on := 20, ground := Ground.guard }], guard := some (20, false) })) rfl (fun K hK => ?_) ?_
        ·
          go_simp
          go_at_call 43; refine (HI.out _ kA).mono ?_; rintro e wB ⟨rfl, kB'⟩
          try go_wp2_with fail
          have kB : Keep W0 wB := Keep.trans kA kB'
          refine hK.out _ _ (HSa _ kB) (fun hHeld => ?_)
          clear hK K
          try simp only [Act.put, List.setIfInBounds_toArray, List.set_cons_zero, List.set_cons_succ]
          refine wpAnyH_take (i := 29) (oi := ({ dst := some 72, op := Op.pick (Operand.tmp 63) (Operand.const (Value.bool true)) (Operand.tmp 71), type := 4, pos := "laws.go:976", after := #[{ on := 20, ground := Ground.data }, { on := 28, ground := Ground.data }], guard := none })) (v := ?v28) rfl (by kernel_rfl) (by kernel_rfl) (by kernel_rfl) (fun _ _ _ h => h) (Or.inl ⟨by rfl, ?hy28⟩) hHeld ?rest28
          case hy28 => (intro w' hSw; (try dsimp only at hSw); go_split_ands; go_simp; try with_reducible rfl)
          try simp only [Act.put, List.setIfInBounds_toArray, List.set_cons_zero, List.set_cons_succ]
          refine wpAnyH_take (i := 30) (oi := ({ dst := some 73, op := Op.move (Operand.tmp 72), type := 4, pos := "laws.go:976", after := #[{ on := 29, ground := Ground.data }, { on := 28, ground := Ground.chain }], guard := none })) (v := ?v29) rfl (by kernel_rfl) (by kernel_rfl) (by kernel_rfl) (fun _ _ _ h => h) (Or.inl ⟨by rfl, ?hy29⟩) hHeld ?rest29
          case hy29 => (intro w' hSw; (try dsimp only at hSw); go_split_ands; go_simp; try with_reducible rfl)
          try simp only [Act.put, List.setIfInBounds_toArray, List.set_cons_zero, List.set_cons_succ]
          refine wpAnyH_take (i := 31) (oi := ({ dst := some 74, op := Op.move (Operand.tmp 9), type := 3, pos := "laws.go:976", after := #[{ on := 30, ground := Ground.guard }], guard := some (30, false) })) (v := ?v30) rfl (by kernel_rfl) (by kernel_rfl) (by kernel_rfl) (fun _ _ _ h => h) (Or.inl ⟨by rfl, ?hy30⟩) hHeld ?rest30
          case hy30 => (intro w' hSw; (try dsimp only at hSw); go_split_ands; go_simp; try with_reducible rfl)
          try simp only [Act.put, List.setIfInBounds_toArray, List.set_cons_zero, List.set_cons_succ]
          refine wpAnyH_take (i := 32) (oi := ({ dst := some 75, op := Op.binOp BinOp.gtr 3 (Operand.tmp 74) (Operand.const (Value.int IntKind.i64 0)) 3, type := 4, pos := "laws.go:976", after := #[{ on := 31, ground := Ground.data }, { on := 30, ground := Ground.guard }], guard := some (30, false) })) (v := ?v31) rfl (by kernel_rfl) (by kernel_rfl) (by kernel_rfl) (fun _ _ _ h => h) (Or.inl ⟨by rfl, ?hy31⟩) hHeld ?rest31
          case hy31 => (intro w' hSw; (try dsimp only at hSw); go_split_ands; go_simp; try with_reducible rfl)
          try simp only [Act.put, List.setIfInBounds_toArray, List.set_cons_zero, List.set_cons_succ]
          refine wpAnyH_take (i := 33) (oi := ({ dst := some 76, op := Op.move (Operand.tmp 75), type := 4, pos := "laws.go:976", after := #[{ on := 32, ground := Ground.data }, { on := 30, ground := Ground.chain }, { on := 30, ground := Ground.guard }], guard := some (30, false) })) (v := ?v32) rfl (by kernel_rfl) (by kernel_rfl) (by kernel_rfl) (fun _ _ _ h => h) (Or.inl ⟨by rfl, ?hy32⟩) hHeld ?rest32
          case hy32 => (intro w' hSw; (try dsimp only at hSw); go_split_ands; go_simp; try with_reducible rfl)
          try simp only [Act.put, List.setIfInBounds_toArray, List.set_cons_zero, List.set_cons_succ]
          refine wpAnyH_take (i := 34) (oi := ({ dst := some 77, op := Op.move (Operand.tmp 3), type := 56, pos := "laws.go:976", after := #[{ on := 33, ground := Ground.guard }], guard := some (33, true) })) (v := undef) rfl (by kernel_rfl) (by kernel_rfl) (by kernel_rfl) (fun _ _ _ h => h) (Or.inr ⟨by first | kernel_rfl | rfl, rfl⟩) hHeld ?rest33
          try simp only [Act.put, List.setIfInBounds_toArray, List.set_cons_zero, List.set_cons_succ]
          refine wpAnyH_take (i := 35) (oi := ({ dst := some 78, op := Op.move (Operand.tmp 6), type := 43, pos := "laws.go:976", after := #[{ on := 33, ground := Ground.guard }], guard := some (33, true) })) (v := undef) rfl (by kernel_rfl) (by kernel_rfl) (by kernel_rfl) (fun _ _ _ h => h) (Or.inr ⟨by first | kernel_rfl | rfl, rfl⟩) hHeld ?rest34
          try simp only [Act.put, List.setIfInBounds_toArray, List.set_cons_zero, List.set_cons_succ]
          refine wpAnyH_take (i := 36) (oi := ({ dst := some 79, op := Op.move (Operand.tmp 9), type := 3, pos := "laws.go:976", after := #[{ on := 33, ground := Ground.guard }], guard := some (33, true) })) (v := undef) rfl (by kernel_rfl) (by kernel_rfl) (by kernel_rfl) (fun _ _ _ h => h) (Or.inr ⟨by first | kernel_rfl | rfl, rfl⟩) hHeld ?rest35
          try simp only [Act.put, List.setIfInBounds_toArray, List.set_cons_zero, List.set_cons_succ]
          refine wpAnyH_take (i := 37) (oi := ({ dst := some 80, op := Op.binOp BinOp.sub 3 (Operand.tmp 79) (Operand.const (Value.int IntKind.i64 1)) 3, type := 3, pos := "laws.go:976", after := #[{ on := 36, ground := Ground.data }, { on := 33, ground := Ground.guard }], guard := some (33, true) })) (v := undef) rfl (by kernel_rfl) (by kernel_rfl) (by kernel_rfl) (fun _ _ _ h => h) (Or.inr ⟨by first | kernel_rfl | rfl, rfl⟩) hHeld ?rest36
          try simp only [Act.put, List.setIfInBounds_toArray, List.set_cons_zero, List.set_cons_succ]
          refine wpAnyH_take (i := 38) (oi := ({ dst := some 81, op := Op.indexAddr 43 (Operand.tmp 78) (Operand.tmp 80), type := 0, pos := "laws.go:976", after := #[{ on := 35, ground := Ground.data }, { on := 37, ground := Ground.data }, { on := 33, ground := Ground.guard }], guard := some (33, true) })) (v := undef) rfl (by kernel_rfl) (by kernel_rfl) (by kernel_rfl) (fun _ _ _ h => h) (Or.inr ⟨by first | kernel_rfl | rfl, rfl⟩) hHeld ?rest37
          try simp only [Act.put, List.setIfInBounds_toArray, List.set_cons_zero, List.set_cons_succ]
          refine wpAnyH_take (i := 39) (oi := ({ dst := some 82, op := Op.load 3 (Operand.tmp 81), type := 3, pos := "laws.go:976", after := #[{ on := 38, ground := Ground.data }, { on := 33, ground := Ground.guard }], guard := some (33, true) })) (v := undef) rfl (by kernel_rfl) (by kernel_rfl) (by kernel_rfl) (fun _ _ _ h => h) (Or.inr ⟨by first | kernel_rfl | rfl, rfl⟩) hHeld ?rest38
          try simp only [Act.put, List.setIfInBounds_toArray, List.set_cons_zero, List.set_cons_succ]
          refine wpAnyH_take (i := 40) (oi := ({ dst := some 83, op := Op.call { callee := Callee.value (Operand.func 47), args := #[Operand.tmp 77, Operand.tmp 82], argTypes := #[56, 3] }, type := 62, pos := "laws.go:976", after := #[{ on := 34, ground := Ground.data }, { on := 39, ground := Ground.data }, { on := 33, ground := Ground.chain }, { on := 33, ground := Ground.guard }], guard := some (33, true) })) (v := undef) rfl (by kernel_rfl) (by kernel_rfl) (by kernel_rfl) (fun _ _ _ h => h) (Or.inr ⟨by first | kernel_rfl | rfl, rfl⟩) hHeld ?rest39
          try simp only [Act.put, List.setIfInBounds_toArray, List.set_cons_zero, List.set_cons_succ]
          refine wpAnyH_take (i := 41) (oi := ({ dst := some 84, op := Op.load 62 (Operand.tmp 8), type := 62, pos := "laws.go:976", after := #[{ on := 33, ground := Ground.guard }], guard := some (33, true) })) (v := undef) rfl (by kernel_rfl) (by kernel_rfl) (by kernel_rfl) (fun _ _ _ h => h) (Or.inr ⟨by first | kernel_rfl | rfl, rfl⟩) hHeld ?rest40
          try simp only [Act.put, List.setIfInBounds_toArray, List.set_cons_zero, List.set_cons_succ]
          refine wpAnyH_take (i := 42) (oi := ({ dst := some 85, op := Op.call { callee := Callee.value (Operand.func 48), args := #[Operand.tmp 83, Operand.tmp 84], argTypes := #[62, 62] }, type := 3, pos := "laws.go:976", after := #[{ on := 40, ground := Ground.data }, { on := 41, ground := Ground.data }, { on := 40, ground := Ground.chain }, { on := 33, ground := Ground.guard }], guard := some (33, true) })) (v := undef) rfl (by kernel_rfl) (by kernel_rfl) (by kernel_rfl) (fun _ _ _ h => h) (Or.inr ⟨by first | kernel_rfl | rfl, rfl⟩) hHeld ?rest41
          try simp only [Act.put, List.setIfInBounds_toArray, List.set_cons_zero, List.set_cons_succ]
          refine wpAnyH_take (i := 43) (oi := ({ dst := some 86, op := Op.move (Operand.tmp 3), type := 56, pos := "laws.go:976", after := #[{ on := 33, ground := Ground.guard }], guard := some (33, true) })) (v := undef) rfl (by kernel_rfl) (by kernel_rfl) (by kernel_rfl) (fun _ _ _ h => h) (Or.inr ⟨by first | kernel_rfl | rfl, rfl⟩) hHeld ?rest42
          try simp only [Act.put, List.setIfInBounds_toArray, List.set_cons_zero, List.set_cons_succ]
          refine wpAnyH_take (i := 44) (oi := ({ dst := some 87, op := Op.move (Operand.tmp 6), type := 43, pos := "laws.go:976", after := #[{ on := 33, ground := Ground.guard }], guard := some (33, true) })) (v := undef) rfl (by kernel_rfl) (by kernel_rfl) (by kernel_rfl) (fun _ _ _ h => h) (Or.inr ⟨by first | kernel_rfl | rfl, rfl⟩) hHeld ?rest43
          try simp only [Act.put, List.setIfInBounds_toArray, List.set_cons_zero, List.set_cons_succ]
          refine wpAnyH_take (i := 45) (oi := ({ dst := some 88, op := Op.move (Operand.tmp 9), type := 3, pos := "laws.go:976", after := #[{ on := 33, ground := Ground.guard }], guard := some (33, true) })) (v := undef) rfl (by kernel_rfl) (by kernel_rfl) (by kernel_rfl) (fun _ _ _ h => h) (Or.inr ⟨by first | kernel_rfl | rfl, rfl⟩) hHeld ?rest44
          try simp only [Act.put, List.setIfInBounds_toArray, List.set_cons_zero, List.set_cons_succ]
          refine wpAnyH_take (i := 46) (oi := ({ dst := some 89, op := Op.indexAddr 43 (Operand.tmp 87) (Operand.tmp 88), type := 0, pos := "laws.go:976", after := #[{ on := 44, ground := Ground.data }, { on := 45, ground := Ground.data }, { on := 33, ground := Ground.guard }], guard := some (33, true) })) (v := undef) rfl (by kernel_rfl) (by kernel_rfl) (by kernel_rfl) (fun _ _ _ h => h) (Or.inr ⟨by first | kernel_rfl | rfl, rfl⟩) hHeld ?rest45
          try simp only [Act.put, List.setIfInBounds_toArray, List.set_cons_zero, List.set_cons_succ]
          refine wpAnyH_take (i := 47) (oi := ({ dst := some 90, op := Op.load 3 (Operand.tmp 89), type := 3, pos := "laws.go:976", after := #[{ on := 46, ground := Ground.data }, { on := 33, ground := Ground.guard }], guard := some (33, true) })) (v := undef) rfl (by kernel_rfl) (by kernel_rfl) (by kernel_rfl) (fun _ _ _ h => h) (Or.inr ⟨by first | kernel_rfl | rfl, rfl⟩) hHeld ?rest46
          try simp only [Act.put, List.setIfInBounds_toArray, List.set_cons_zero, List.set_cons_succ]
          refine wpAnyH_take (i := 48) (oi := ({ dst := some 91, op := Op.call { callee := Callee.value (Operand.func 47), args := #[Operand.tmp 86, Operand.tmp 90], argTypes := #[56, 3] }, type := 62, pos := "laws.go:976", after := #[{ on := 43, ground := Ground.data }, { on := 47, ground := Ground.data }, { on := 42, ground := Ground.chain }, { on := 33, ground := Ground.guard }], guard := some (33, true) })) (v := undef) rfl (by kernel_rfl) (by kernel_rfl) (by kernel_rfl) (fun _ _ _ h => h) (Or.inr ⟨by first | kernel_rfl | rfl, rfl⟩) hHeld ?rest47
          try simp only [Act.put, List.setIfInBounds_toArray, List.set_cons_zero, List.set_cons_succ]
          refine wpAnyH_take (i := 49) (oi := ({ dst := some 92, op := Op.load 62 (Operand.tmp 8), type := 62, pos := "laws.go:976", after := #[{ on := 33, ground := Ground.guard }], guard := some (33, true) })) (v := undef) rfl (by kernel_rfl) (by kernel_rfl) (by kernel_rfl) (fun _ _ _ h => h) (Or.inr ⟨by first | kernel_rfl | rfl, rfl⟩) hHeld ?rest48
          try simp only [Act.put, List.setIfInBounds_toArray, List.set_cons_zero, List.set_cons_succ]
          refine wpAnyH_take (i := 50) (oi := ({ dst := some 93, op := Op.call { callee := Callee.value (Operand.func 48), args := #[Operand.tmp 91, Operand.tmp 92], argTypes := #[62, 62] }, type := 3, pos := "laws.go:976", after := #[{ on := 48, ground := Ground.data }, { on := 49, ground := Ground.data }, { on := 48, ground := Ground.chain }, { on := 33, ground := Ground.guard }], guard := some (33, true) })) (v := undef) rfl (by kernel_rfl) (by kernel_rfl) (by kernel_rfl) (fun _ _ _ h => h) (Or.inr ⟨by first | kernel_rfl | rfl, rfl⟩) hHeld ?rest49
          try simp only [Act.put, List.setIfInBounds_toArray, List.set_cons_zero, List.set_cons_succ]
          refine wpAnyH_take (i := 51) (oi := ({ dst := some 94, op := Op.binOp BinOp.gtr 3 (Operand.tmp 85) (Operand.tmp 93) 3, type := 4, pos := "laws.go:976", after := #[{ on := 42, ground := Ground.data }, { on := 50, ground := Ground.data }, { on := 33, ground := Ground.guard }], guard := some (33, true) })) (v := undef) rfl (by kernel_rfl) (by kernel_rfl) (by kernel_rfl) (fun _ _ _ h => h) (Or.inr ⟨by first | kernel_rfl | rfl, rfl⟩) hHeld ?rest50
          try simp only [Act.put, List.setIfInBounds_toArray, List.set_cons_zero, List.set_cons_succ]
          refine wpAnyH_take (i := 52) (oi := ({ dst := some 95, op := Op.pick (Operand.tmp 76) (Operand.tmp 94) (Operand.const (Value.bool false)), type := 4, pos := "laws.go:976", after := #[{ on := 33, ground := Ground.data }, { on := 51, ground := Ground.data }, { on := 30, ground := Ground.guard }], guard := some (30, false) })) (v := ?v51) rfl (by kernel_rfl) (by kernel_rfl) (by kernel_rfl) (fun _ _ _ h => h) (Or.inl ⟨by rfl, ?hy51⟩) hHeld ?rest51
          case hy51 => (intro w' hSw; (try dsimp only at hSw); go_split_ands; go_simp; try with_reducible rfl)
          try simp only [Act.put, List.setIfInBounds_toArray, List.set_cons_zero, List.set_cons_succ]
          refine wpAnyH_take (i := 53) (oi := ({ dst := some 96, op := Op.pick (Operand.tmp 73) (Operand.const (Value.bool true)) (Operand.tmp 95), type := 4, pos := "laws.go:976", after := #[{ on := 30, ground := Ground.data }, { on := 52, ground := Ground.data }], guard := none })) (v := ?v52) rfl (by kernel_rfl) (by kernel_rfl) (by kernel_rfl) (fun _ _ _ h => h) (Or.inl ⟨by rfl, ?hy52⟩) hHeld ?rest52
          case hy52 => (intro w' hSw; (try dsimp only at hSw); go_split_ands; go_simp; try with_reducible rfl)
          try simp only [Act.put, List.setIfInBounds_toArray, List.set_cons_zero, List.set_cons_succ]
          refine wpAnyH_done (by kernel_rfl) ?_ _
          go_wp2
          rw [← HBH.out]
          go_roundw
          case rel => exact ⟨0 + 1, by omega, by go_num, hKK.trans kB⟩
          case measure => simp [intOf]; omega
        exact AllReadyH.nil
      exact AllReadyH.nil
    · have hukk := HUK.out
      have hg1 : (0 : Int) < (k : Int) := by omega
      have hg0 : decide (0 < k) = true := by simp; omega
      have hg2 : 0 < k := by omega
      have hsub : (k : Int) - 1 = (u : Int) := by omega
      have hsw : IntKind.i64.wrap ((k : Int) - 1) = (u : Int) := by rw [hsub]; exact IntWalk.i64_in _ (by omega)
      have hsw2 : IntKind.i64.wrap (u : Int) = (u : Int) := IntWalk.i64_in _ (by omega)
      have u0 : (0 : Int) ≤ (u : Int) := by omega
      have uz : (u : Int) < (L.length : Int) := by omega
      obtain ⟨q1, hq1, hqp1, hnr1, hLq1, hpq1, hil1, hkm1⟩ := HNA.out HOk.out u (by omega)
      have hfar := nr_far (HSB.out HOk.out) (HPL.out HOk.out) (i := u) (by rw [hukk]; exact HIL.out)
      rw [hukk, hnr1, HNR.out, HC.out] at hfar
      have cp := HCELL.out u (by omega)
      have HS2 := Lib.hid (fun W (hw : Keep wr W) => HSI2.out W (hKW.trans hw) (L.getD u 0))
      rw [hpq1] at HS2
      have HTR2 := Lib.hid (si_tB (HSB.out HOk.out) hq1)
      obtain ⟨r2, hr2⟩ : ∃ r2, ts.getD q1 t0 = r2 := ⟨_, rfl⟩
      rw [hr2] at HS2 HTR2 hfar
      obtain ⟨o2, ho2⟩ : ∃ o2, L.getD u 0 = o2 := ⟨_, rfl⟩
      rw [ho2] at HS2 cp
      have HFb := Lib.hid (fun W => wfar r2 c HTR2.out HTC.out W)
      unfold ag at HS2 HFb
      rw [hcs2, hcx2, hcy2] at HFb
      have hfd2 : decide (far r c < far r2 c) = false := decide_eq_false hfar
      have hfd3 : ¬ far r c < far r2 c := hfar
      generalize far r2 c = fr2 at *
      generalize far r c = fr at *
      generalize tX r = x at *
      generalize tY r = y at *
      generalize tS r2 = s2 at *
      generalize tX r2 = x2 at *
      generalize tY r2 = y2 at *
      clear hukk
      clear HNA HNR HCELL hfar hnr1 hLq1 hpq1 hil1 hr2 ho2 HSI2
      obtain ⟨W0, rfl⟩ : ∃ W0 : World, W0 = wr := ⟨_, rfl⟩
      have co := hcc
      replace h0 := h0.out
      replace h1 := h1.out
      replace h2 := h2.out
      clear hcc
      have hKK := hK
      clear hbh
      go_wp2_with fail
      rw [HBH.out]
      have HSa : ∀ W, Keep W0 W → (Keep W0 W ∧ W.cell? ⟨b, off + k, none⟩ = some (.int .i64 o) ∧ W.cell? ⟨b, off + u, none⟩ = some (.int .i64 o2) ∧ W.cell? ⟨bh, 0, none⟩ = some (.int .i64 cs) ∧ W.cell? ⟨bh, 1, none⟩ = some (.int .i64 cx) ∧ W.cell? ⟨bh, 2, none⟩ = some (.int .i64 cy)) := fun W kW => ⟨kW, kW.cell co, kW.cell cp, kW.cell h0, kW.cell h1, kW.cell h2⟩
      refine wp_region_held_drew (S := (fun w' => Keep W0 w' ∧ w'.cell? ⟨b, off + k, none⟩ = some (.int .i64 o) ∧ w'.cell? ⟨b, off + u, none⟩ = some (.int .i64 o2) ∧ w'.cell? ⟨bh, 0, none⟩ = some (.int .i64 cs) ∧ w'.cell? ⟨bh, 1, none⟩ = some (.int .i64 cx) ∧ w'.cell? ⟨bh, 2, none⟩ = some (.int .i64 cy))) (by kernel_rfl) (HSa _ ((Keep.refl W0).drewN 1)) (fun hHeld => ?_)
      refine wpAnyH_take (i := 0) (oi := ({ dst := some 43, op := Op.move (Operand.tmp 6), type := 43, pos := "laws.go:976", after := #[], guard := none })) (v := ?v53) rfl (by kernel_rfl) (by kernel_rfl) (by kernel_rfl) (fun _ _ _ h => h) (Or.inl ⟨by rfl, ?hy53⟩) hHeld ?rest53
      case hy53 => (intro w' hSw; (try dsimp only at hSw); go_split_ands; go_simp; try with_reducible rfl)
      try simp only [Act.put, List.setIfInBounds_toArray, List.set_cons_zero, List.set_cons_succ]
      refine wpAnyH_take (i := 1) (oi := ({ dst := some 44, op := Op.move (Operand.tmp 9), type := 3, pos := "laws.go:976", after := #[], guard := none })) (v := ?v54) rfl (by kernel_rfl) (by kernel_rfl) (by kernel_rfl) (fun _ _ _ h => h) (Or.inl ⟨by rfl, ?hy54⟩) hHeld ?rest54
      case hy54 => (intro w' hSw; (try dsimp only at hSw); go_split_ands; go_simp; try with_reducible rfl)
      try simp only [Act.put, List.setIfInBounds_toArray, List.set_cons_zero, List.set_cons_succ]
      refine wpAnyH_take (i := 2) (oi := ({ dst := some 45, op := Op.indexAddr 43 (Operand.tmp 43) (Operand.tmp 44), type := 0, pos := "laws.go:976", after := #[{ on := 0, ground := Ground.data }, { on := 1, ground := Ground.data }], guard := none })) (v := ?v55) rfl (by kernel_rfl) (by kernel_rfl) (by kernel_rfl) (fun _ _ _ h => h) (Or.inl ⟨by rfl, ?hy55⟩) hHeld ?rest55
      case hy55 => (intro w' hSw; (try dsimp only at hSw); go_split_ands; go_simp; try with_reducible rfl)
      try simp only [Act.put, List.setIfInBounds_toArray, List.set_cons_zero, List.set_cons_succ]
      refine wpAnyH_take (i := 3) (oi := ({ dst := some 46, op := Op.load 3 (Operand.tmp 45), type := 3, pos := "laws.go:976", after := #[{ on := 2, ground := Ground.data }], guard := none })) (v := ?v56) rfl (by kernel_rfl) (by kernel_rfl) (by kernel_rfl) (fun _ _ _ h => h) (Or.inl ⟨by rfl, ?hy56⟩) hHeld ?rest56
      case hy56 => (intro w' hSw; (try dsimp only at hSw); go_split_ands; go_simp; try with_reducible rfl)
      try simp only [Act.put, List.setIfInBounds_toArray, List.set_cons_zero, List.set_cons_succ]
      refine wpAnyH_take (i := 4) (oi := ({ dst := some 47, op := Op.move (Operand.tmp 4), type := 3, pos := "laws.go:976", after := #[], guard := none })) (v := ?v57) rfl (by kernel_rfl) (by kernel_rfl) (by kernel_rfl) (fun _ _ _ h => h) (Or.inl ⟨by rfl, ?hy57⟩) hHeld ?rest57
      case hy57 => (intro w' hSw; (try dsimp only at hSw); go_split_ands; go_simp; try with_reducible rfl)
      try simp only [Act.put, List.setIfInBounds_toArray, List.set_cons_zero, List.set_cons_succ]
      refine wpAnyH_take (i := 5) (oi := ({ dst := some 48, op := Op.binOp BinOp.eql 3 (Operand.tmp 46) (Operand.tmp 47) 3, type := 4, pos := "laws.go:976", after := #[{ on := 3, ground := Ground.data }, { on := 4, ground := Ground.data }], guard := none })) (v := ?v58) rfl (by kernel_rfl) (by kernel_rfl) (by kernel_rfl) (fun _ _ _ h => h) (Or.inl ⟨by rfl, ?hy58⟩) hHeld ?rest58
      case hy58 => (intro w' hSw; (try dsimp only at hSw); go_split_ands; go_simp; try with_reducible rfl)
      try simp only [Act.put, List.setIfInBounds_toArray, List.set_cons_zero, List.set_cons_succ]
      refine wpAnyH_take (i := 6) (oi := ({ dst := some 49, op := Op.move (Operand.tmp 48), type := 4, pos := "laws.go:976", after := #[{ on := 5, ground := Ground.data }], guard := none })) (v := ?v59) rfl (by kernel_rfl) (by kernel_rfl) (by kernel_rfl) (fun _ _ _ h => h) (Or.inl ⟨by rfl, ?hy59⟩) hHeld ?rest59
      case hy59 => (intro w' hSw; (try dsimp only at hSw); go_split_ands; go_simp; try with_reducible rfl)
      try simp only [Act.put, List.setIfInBounds_toArray, List.set_cons_zero, List.set_cons_succ]
      refine wpAnyH_take (i := 7) (oi := ({ dst := some 50, op := Op.move (Operand.tmp 3), type := 56, pos := "laws.go:976", after := #[{ on := 6, ground := Ground.guard }], guard := some (6, false) })) (v := ?v60) rfl (by kernel_rfl) (by kernel_rfl) (by kernel_rfl) (fun _ _ _ h => h) (Or.inl ⟨by rfl, ?hy60⟩) hHeld ?rest60
      case hy60 => (intro w' hSw; (try dsimp only at hSw); go_split_ands; go_simp; try with_reducible rfl)
      try simp only [Act.put, List.setIfInBounds_toArray, List.set_cons_zero, List.set_cons_succ]
      refine wpAnyH_take (i := 8) (oi := ({ dst := some 51, op := Op.move (Operand.tmp 6), type := 43, pos := "laws.go:976", after := #[{ on := 6, ground := Ground.guard }], guard := some (6, false) })) (v := ?v61) rfl (by kernel_rfl) (by kernel_rfl) (by kernel_rfl) (fun _ _ _ h => h) (Or.inl ⟨by rfl, ?hy61⟩) hHeld ?rest61
      case hy61 => (intro w' hSw; (try dsimp only at hSw); go_split_ands; go_simp; try with_reducible rfl)
      try simp only [Act.put, List.setIfInBounds_toArray, List.set_cons_zero, List.set_cons_succ]
      refine wpAnyH_take (i := 9) (oi := ({ dst := some 52, op := Op.move (Operand.tmp 9), type := 3, pos := "laws.go:976", after := #[{ on := 6, ground := Ground.guard }], guard := some (6, false) })) (v := ?v62) rfl (by kernel_rfl) (by kernel_rfl) (by kernel_rfl) (fun _ _ _ h => h) (Or.inl ⟨by rfl, ?hy62⟩) hHeld ?rest62
      case hy62 => (intro w' hSw; (try dsimp only at hSw); go_split_ands; go_simp; try with_reducible rfl)
      try simp only [Act.put, List.setIfInBounds_toArray, List.set_cons_zero, List.set_cons_succ]
      refine wpAnyH_take (i := 10) (oi := ({ dst := some 53, op := Op.indexAddr 43 (Operand.tmp 51) (Operand.tmp 52), type := 0, pos := "laws.go:976", after := #[{ on := 8, ground := Ground.data }, { on := 9, ground := Ground.data }, { on := 6, ground := Ground.guard }], guard := some (6, false) })) (v := ?v63) rfl (by kernel_rfl) (by kernel_rfl) (by kernel_rfl) (fun _ _ _ h => h) (Or.inl ⟨by rfl, ?hy63⟩) hHeld ?rest63
      case hy63 => (intro w' hSw; (try dsimp only at hSw); go_split_ands; go_simp; try with_reducible rfl)
      try simp only [Act.put, List.setIfInBounds_toArray, List.set_cons_zero, List.set_cons_succ]
      refine wpAnyH_take (i := 11) (oi := ({ dst := some 54, op := Op.load 3 (Operand.tmp 53), type := 3, pos := "laws.go:976", after := #[{ on := 10, ground := Ground.data }, { on := 6, ground := Ground.guard }], guard := some (6, false) })) (v := ?v64) rfl (by kernel_rfl) (by kernel_rfl) (by kernel_rfl) (fun _ _ _ h => h) (Or.inl ⟨by rfl, ?hy64⟩) hHeld ?rest64
      case hy64 => (intro w' hSw; (try dsimp only at hSw); go_split_ands; go_simp; try with_reducible rfl)
      try simp only [Act.put, List.setIfInBounds_toArray, List.set_cons_zero, List.set_cons_succ]
      refine wpAnyH_take (i := 14) (oi := ({ dst := some 57, op := Op.move (Operand.tmp 6), type := 43, pos := "laws.go:976", after := #[{ on := 6, ground := Ground.guard }], guard := some (6, false) })) (v := ?v65) rfl (by kernel_rfl) (by kernel_rfl) (by kernel_rfl) (fun _ _ _ h => h) (Or.inl ⟨by rfl, ?hy65⟩) hHeld ?rest65
      case hy65 => (intro w' hSw; (try dsimp only at hSw); go_split_ands; go_simp; try with_reducible rfl)
      try simp only [Act.put, List.setIfInBounds_toArray, List.set_cons_zero, List.set_cons_succ]
      refine wpAnyH_take (i := 15) (oi := ({ dst := some 58, op := Op.move (Operand.tmp 9), type := 3, pos := "laws.go:976", after := #[{ on := 6, ground := Ground.guard }], guard := some (6, false) })) (v := ?v66) rfl (by kernel_rfl) (by kernel_rfl) (by kernel_rfl) (fun _ _ _ h => h) (Or.inl ⟨by rfl, ?hy66⟩) hHeld ?rest66
      case hy66 => (intro w' hSw; (try dsimp only at hSw); go_split_ands; go_simp; try with_reducible rfl)
      try simp only [Act.put, List.setIfInBounds_toArray, List.set_cons_zero, List.set_cons_succ]
      refine wpAnyH_take (i := 16) (oi := ({ dst := some 59, op := Op.indexAddr 43 (Operand.tmp 57) (Operand.tmp 58), type := 0, pos := "laws.go:976", after := #[{ on := 14, ground := Ground.data }, { on := 15, ground := Ground.data }, { on := 6, ground := Ground.guard }], guard := some (6, false) })) (v := ?v67) rfl (by kernel_rfl) (by kernel_rfl) (by kernel_rfl) (fun _ _ _ h => h) (Or.inl ⟨by rfl, ?hy67⟩) hHeld ?rest67
      case hy67 => (intro w' hSw; (try dsimp only at hSw); go_split_ands; go_simp; try with_reducible rfl)
      try simp only [Act.put, List.setIfInBounds_toArray, List.set_cons_zero, List.set_cons_succ]
      refine wpAnyH_take (i := 17) (oi := ({ dst := some 60, op := Op.load 3 (Operand.tmp 59), type := 3, pos := "laws.go:976", after := #[{ on := 16, ground := Ground.data }, { on := 6, ground := Ground.guard }], guard := some (6, false) })) (v := ?v68) rfl (by kernel_rfl) (by kernel_rfl) (by kernel_rfl) (fun _ _ _ h => h) (Or.inl ⟨by rfl, ?hy68⟩) hHeld ?rest68
      case hy68 => (intro w' hSw; (try dsimp only at hSw); go_split_ands; go_simp; try with_reducible rfl)
      try simp only [Act.put, List.setIfInBounds_toArray, List.set_cons_zero, List.set_cons_succ]
      refine wpAnyH_ready (rs := [12]) (by kernel_rfl) (by simp) ?_
      refine AllReadyH.cons (o := ({ dst := some 55, op := Op.call { callee := Callee.value (Operand.func 47), args := #[Operand.tmp 50, Operand.tmp 54], argTypes := #[56, 3] }, type := 62, pos := "laws.go:976", after := #[{ on := 7, ground := Ground.data }, { on := 11, ground := Ground.data }, { on := 6, ground := Ground.chain }, { on := 6, ground := Ground.guard }], guard := some (6, false) })) rfl (fun K hK => ?_) ?_
      ·
        go_simp
        go_at_call 47; refine (HS1.out _ ((Keep.refl W0).drewN 1)).mono ?_; rintro e wA ⟨rfl, kA'⟩
        try go_wp2_with fail
        have kA : Keep W0 wA := Keep.trans ((Keep.refl W0).drewN 1) kA'
        refine hK.out _ _ (HSa _ kA) (fun hHeld => ?_)
        clear hK K
        try simp only [Act.put, List.setIfInBounds_toArray, List.set_cons_zero, List.set_cons_succ]
        refine wpAnyH_take (i := 13) (oi := ({ dst := some 56, op := Op.field 62 (Operand.tmp 55) 0, type := 3, pos := "laws.go:976", after := #[{ on := 12, ground := Ground.data }, { on := 6, ground := Ground.guard }], guard := some (6, false) })) (v := ?v69) rfl (by kernel_rfl) (by kernel_rfl) (by kernel_rfl) (fun _ _ _ h => h) (Or.inl ⟨by rfl, ?hy69⟩) hHeld ?rest69
        case hy69 => (intro w' hSw; (try dsimp only at hSw); go_split_ands; go_simp; try with_reducible rfl)
        try simp only [Act.put, List.setIfInBounds_toArray, List.set_cons_zero, List.set_cons_succ]
        refine wpAnyH_take (i := 18) (oi := ({ dst := some 61, op := Op.binOp BinOp.neq 3 (Operand.tmp 56) (Operand.tmp 60) 3, type := 4, pos := "laws.go:976", after := #[{ on := 13, ground := Ground.data }, { on := 17, ground := Ground.data }, { on := 6, ground := Ground.guard }], guard := some (6, false) })) (v := ?v70) rfl (by kernel_rfl) (by kernel_rfl) (by kernel_rfl) (fun _ _ _ h => h) (Or.inl ⟨by rfl, ?hy70⟩) hHeld ?rest70
        case hy70 => (intro w' hSw; (try dsimp only at hSw); go_split_ands; go_simp; try with_reducible rfl)
        try simp only [Act.put, List.setIfInBounds_toArray, List.set_cons_zero, List.set_cons_succ]
        refine wpAnyH_take (i := 19) (oi := ({ dst := some 62, op := Op.pick (Operand.tmp 49) (Operand.const (Value.bool true)) (Operand.tmp 61), type := 4, pos := "laws.go:976", after := #[{ on := 6, ground := Ground.data }, { on := 18, ground := Ground.data }], guard := none })) (v := ?v71) rfl (by kernel_rfl) (by kernel_rfl) (by kernel_rfl) (fun _ _ _ h => h) (Or.inl ⟨by rfl, ?hy71⟩) hHeld ?rest71
        case hy71 => (intro w' hSw; (try dsimp only at hSw); go_split_ands; go_simp; try with_reducible rfl)
        try simp only [Act.put, List.setIfInBounds_toArray, List.set_cons_zero, List.set_cons_succ]
        refine wpAnyH_take (i := 20) (oi := ({ dst := some 63, op := Op.move (Operand.tmp 62), type := 4, pos := "laws.go:976", after := #[{ on := 19, ground := Ground.data }, { on := 12, ground := Ground.chain }], guard := none })) (v := ?v72) rfl (by kernel_rfl) (by kernel_rfl) (by kernel_rfl) (fun _ _ _ h => h) (Or.inl ⟨by rfl, ?hy72⟩) hHeld ?rest72
        case hy72 => (intro w' hSw; (try dsimp only at hSw); go_split_ands; go_simp; try with_reducible rfl)
        try simp only [Act.put, List.setIfInBounds_toArray, List.set_cons_zero, List.set_cons_succ]
        refine wpAnyH_take (i := 21) (oi := ({ dst := some 64, op := Op.move (Operand.tmp 6), type := 43, pos := "laws.go:976", after := #[{ on := 20, ground := Ground.guard }], guard := some (20, false) })) (v := ?v73) rfl (by kernel_rfl) (by kernel_rfl) (by kernel_rfl) (fun _ _ _ h => h) (Or.inl ⟨by rfl, ?hy73⟩) hHeld ?rest73
        case hy73 => (intro w' hSw; (try dsimp only at hSw); go_split_ands; go_simp; try with_reducible rfl)
        try simp only [Act.put, List.setIfInBounds_toArray, List.set_cons_zero, List.set_cons_succ]
        refine wpAnyH_take (i := 22) (oi := ({ dst := some 65, op := Op.move (Operand.tmp 9), type := 3, pos := "laws.go:976", after := #[{ on := 20, ground := Ground.guard }], guard := some (20, false) })) (v := ?v74) rfl (by kernel_rfl) (by kernel_rfl) (by kernel_rfl) (fun _ _ _ h => h) (Or.inl ⟨by rfl, ?hy74⟩) hHeld ?rest74
        case hy74 => (intro w' hSw; (try dsimp only at hSw); go_split_ands; go_simp; try with_reducible rfl)
        try simp only [Act.put, List.setIfInBounds_toArray, List.set_cons_zero, List.set_cons_succ]
        refine wpAnyH_take (i := 23) (oi := ({ dst := some 66, op := Op.slice 43 (Operand.tmp 64) none (some (Operand.tmp 65)) none, type := 43, pos := "laws.go:976", after := #[{ on := 21, ground := Ground.data }, { on := 22, ground := Ground.data }, { on := 20, ground := Ground.guard }], guard := some (20, false) })) (v := ?v75) rfl (by kernel_rfl) (by kernel_rfl) (by kernel_rfl) (fun _ _ _ h => h) (Or.inl ⟨by rfl, ?hy75⟩) hHeld ?rest75
        case hy75 => (intro w' hSw; (try dsimp only at hSw); go_split_ands; go_simp; try with_reducible rfl)
        try simp only [Act.put, List.setIfInBounds_toArray, List.set_cons_zero, List.set_cons_succ]
        refine wpAnyH_take (i := 24) (oi := ({ dst := some 67, op := Op.move (Operand.tmp 6), type := 43, pos := "laws.go:976", after := #[{ on := 20, ground := Ground.guard }], guard := some (20, false) })) (v := ?v76) rfl (by kernel_rfl) (by kernel_rfl) (by kernel_rfl) (fun _ _ _ h => h) (Or.inl ⟨by rfl, ?hy76⟩) hHeld ?rest76
        case hy76 => (intro w' hSw; (try dsimp only at hSw); go_split_ands; go_simp; try with_reducible rfl)
        try simp only [Act.put, List.setIfInBounds_toArray, List.set_cons_zero, List.set_cons_succ]
        refine wpAnyH_take (i := 25) (oi := ({ dst := some 68, op := Op.move (Operand.tmp 9), type := 3, pos := "laws.go:976", after := #[{ on := 20, ground := Ground.guard }], guard := some (20, false) })) (v := ?v77) rfl (by kernel_rfl) (by kernel_rfl) (by kernel_rfl) (fun _ _ _ h => h) (Or.inl ⟨by rfl, ?hy77⟩) hHeld ?rest77
        case hy77 => (intro w' hSw; (try dsimp only at hSw); go_split_ands; go_simp; try with_reducible rfl)
        try simp only [Act.put, List.setIfInBounds_toArray, List.set_cons_zero, List.set_cons_succ]
        refine wpAnyH_take (i := 26) (oi := ({ dst := some 69, op := Op.indexAddr 43 (Operand.tmp 67) (Operand.tmp 68), type := 0, pos := "laws.go:976", after := #[{ on := 24, ground := Ground.data }, { on := 25, ground := Ground.data }, { on := 20, ground := Ground.guard }], guard := some (20, false) })) (v := ?v78) rfl (by kernel_rfl) (by kernel_rfl) (by kernel_rfl) (fun _ _ _ h => h) (Or.inl ⟨by rfl, ?hy78⟩) hHeld ?rest78
        case hy78 => (intro w' hSw; (try dsimp only at hSw); go_split_ands; go_simp; try with_reducible rfl)
        try simp only [Act.put, List.setIfInBounds_toArray, List.set_cons_zero, List.set_cons_succ]
        refine wpAnyH_take (i := 27) (oi := ({ dst := some 70, op := Op.load 3 (Operand.tmp 69), type := 3, pos := "laws.go:976", after := #[{ on := 26, ground := Ground.data }, { on := 20, ground := Ground.guard }], guard := some (20, false) })) (v := ?v79) rfl (by kernel_rfl) (by kernel_rfl) (by kernel_rfl) (fun _ _ _ h => h) (Or.inl ⟨by rfl, ?hy79⟩) hHeld ?rest79
        case hy79 => (intro w' hSw; (try dsimp only at hSw); go_split_ands; go_simp; try with_reducible rfl)
        try simp only [Act.put, List.setIfInBounds_toArray, List.set_cons_zero, List.set_cons_succ]
        refine wpAnyH_ready (rs := [28]) (by kernel_rfl) (by simp) ?_
        refine AllReadyH.cons (o := ({ dst := some 71, op := Op.call { callee := Callee.value (Operand.func 43), args := #[Operand.tmp 66, Operand.tmp 70], argTypes := #[43, 3] }, type := 4, pos := "laws.go:976", after := #[{ on := 23, ground := Ground.data }, { on := 27, ground := Ground.data }, { on := 20, ground := Ground.chain }, { on := 20, ground := Ground.guard }], guard := some (20, false) })) rfl (fun K hK => ?_) ?_
        ·
          go_simp
          go_at_call 43; refine (HI.out _ kA).mono ?_; rintro e wB ⟨rfl, kB'⟩
          try go_wp2_with fail
          have kB : Keep W0 wB := Keep.trans kA kB'
          refine hK.out _ _ (HSa _ kB) (fun hHeld => ?_)
          clear hK K
          try simp only [Act.put, List.setIfInBounds_toArray, List.set_cons_zero, List.set_cons_succ]
          refine wpAnyH_take (i := 29) (oi := ({ dst := some 72, op := Op.pick (Operand.tmp 63) (Operand.const (Value.bool true)) (Operand.tmp 71), type := 4, pos := "laws.go:976", after := #[{ on := 20, ground := Ground.data }, { on := 28, ground := Ground.data }], guard := none })) (v := ?v80) rfl (by kernel_rfl) (by kernel_rfl) (by kernel_rfl) (fun _ _ _ h => h) (Or.inl ⟨by rfl, ?hy80⟩) hHeld ?rest80
          case hy80 => (intro w' hSw; (try dsimp only at hSw); go_split_ands; go_simp; try with_reducible rfl)
          try simp only [Act.put, List.setIfInBounds_toArray, List.set_cons_zero, List.set_cons_succ]
          refine wpAnyH_take (i := 30) (oi := ({ dst := some 73, op := Op.move (Operand.tmp 72), type := 4, pos := "laws.go:976", after := #[{ on := 29, ground := Ground.data }, { on := 28, ground := Ground.chain }], guard := none })) (v := ?v81) rfl (by kernel_rfl) (by kernel_rfl) (by kernel_rfl) (fun _ _ _ h => h) (Or.inl ⟨by rfl, ?hy81⟩) hHeld ?rest81
          case hy81 => (intro w' hSw; (try dsimp only at hSw); go_split_ands; go_simp; try with_reducible rfl)
          try simp only [Act.put, List.setIfInBounds_toArray, List.set_cons_zero, List.set_cons_succ]
          refine wpAnyH_take (i := 31) (oi := ({ dst := some 74, op := Op.move (Operand.tmp 9), type := 3, pos := "laws.go:976", after := #[{ on := 30, ground := Ground.guard }], guard := some (30, false) })) (v := ?v82) rfl (by kernel_rfl) (by kernel_rfl) (by kernel_rfl) (fun _ _ _ h => h) (Or.inl ⟨by rfl, ?hy82⟩) hHeld ?rest82
          case hy82 => (intro w' hSw; (try dsimp only at hSw); go_split_ands; go_simp; try with_reducible rfl)
          try simp only [Act.put, List.setIfInBounds_toArray, List.set_cons_zero, List.set_cons_succ]
          refine wpAnyH_take (i := 32) (oi := ({ dst := some 75, op := Op.binOp BinOp.gtr 3 (Operand.tmp 74) (Operand.const (Value.int IntKind.i64 0)) 3, type := 4, pos := "laws.go:976", after := #[{ on := 31, ground := Ground.data }, { on := 30, ground := Ground.guard }], guard := some (30, false) })) (v := ?v83) rfl (by kernel_rfl) (by kernel_rfl) (by kernel_rfl) (fun _ _ _ h => h) (Or.inl ⟨by rfl, ?hy83⟩) hHeld ?rest83
          case hy83 => (intro w' hSw; (try dsimp only at hSw); go_split_ands; go_simp; try with_reducible rfl)
          try simp only [Act.put, List.setIfInBounds_toArray, List.set_cons_zero, List.set_cons_succ]
          refine wpAnyH_take (i := 33) (oi := ({ dst := some 76, op := Op.move (Operand.tmp 75), type := 4, pos := "laws.go:976", after := #[{ on := 32, ground := Ground.data }, { on := 30, ground := Ground.chain }, { on := 30, ground := Ground.guard }], guard := some (30, false) })) (v := ?v84) rfl (by kernel_rfl) (by kernel_rfl) (by kernel_rfl) (fun _ _ _ h => h) (Or.inl ⟨by rfl, ?hy84⟩) hHeld ?rest84
          case hy84 => (intro w' hSw; (try dsimp only at hSw); go_split_ands; go_simp; try with_reducible rfl)
          try simp only [Act.put, List.setIfInBounds_toArray, List.set_cons_zero, List.set_cons_succ]
          refine wpAnyH_take (i := 34) (oi := ({ dst := some 77, op := Op.move (Operand.tmp 3), type := 56, pos := "laws.go:976", after := #[{ on := 33, ground := Ground.guard }], guard := some (33, true) })) (v := ?v85) rfl (by kernel_rfl) (by kernel_rfl) (by kernel_rfl) (fun _ _ _ h => h) (Or.inl ⟨by rfl, ?hy85⟩) hHeld ?rest85
          case hy85 => (intro w' hSw; (try dsimp only at hSw); go_split_ands; go_simp; try with_reducible rfl)
          try simp only [Act.put, List.setIfInBounds_toArray, List.set_cons_zero, List.set_cons_succ]
          refine wpAnyH_take (i := 35) (oi := ({ dst := some 78, op := Op.move (Operand.tmp 6), type := 43, pos := "laws.go:976", after := #[{ on := 33, ground := Ground.guard }], guard := some (33, true) })) (v := ?v86) rfl (by kernel_rfl) (by kernel_rfl) (by kernel_rfl) (fun _ _ _ h => h) (Or.inl ⟨by rfl, ?hy86⟩) hHeld ?rest86
          case hy86 => (intro w' hSw; (try dsimp only at hSw); go_split_ands; go_simp; try with_reducible rfl)
          try simp only [Act.put, List.setIfInBounds_toArray, List.set_cons_zero, List.set_cons_succ]
          refine wpAnyH_take (i := 36) (oi := ({ dst := some 79, op := Op.move (Operand.tmp 9), type := 3, pos := "laws.go:976", after := #[{ on := 33, ground := Ground.guard }], guard := some (33, true) })) (v := ?v87) rfl (by kernel_rfl) (by kernel_rfl) (by kernel_rfl) (fun _ _ _ h => h) (Or.inl ⟨by rfl, ?hy87⟩) hHeld ?rest87
          case hy87 => (intro w' hSw; (try dsimp only at hSw); go_split_ands; go_simp; try with_reducible rfl)
          try simp only [Act.put, List.setIfInBounds_toArray, List.set_cons_zero, List.set_cons_succ]
          refine wpAnyH_take (i := 37) (oi := ({ dst := some 80, op := Op.binOp BinOp.sub 3 (Operand.tmp 79) (Operand.const (Value.int IntKind.i64 1)) 3, type := 3, pos := "laws.go:976", after := #[{ on := 36, ground := Ground.data }, { on := 33, ground := Ground.guard }], guard := some (33, true) })) (v := ?v88) rfl (by kernel_rfl) (by kernel_rfl) (by kernel_rfl) (fun _ _ _ h => h) (Or.inl ⟨by rfl, ?hy88⟩) hHeld ?rest88
          case hy88 => (intro w' hSw; (try dsimp only at hSw); go_split_ands; go_simp; try with_reducible rfl)
          try simp only [Act.put, List.setIfInBounds_toArray, List.set_cons_zero, List.set_cons_succ]
          refine wpAnyH_take (i := 38) (oi := ({ dst := some 81, op := Op.indexAddr 43 (Operand.tmp 78) (Operand.tmp 80), type := 0, pos := "laws.go:976", after := #[{ on := 35, ground := Ground.data }, { on := 37, ground := Ground.data }, { on := 33, ground := Ground.guard }], guard := some (33, true) })) (v := ?v89) rfl (by kernel_rfl) (by kernel_rfl) (by kernel_rfl) (fun _ _ _ h => h) (Or.inl ⟨by rfl, ?hy89⟩) hHeld ?rest89
          case hy89 => (intro w' hSw; (try dsimp only at hSw); go_split_ands; go_simp; try with_reducible rfl)
          try simp only [Act.put, List.setIfInBounds_toArray, List.set_cons_zero, List.set_cons_succ]
          refine wpAnyH_take (i := 39) (oi := ({ dst := some 82, op := Op.load 3 (Operand.tmp 81), type := 3, pos := "laws.go:976", after := #[{ on := 38, ground := Ground.data }, { on := 33, ground := Ground.guard }], guard := some (33, true) })) (v := ?v90) rfl (by kernel_rfl) (by kernel_rfl) (by kernel_rfl) (fun _ _ _ h => h) (Or.inl ⟨by rfl, ?hy90⟩) hHeld ?rest90
          case hy90 => (intro w' hSw; (try dsimp only at hSw); go_split_ands; go_simp; try with_reducible rfl)
          try simp only [Act.put, List.setIfInBounds_toArray, List.set_cons_zero, List.set_cons_succ]
          refine wpAnyH_take (i := 41) (oi := ({ dst := some 84, op := Op.load 62 (Operand.tmp 8), type := 62, pos := "laws.go:976", after := #[{ on := 33, ground := Ground.guard }], guard := some (33, true) })) (v := ?v91) rfl (by kernel_rfl) (by kernel_rfl) (by kernel_rfl) (fun _ _ _ h => h) (Or.inl ⟨by rfl, ?hy91⟩) hHeld ?rest91
          case hy91 => (intro w' hSw; (try dsimp only at hSw); go_split_ands; go_simp; try with_reducible rfl)
          try simp only [Act.put, List.setIfInBounds_toArray, List.set_cons_zero, List.set_cons_succ]
          refine wpAnyH_take (i := 43) (oi := ({ dst := some 86, op := Op.move (Operand.tmp 3), type := 56, pos := "laws.go:976", after := #[{ on := 33, ground := Ground.guard }], guard := some (33, true) })) (v := ?v92) rfl (by kernel_rfl) (by kernel_rfl) (by kernel_rfl) (fun _ _ _ h => h) (Or.inl ⟨by rfl, ?hy92⟩) hHeld ?rest92
          case hy92 => (intro w' hSw; (try dsimp only at hSw); go_split_ands; go_simp; try with_reducible rfl)
          try simp only [Act.put, List.setIfInBounds_toArray, List.set_cons_zero, List.set_cons_succ]
          refine wpAnyH_take (i := 44) (oi := ({ dst := some 87, op := Op.move (Operand.tmp 6), type := 43, pos := "laws.go:976", after := #[{ on := 33, ground := Ground.guard }], guard := some (33, true) })) (v := ?v93) rfl (by kernel_rfl) (by kernel_rfl) (by kernel_rfl) (fun _ _ _ h => h) (Or.inl ⟨by rfl, ?hy93⟩) hHeld ?rest93
          case hy93 => (intro w' hSw; (try dsimp only at hSw); go_split_ands; go_simp; try with_reducible rfl)
          try simp only [Act.put, List.setIfInBounds_toArray, List.set_cons_zero, List.set_cons_succ]
          refine wpAnyH_take (i := 45) (oi := ({ dst := some 88, op := Op.move (Operand.tmp 9), type := 3, pos := "laws.go:976", after := #[{ on := 33, ground := Ground.guard }], guard := some (33, true) })) (v := ?v94) rfl (by kernel_rfl) (by kernel_rfl) (by kernel_rfl) (fun _ _ _ h => h) (Or.inl ⟨by rfl, ?hy94⟩) hHeld ?rest94
          case hy94 => (intro w' hSw; (try dsimp only at hSw); go_split_ands; go_simp; try with_reducible rfl)
          try simp only [Act.put, List.setIfInBounds_toArray, List.set_cons_zero, List.set_cons_succ]
          refine wpAnyH_take (i := 46) (oi := ({ dst := some 89, op := Op.indexAddr 43 (Operand.tmp 87) (Operand.tmp 88), type := 0, pos := "laws.go:976", after := #[{ on := 44, ground := Ground.data }, { on := 45, ground := Ground.data }, { on := 33, ground := Ground.guard }], guard := some (33, true) })) (v := ?v95) rfl (by kernel_rfl) (by kernel_rfl) (by kernel_rfl) (fun _ _ _ h => h) (Or.inl ⟨by rfl, ?hy95⟩) hHeld ?rest95
          case hy95 => (intro w' hSw; (try dsimp only at hSw); go_split_ands; go_simp; try with_reducible rfl)
          try simp only [Act.put, List.setIfInBounds_toArray, List.set_cons_zero, List.set_cons_succ]
          refine wpAnyH_take (i := 47) (oi := ({ dst := some 90, op := Op.load 3 (Operand.tmp 89), type := 3, pos := "laws.go:976", after := #[{ on := 46, ground := Ground.data }, { on := 33, ground := Ground.guard }], guard := some (33, true) })) (v := ?v96) rfl (by kernel_rfl) (by kernel_rfl) (by kernel_rfl) (fun _ _ _ h => h) (Or.inl ⟨by rfl, ?hy96⟩) hHeld ?rest96
          case hy96 => (intro w' hSw; (try dsimp only at hSw); go_split_ands; go_simp; try with_reducible rfl)
          try simp only [Act.put, List.setIfInBounds_toArray, List.set_cons_zero, List.set_cons_succ]
          refine wpAnyH_take (i := 49) (oi := ({ dst := some 92, op := Op.load 62 (Operand.tmp 8), type := 62, pos := "laws.go:976", after := #[{ on := 33, ground := Ground.guard }], guard := some (33, true) })) (v := ?v97) rfl (by kernel_rfl) (by kernel_rfl) (by kernel_rfl) (fun _ _ _ h => h) (Or.inl ⟨by rfl, ?hy97⟩) hHeld ?rest97
          case hy97 => (intro w' hSw; (try dsimp only at hSw); go_split_ands; go_simp; try with_reducible rfl)
          try simp only [Act.put, List.setIfInBounds_toArray, List.set_cons_zero, List.set_cons_succ]
          refine wpAnyH_ready (rs := [40]) (by kernel_rfl) (by simp) ?_
          refine AllReadyH.cons (o := ({ dst := some 83, op := Op.call { callee := Callee.value (Operand.func 47), args := #[Operand.tmp 77, Operand.tmp 82], argTypes := #[56, 3] }, type := 62, pos := "laws.go:976", after := #[{ on := 34, ground := Ground.data }, { on := 39, ground := Ground.data }, { on := 33, ground := Ground.chain }, { on := 33, ground := Ground.guard }], guard := some (33, true) })) rfl (fun K hK => ?_) ?_
          ·
            go_simp
            go_at_call 47; refine (HS2.out _ kB).mono ?_; rintro e wC ⟨rfl, kC'⟩
            try go_wp2_with fail
            have kC : Keep W0 wC := Keep.trans kB kC'
            refine hK.out _ _ (HSa _ kC) (fun hHeld => ?_)
            clear hK K
            try simp only [Act.put, List.setIfInBounds_toArray, List.set_cons_zero, List.set_cons_succ]
            refine wpAnyH_ready (rs := [42]) (by kernel_rfl) (by simp) ?_
            refine AllReadyH.cons (o := ({ dst := some 85, op := Op.call { callee := Callee.value (Operand.func 48), args := #[Operand.tmp 83, Operand.tmp 84], argTypes := #[62, 62] }, type := 3, pos := "laws.go:976", after := #[{ on := 40, ground := Ground.data }, { on := 41, ground := Ground.data }, { on := 40, ground := Ground.chain }, { on := 33, ground := Ground.guard }], guard := some (33, true) })) rfl (fun K hK => ?_) ?_
            ·
              go_simp
              go_at_call 48; refine (HFb.out _).mono ?_; rintro e wD ⟨rfl, kD'⟩
              try go_wp2_with fail
              have kD : Keep W0 wD := Keep.trans kC kD'
              refine hK.out _ _ (HSa _ kD) (fun hHeld => ?_)
              clear hK K
              try simp only [Act.put, List.setIfInBounds_toArray, List.set_cons_zero, List.set_cons_succ]
              refine wpAnyH_ready (rs := [48]) (by kernel_rfl) (by simp) ?_
              refine AllReadyH.cons (o := ({ dst := some 91, op := Op.call { callee := Callee.value (Operand.func 47), args := #[Operand.tmp 86, Operand.tmp 90], argTypes := #[56, 3] }, type := 62, pos := "laws.go:976", after := #[{ on := 43, ground := Ground.data }, { on := 47, ground := Ground.data }, { on := 42, ground := Ground.chain }, { on := 33, ground := Ground.guard }], guard := some (33, true) })) rfl (fun K hK => ?_) ?_
              ·
                go_simp
                go_at_call 47; refine (HS1.out _ kD).mono ?_; rintro e wE ⟨rfl, kE'⟩
                try go_wp2_with fail
                have kE : Keep W0 wE := Keep.trans kD kE'
                refine hK.out _ _ (HSa _ kE) (fun hHeld => ?_)
                clear hK K
                try simp only [Act.put, List.setIfInBounds_toArray, List.set_cons_zero, List.set_cons_succ]
                refine wpAnyH_ready (rs := [50]) (by kernel_rfl) (by simp) ?_
                refine AllReadyH.cons (o := ({ dst := some 93, op := Op.call { callee := Callee.value (Operand.func 48), args := #[Operand.tmp 91, Operand.tmp 92], argTypes := #[62, 62] }, type := 3, pos := "laws.go:976", after := #[{ on := 48, ground := Ground.data }, { on := 49, ground := Ground.data }, { on := 48, ground := Ground.chain }, { on := 33, ground := Ground.guard }], guard := some (33, true) })) rfl (fun K hK => ?_) ?_
                ·
                  go_simp
                  go_at_call 48; refine (HFa.out _).mono ?_; rintro e wF ⟨rfl, kF'⟩
                  try go_wp2_with fail
                  have kF : Keep W0 wF := Keep.trans kE kF'
                  refine hK.out _ _ (HSa _ kF) (fun hHeld => ?_)
                  clear hK K
                  try simp only [Act.put, List.setIfInBounds_toArray, List.set_cons_zero, List.set_cons_succ]
                  refine wpAnyH_take (i := 51) (oi := ({ dst := some 94, op := Op.binOp BinOp.gtr 3 (Operand.tmp 85) (Operand.tmp 93) 3, type := 4, pos := "laws.go:976", after := #[{ on := 42, ground := Ground.data }, { on := 50, ground := Ground.data }, { on := 33, ground := Ground.guard }], guard := some (33, true) })) (v := ?v98) rfl (by kernel_rfl) (by kernel_rfl) (by kernel_rfl) (fun _ _ _ h => h) (Or.inl ⟨by rfl, ?hy98⟩) hHeld ?rest98
                  case hy98 => (intro w' hSw; (try dsimp only at hSw); go_split_ands; go_simp; try with_reducible rfl)
                  try simp only [Act.put, List.setIfInBounds_toArray, List.set_cons_zero, List.set_cons_succ]
                  refine wpAnyH_take (i := 52) (oi := ({ dst := some 95, op := Op.pick (Operand.tmp 76) (Operand.tmp 94) (Operand.const (Value.bool false)), type := 4, pos := "laws.go:976", after := #[{ on := 33, ground := Ground.data }, { on := 51, ground := Ground.data }, { on := 30, ground := Ground.guard }], guard := some (30, false) })) (v := ?v99) rfl (by kernel_rfl) (by kernel_rfl) (by kernel_rfl) (fun _ _ _ h => h) (Or.inl ⟨by rfl, ?hy99⟩) hHeld ?rest99
                  case hy99 => (intro w' hSw; (try dsimp only at hSw); go_split_ands; go_simp; try with_reducible rfl)
                  try simp only [Act.put, List.setIfInBounds_toArray, List.set_cons_zero, List.set_cons_succ]
                  refine wpAnyH_take (i := 53) (oi := ({ dst := some 96, op := Op.pick (Operand.tmp 73) (Operand.const (Value.bool true)) (Operand.tmp 95), type := 4, pos := "laws.go:976", after := #[{ on := 30, ground := Ground.data }, { on := 52, ground := Ground.data }], guard := none })) (v := ?v100) rfl (by kernel_rfl) (by kernel_rfl) (by kernel_rfl) (fun _ _ _ h => h) (Or.inl ⟨by rfl, ?hy100⟩) hHeld ?rest100
                  case hy100 => (intro w' hSw; (try dsimp only at hSw); go_split_ands; go_simp; try with_reducible rfl)
                  try simp only [Act.put, List.setIfInBounds_toArray, List.set_cons_zero, List.set_cons_succ]
                  refine wpAnyH_done (by kernel_rfl) ?_ _
                  go_wp2
                  rw [← HBH.out]
                  go_roundw
                  case rel => exact ⟨k + 1, by omega, by go_num, hKK.trans kF⟩
                  case measure => simp [intOf]; omega
                exact AllReadyH.nil
              exact AllReadyH.nil
            exact AllReadyH.nil
          exact AllReadyH.nil
        exact AllReadyH.nil
      exact AllReadyH.nil

end Go.Proofs.Ytpgdbhafdnfhcaa
