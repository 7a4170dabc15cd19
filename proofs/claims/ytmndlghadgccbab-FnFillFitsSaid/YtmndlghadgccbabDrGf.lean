/- How a series with gaps and values that often agree are drawn. -/
import Derived.Test.YtmndlghadgccbabDrGp
import Derived.Test.YtmndlghadgccbabGo
import Derived.Test.YtmndlghadgccbabGi
namespace Go.Proofs.Ytmndlghadgccbab
open Go.RowKit
set_option linter.unusedVariables false

theorem Rd.keepG {w w' : World} {B p : Nat} (h : Rd w B p) (k : Keep w w') : Rd w' B p := by
  obtain ⟨a, len, cap, h1, h2, c0, c1, f1, hc⟩ := h
  have hz := k.size
  refine ⟨a, len, cap, h1, by omega, k.cell c0, k.cell c1, k.still c1 f1, hc.keep fun b o hb => ?_⟩
  exact Below.cell k (p := ⟨b, o, none⟩) (show b < w.heap.size by omega)
theorem Only.ot {P base : Nat} {w w' : World} (h : Only P w w') : Ot P base w w' := ⟨h.os, h.tape, h.output, h.size, fun k hk _ hne => h.block k hk (by simpa using hne)⟩
theorem Ot.alloc {P base : Nat} {a w : World} (h : Ot P base a w) (o : Obj) : Ot P base a (w.alloc o) := h.trans (Keep.ot ((Keep.refl w).alloc o))
theorem Ot.put {P base b o : Nat} {a w : World} (h : Ot P base a w) (hb : base ≤ b) (u : Value) : Ot P base a (w.setCell ⟨b, o, none⟩ u) :=
  ⟨h.os, h.tape, h.output, by have := h.size; simpa [World.setCell] using this, fun k hk hkb hne => (Below.heap_setCell _ _ _ _ (by simp; omega)).trans (h.block k hk hkb hne)⟩
theorem Ls.ot {P base : Nat} {w w' : World} {a : Option Addr} {zs : List Int} (h : LsN P w a zs) (hl : Lo base a zs.length) (ho : Ot P base w w') : Ls w' a zs := by
  rcases hl with hl | hl
  · exact .inl (List.eq_nil_of_length_eq_zero hl)
  · rcases h.2 with h2 | h2
    · exact .inl h2
    · rcases h.1 with h1 | ⟨b, off, ha, hb, hc⟩
      · exact .inl h1
      · exact .inr ⟨b, off, ha, Nat.lt_of_lt_of_le hb ho.size, fun i hi => ho.cell (hc i hi) (hl b off ha) (h2 b off ha)⟩
theorem Ls.tail {w : World} {b off : Nat} {zs : List Int} (h : Ls w (some ⟨b, off, none⟩) zs) : Ls w (some ⟨b, off + 1, none⟩) (zs.drop 1) := by
  rcases h with h | ⟨b', off', ha, hb, hc⟩
  · left; rw [h]; rfl
  · injection ha with ha
    injection ha with e1 e2 _
    subst e1
    subst e2
    refine .inr ⟨b, off + 1, rfl, hb, fun i hi => ?_⟩
    rw [List.length_drop] at hi
    rw [show off + 1 + i = off + (1 + i) by omega, hc (1 + i) (by omega)]
    simp [List.getD_eq_getElem?_getD, Nat.add_comm]
theorem res5 {fn : Func} {t u v x y : Tmp} (h : fn.results = #[.tmp t, .tmp u, .tmp v, .tmp x, .tmp y]) (tmps : Array Value) (P : Program) (w : World) :
    (results fn tmps).run P w = .ok (.tuple #[tmps.getD t undef, tmps.getD u undef, tmps.getD v undef, tmps.getD x undef, tmps.getD y undef]) w := by
  simp [results, h]
theorem infoIntG : (Try.prog.info? 3).map (fun i => (i.zero, i.size, i.bytes)) = some (some (.int .i64 0), 1, 8) := by kernel_rfl
def DrewFf (w : World) (e : Ending) (w' : World) : Prop := ∃ (a b : Option Addr) (c d : Nat) (zs ds : List Int) (lo hi st : Int), e = .returned (.tuple #[.slice a zs.length c, .int .i64 lo, .int .i64 hi, .int .i64 st, .slice b ds.length d]) ∧
      (zs.length ≤ 13 ∧ zs.length ≤ c) ∧ (ds.length ≤ 13 ∧ ds.length ≤ d) ∧ Ls w' a zs ∧ Ls w' b ds ∧ Keep w w'
set_option maxRecDepth 100000 in
set_option maxHeartbeats 4000000 in
theorem drawFillFits (a0 : Option Addr) (len cap : Nat) (w : World) (ha : CodeArg w a0 len cap) :
    Calls Try.prog 16 #[.slice a0 len cap] w (DrewFf w) := by
  obtain ⟨i0, hi0, hz0, hz1, hz2⟩ := info_parts infoIntG
  go_enter Try.func16, Try.ntmps16
  go_wp2_with fail
  refine (open_any a0 len cap _ ha).mono ?_
  rintro e w1 ⟨rfl, hr1, hb, hs⟩
  have hb : Keep w w1 := hb
  go_wp2_with fail
  refine (drawFill _ 0 _ (by omega) hr1).mono ?_
  rintro e w2 ⟨a, c, zs, lo, hi, st, q, rfl, hl, hc, hB, hL, hlo, hhi, hst, hq, hr2, ho2⟩
  have k2 : Keep w w2 := Only.keep ho2 hb (Nat.le_refl _)
  clear hB hlo hhi hst hs hr1 ho2 hb ha
  go_wp2_with fail
  refine (fi_spec a c zs lo hi st _ hL.1 (by omega)).mono ?_
  rintro e w3 ⟨p, cp, rfl, hcp, hF, k3⟩
  have hL3 : LsN w.heap.size w3 a zs := hL.onlyo k3.only
  have hlo3 := hL3.1.lo
  have hr3 : Rd w3 w.heap.size q := hr2.keepG k3
  have hBw3 : w.heap.size < w3.heap.size := hr3.lt
  have K3 : Keep w w3 := k2.trans k3
  have hBw2 : w.heap.size < w2.heap.size := hr2.lt
  have HRG : Hid (gOk zs lo hi st = true → ∀ i, i < zs.length → ∃ g, p = some ⟨g, 0, none⟩ ∧ g < w3.heap.size ∧ g ≠ w.heap.size ∧ At2 w3 g (i * 2) (gL zs lo st i, gH zs hi st i)) := Lib.hid (fun hok i hi' => by
    have e := gRL_yes hok
    rw [e] at hF
    rcases hF with hF | ⟨g, hg, hgw, hgl, hW⟩
    · exfalso
      have := gRl_len zs lo hi st
      rw [hF] at this
      simp at this; omega
    · refine ⟨g, hg, hgl, by omega, ?_⟩
      have := (hW i (by rw [gRl_len]; exact hi')).1
      rwa [gRl_at hi'] at this)
  have HLg : Hid (gOk zs lo hi st = true → (gRL zs lo hi st).length = zs.length) := Lib.hid (fun hok => by rw [gRL_yes hok, gRl_len])
  have HLA := Lib.hid hL3
  have HLO := Lib.hid hlo3
  have HK3 := Lib.hid K3
  have HR3 := Lib.hid hr3
  clear hF hL hL3 hlo3 K3 hr3 hr2 k2 k3 hBw2
  obtain ⟨ok, hok⟩ : ∃ ok, gOk zs lo hi st = ok := ⟨_, rfl⟩
  obtain ⟨n2, hn2⟩ : ∃ n2, (gRL zs lo hi st).length = n2 := ⟨_, rfl⟩
  rw [hok] at HRG HLg
  rw [hn2] at HLg hcp
  rw [hok, hn2]
  clear hok hn2
  go_wp2_with fail
  go_loopw [14, 15] (fun v i wr => ∃ (k : Nat) (ds : List Int), i = .int .i64 k ∧ k ≤ zs.length ∧ Hid (ds.length = k) ∧ Hid (OwnI wr w3.heap.size v ds) ∧ (∃ q' : Nat, q' ≤ q + k ∧ Hid (Rd wr w.heap.size q')) ∧ Hid (Ot w.heap.size w3.heap.size w3 wr)) (fun _ i _ => zs.length - (intOf i).toNat)
  case atStart =>
    exact ⟨0, [], rfl, by omega, Lib.hid rfl, Lib.hid (World.ownsRow_made w3 #[] 0 (Nat.le_refl _) (by unfold maxLen; omega) rfl), ⟨q, by omega, Lib.hid (HR3.out.alloc _)⟩, Lib.hid ((Ot.refl _ _ w3).alloc _)⟩
  case round =>
    obtain ⟨k, ds, rfl, hk, HLd, HO, ⟨q', hq', HRd⟩, HT⟩ := hrel
    have hsz := HT.out.size
    by_cases hlt : k < zs.length
    · go_wp2_with fail
      refine (pick_any _ q' 100 _ (by omega) (by omega) HRd.out).mono ?_
      rintro e wp ⟨x, rfl, x0, x1, hrp, hop, hsp⟩
      have HOp := Lib.hid (HO.out.only hop hBw3)
      have HRp := Lib.hid hrp
      have HTp := Lib.hid (HT.out.trans (hop.ot (base := w3.heap.size)))
      have hszp := HTp.out.size
      clear hrp hop hsp HO HRd HT
      cases ok
      · have hown : wp.ownsRow w3.heap.size 3 1 _ ds.length (ds.map (Value.int .i64)) := HOp.out
        go_wp2_with (at_builtin; refine wpList_append_own _ rfl _ _ 23 rfl w3.heap.size 3 i0 (.int .i64 0) 1 8 Try.underlying23 hi0 hz0 hz1 hz2 rfl (by decide) _ _ _ rfl (hown.alloc _) ⟨wp.heap.size, 0, none⟩ 1 1 [.int .i64 x] rfl rfl ?c1a ?c2a ?c3a ?c4a ?c5a ?_)
        try case c1a =>
          intro j u hj
          match j, hj with
          | 0, hj => simp at hj; subst hj; simp [Addr.add]
        case c2a => first | rfl | (intro u hu; simp at hu; subst hu; rfl)
        case c3a => unfold maxLen; have := HLd.out; omega
        case c4a => have := HLd.out; omega
        case c5a => first | omega | (simp; omega)
        intro v' w9 hown' hgrow hnil
        have hrow : ∀ g, _ = some g → w3.heap.size ≤ g := fun g hg => (hown.lt g hg).1
        have HN : Hid (OwnI w9 w3.heap.size v' (ds ++ [x])) := Lib.hid (by unfold OwnI; simpa using hown')
        have HR9 := Lib.hid ((HRp.out.alloc (.cells #[.int .i64 x] 3)).grown2 hgrow hBw3 hrow)
        have HT9 := Lib.hid ((HTp.out.alloc (.cells #[.int .i64 x] 3)).grown hgrow hrow)
        clear hown' hgrow hnil hown hrow
        go_wp2
        go_roundw
        case rel => exact ⟨k + 1, ds ++ [x], by go_num, by omega, Lib.hid (by have := HLd.out; simp; omega), HN, ⟨_, by omega, HR9⟩, HT9⟩
        case measure => simp [intOf]; omega
      · obtain ⟨g, rfl, hg1, hg2, ⟨c0, c1⟩⟩ := HRG.out rfl k hlt
        have d0 : wp.cell? ⟨g, k * 2, none⟩ = some (.int .i64 (gL zs lo st k)) := HTp.out.cell c0 hg1 hg2
        have hn3 := HLg.out rfl
        have k0 : (0 : Int) ≤ (k : Int) := by omega
        have kz : (k : Int) < (n2 : Int) := by omega
        clear c0 c1
        generalize gL zs lo st k = y at *
        clear hn3
        have hown : wp.ownsRow w3.heap.size 3 1 _ ds.length (ds.map (Value.int .i64)) := HOp.out
        go_wp2_with (at_builtin; refine wpList_append_own _ rfl _ _ 23 rfl w3.heap.size 3 i0 (.int .i64 0) 1 8 Try.underlying23 hi0 hz0 hz1 hz2 rfl (by decide) _ _ _ rfl (hown.alloc _) ⟨wp.heap.size, 0, none⟩ 1 1 [.int .i64 y] rfl rfl ?c1a ?c2a ?c3a ?c4a ?c5a ?_)
        try case c1a =>
          intro j u hj
          match j, hj with
          | 0, hj => simp at hj; subst hj; simp [Addr.add]
        case c2a => first | rfl | (intro u hu; simp at hu; subst hu; rfl)
        case c3a => unfold maxLen; have := HLd.out; omega
        case c4a => have := HLd.out; omega
        case c5a => first | omega | (simp; omega)
        intro v' w9 hown' hgrow hnil
        have hrow : ∀ g, _ = some g → w3.heap.size ≤ g := fun g hg => (hown.lt g hg).1
        have HN : Hid (OwnI w9 w3.heap.size v' (ds ++ [y])) := Lib.hid (by unfold OwnI; simpa using hown')
        have HR9 := Lib.hid ((HRp.out.alloc (.cells #[.int .i64 y] 3)).grown2 hgrow hBw3 hrow)
        have HT9 := Lib.hid ((HTp.out.alloc (.cells #[.int .i64 y] 3)).grown hgrow hrow)
        clear hown' hgrow hnil hown hrow
        go_wp2
        go_roundw
        case rel => exact ⟨k + 1, ds ++ [y], by go_num, by omega, Lib.hid (by have := HLd.out; simp; omega), HN, ⟨_, by omega, HR9⟩, HT9⟩
        case measure => simp [intOf]; omega
    · obtain rfl : k = zs.length := by omega
      by_cases h0 : zs.length = 0
      · obtain ⟨x, cx, rfl, hLs⟩ := HO.out.ls
        have hds : ds.length = 0 := by have := HLd.out; omega
        have hd0 : decide ((0 : Int) < (ds.length : Int)) = false := decide_eq_false (by omega)
        have HFN : Hid (DrewFf w (.returned (.tuple #[.slice a zs.length c, .int .i64 lo, .int .i64 hi, .int .i64 st, .slice x ds.length cx])) wr) := Lib.hid ⟨a, x, c, cx, zs, ds, lo, hi, st, rfl, ⟨hl, hc⟩, ⟨by omega, by omega⟩, Ls.ot HLA.out HLO.out HT.out, hLs, HT.out.keep HK3.out (Nat.le_refl _) (by omega)⟩
        clear hLs
        go_wp2
        try simp only [Exit.inBlock, Exit.then]
        refine bodyPost_ret (res5 rfl _ _ _) rfl ?_
        exact HFN.out
      obtain ⟨g, cap, rfl, hgb, hgl, hcell⟩ := HO.out.at_ (by have := HLd.out; omega)
      have hcapn : zs.length ≤ cap := by
        obtain ⟨a9, c9, h9, hc9, _⟩ := HO.out.lsc
        injection h9 with _ _ e9
        subst e9
        have := HLd.out; omega
      have HCL : Hid (∀ j, j < zs.length → wr.cell? ⟨g, j, none⟩ = some (.int .i64 (ds.getD j 0)) ∧ wr.frozen? ⟨g, j, none⟩ = false) := Lib.hid (fun j hj => hcell j (by have := HLd.out; omega))
      have HOd : Hid (OwnI wr w3.heap.size (.slice (some ⟨g, 0, none⟩) ds.length cap) ds) := HO
      rw [HLd.out] at HOd ⊢
      have hBg : g ≠ w.heap.size := by omega
      have hd0 : decide ((0 : Int) < (zs.length : Int)) = true := decide_eq_true (by omega)
      clear hcell HO HRG HLg
      go_wp2_with fail
      refine (pick_any _ q' 3 _ (by omega) (by omega) HRd.out).mono ?_
      rintro e w4 ⟨y, rfl, y0, y1, hr4, ho4, hs4⟩
      have HO4 := Lib.hid (HOd.out.only ho4 hBw3)
      have HT4 := Lib.hid (HT.out.trans (ho4.ot (base := w3.heap.size)))
      have HR4 := Lib.hid hr4
      have HC4 : Hid (∀ j, j < zs.length → w4.cell? ⟨g, j, none⟩ = some (.int .i64 (ds.getD j 0)) ∧ w4.frozen? ⟨g, j, none⟩ = false) := Lib.hid (fun j hj => by
        obtain ⟨h1, h2⟩ := HCL.out j hj
        exact ⟨(ho4.cell _ _ (World.block_lt_of_cell? wr _ h1) hBg).trans h1, (ho4.frozen _ _ (World.block_lt_of_cell? wr _ h1) hBg).trans h2⟩)
      clear hr4 ho4 hs4 HOd HT HRd HCL
      rcases (show y = 0 ∨ (y == 0) = false by by_cases h : y = 0 <;> simp [h]) with rfl | hy
      · go_wp2_with fail
        refine (pick_any _ (q' + 1) zs.length _ (by omega) (by omega) HR4.out).mono ?_
        rintro e w5 ⟨t, rfl, t0, t1, hr5, ho5, hs5⟩
        obtain ⟨j, rfl⟩ := Int.eq_ofNat_of_zero_le t0
        have hj : j < zs.length := by omega
        obtain ⟨d0, f0⟩ : w5.cell? ⟨g, j, none⟩ = some (.int .i64 (ds.getD j 0)) ∧ w5.frozen? ⟨g, j, none⟩ = false := by
          obtain ⟨h1, h2⟩ := HC4.out j hj
          exact ⟨(ho5.cell _ _ (World.block_lt_of_cell? w4 _ h1) hBg).trans h1, (ho5.frozen _ _ (World.block_lt_of_cell? w4 _ h1) hBg).trans h2⟩
        have hg5 := World.block_lt_of_cell? w5 _ d0
        have HO5 := Lib.hid (HO4.out.only ho5 hBw3)
        have HT5 := Lib.hid (HT4.out.trans (ho5.ot (base := w3.heap.size)))
        clear ho5 hs5 HO4 HT4 HC4 HR4
        generalize ds.getD j 0 = dv at *
        go_wp2_with fail
        go_region_with (go_at_call 41; (with_reducible refine (pick_any _ (q' + 2) 30 _ (by omega) (by omega) (Rd.drew hr5)).mono ?_); rintro e w6 ⟨x, rfl, x0, x1, hr6, ho6, hs6⟩; have d6 : w6.cell? ⟨g, j, none⟩ = some (.int .i64 dv) := (ho6.cell _ _ hg5 hBg).trans d0; have f6 : w6.frozen? ⟨g, j, none⟩ = false := (ho6.frozen _ _ hg5 hBg).trans f0)
        all_goals
          refine @abs_world (fun wq => Exit.then _ _ Exit.normal _ wq) _ (fun wq => ∃ dF : List Int, Hid (dF.length = zs.length) ∧ Hid (OwnI wq w3.heap.size (.slice (some ⟨g, 0, none⟩) zs.length cap) dF) ∧ Hid (Rd wq w.heap.size (q' + 3)) ∧ Hid (Ot w.heap.size w3.heap.size w3 wq)) ⟨ds.set j (IntKind.i64.wrap (dv + x)), Lib.hid (by rw [List.length_set]; exact HLd.out), Lib.hid (by
            have h9 := HO5.out.only (Only.trans ((Only.refl _ w5).drewN 1) ho6) hBw3
            have h8 : OwnI w6 w3.heap.size (.slice (some ⟨g, 0, none⟩) ds.length cap) ds := by rw [HLd.out]; exact h9
            have h7 := h8.stored j (IntKind.i64.wrap (dv + x))
            rw [List.length_set, HLd.out] at h7
            exact h7), Lib.hid (hr6.setCell (by omega) _), Lib.hid (Ot.put ((HT5.out.trans ((Keep.ot ((Keep.refl w5).drewN 1)))).trans (ho6.ot (base := w3.heap.size))) hgb _)⟩ ?_
          rintro wq ⟨dF, HLF, HOF, HRF, HTF⟩
          clear d6 f6 hr6 ho6 hs6 d0 f0 HO5 HT5 hr5
          go_wp2_with fail
          refine (pick_any _ (q' + 3) 24 _ (by omega) (by omega) HRF.out).mono ?_
          rintro e wz ⟨z, rfl, z0, z1, hrz, hoz, hsz9⟩
          have HOz := HOF.out.only hoz hBw3
          have HTz := Lib.hid (HTF.out.trans (hoz.ot (base := w3.heap.size)))
          have hLz : Ls wz (some ⟨g, 0, none⟩) dF := (Ls.own (show wz.ownsRow w3.heap.size 3 1 (.slice (some ⟨g, 0, none⟩) dF.length cap) dF.length (dF.map (Value.int .i64)) by have h9 := HOz; unfold OwnI at h9; rw [HLF.out]; rw [HLF.out] at h9; exact h9)).2
          have HLz := Lib.hid hLz
          have HAz := Lib.hid (Ls.ot HLA.out HLO.out HTz.out)
          have HKz := Lib.hid (HTz.out.keep HK3.out (Nat.le_refl _) (by omega))
          clear hrz hoz hsz9 HOz hLz
          rcases (show z = 0 ∨ (z == 0) = false by by_cases h : z = 0 <;> simp [h]) with rfl | hz
          · by_cases hc1 : cap = 1
            · subst hc1
              have hn1 : 1 ≤ zs.length := by omega
              have hn2' : zs.length ≤ 1 := hcapn
              have HFN : Hid (∀ n, DrewFf w (.returned (.tuple #[.slice a zs.length c, .int .i64 lo, .int .i64 hi, .int .i64 st, .slice (some ⟨g, 0, none⟩) 0 0])) (wz.drewN n)) := Lib.hid (fun n => by
                exact ⟨a, some ⟨g, 0, none⟩, c, 0, zs, [], lo, hi, st, rfl, ⟨hl, hc⟩, ⟨by simp, by simp⟩, HAz.out, .inl rfl, HKz.out.drewN n⟩)
              go_wp2_with fail
              go_quiet (fail)
              go_wp2
              try simp only [Exit.inBlock, Exit.then]
              refine bodyPost_ret (res5 rfl _ _ _) rfl ?_
              exact HFN.out _
            · have hcc : ((cap : Int) == 1) = false := beq_eq_false_iff_ne.2 (by omega)
              have hcc2 : (cap == 1) = false := beq_eq_false_iff_ne.2 hc1
              have HFN : Hid (∀ n, DrewFf w (.returned (.tuple #[.slice a zs.length c, .int .i64 lo, .int .i64 hi, .int .i64 st, .slice (some ⟨g, 1, none⟩) (zs.length - 1) (cap - 1)])) (wz.drewN n)) := Lib.hid (fun n => by
                have h9 := HLz.out.tail
                have hl9 : (dF.drop 1).length = zs.length - 1 := by rw [List.length_drop, HLF.out]
                exact ⟨a, some ⟨g, 1, none⟩, c, cap - 1, zs, dF.drop 1, lo, hi, st, by rw [hl9], ⟨hl, hc⟩, ⟨by omega, by omega⟩, HAz.out, h9, HKz.out.drewN n⟩)
              go_wp2_with fail
              go_quiet (fail)
              go_wp2
              try simp only [Exit.inBlock, Exit.then]
              refine bodyPost_ret (res5 rfl _ _ _) rfl ?_
              exact HFN.out _
          · have HFN : Hid (DrewFf w (.returned (.tuple #[.slice a zs.length c, .int .i64 lo, .int .i64 hi, .int .i64 st, .slice (some ⟨g, 0, none⟩) zs.length cap])) wz) := Lib.hid ⟨a, some ⟨g, 0, none⟩, c, cap, zs, dF, lo, hi, st, by rw [HLF.out], ⟨hl, hc⟩, ⟨by rw [HLF.out]; exact hl, by rw [HLF.out]; exact hcapn⟩, HAz.out, HLz.out, HKz.out⟩
            go_wp2
            try simp only [Exit.inBlock, Exit.then]
            refine bodyPost_ret (res5 rfl _ _ _) rfl ?_
            exact HFN.out
      · have HLF := HLd
        obtain ⟨dF, hdF⟩ : ∃ dF, ds = dF := ⟨_, rfl⟩
        subst hdF
        obtain ⟨wq, hwq⟩ : ∃ wq, w4 = wq := ⟨_, rfl⟩
        subst hwq
        have HOF := HO4
        have HRF := HR4
        have HTF := HT4
        go_wp2_with fail
        refine (pick_any _ (q' + 1) 24 _ (by omega) (by omega) HRF.out).mono ?_
        rintro e wz ⟨z, rfl, z0, z1, hrz, hoz, hsz9⟩
        have HOz := HOF.out.only hoz hBw3
        have HTz := Lib.hid (HTF.out.trans (hoz.ot (base := w3.heap.size)))
        have hLz : Ls wz (some ⟨g, 0, none⟩) ds := (Ls.own (show wz.ownsRow w3.heap.size 3 1 (.slice (some ⟨g, 0, none⟩) ds.length cap) ds.length (ds.map (Value.int .i64)) by have h9 := HOz; unfold OwnI at h9; rw [HLF.out]; rw [HLF.out] at h9; exact h9)).2
        have HLz := Lib.hid hLz
        have HAz := Lib.hid (Ls.ot HLA.out HLO.out HTz.out)
        have HKz := Lib.hid (HTz.out.keep HK3.out (Nat.le_refl _) (by omega))
        clear hrz hoz hsz9 HOz hLz
        rcases (show z = 0 ∨ (z == 0) = false by by_cases h : z = 0 <;> simp [h]) with rfl | hz
        · by_cases hc1 : cap = 1
          · subst hc1
            have hn1 : 1 ≤ zs.length := by omega
            have hn2' : zs.length ≤ 1 := hcapn
            have HFN : Hid (∀ n, DrewFf w (.returned (.tuple #[.slice a zs.length c, .int .i64 lo, .int .i64 hi, .int .i64 st, .slice (some ⟨g, 0, none⟩) 0 0])) (wz.drewN n)) := Lib.hid (fun n => by
              exact ⟨a, some ⟨g, 0, none⟩, c, 0, zs, [], lo, hi, st, rfl, ⟨hl, hc⟩, ⟨by simp, by simp⟩, HAz.out, .inl rfl, HKz.out.drewN n⟩)
            go_wp2_with fail
            go_quiet (fail)
            go_wp2
            try simp only [Exit.inBlock, Exit.then]
            refine bodyPost_ret (res5 rfl _ _ _) rfl ?_
            exact HFN.out _
          · have hcc : ((cap : Int) == 1) = false := beq_eq_false_iff_ne.2 (by omega)
            have hcc2 : (cap == 1) = false := beq_eq_false_iff_ne.2 hc1
            have HFN : Hid (∀ n, DrewFf w (.returned (.tuple #[.slice a zs.length c, .int .i64 lo, .int .i64 hi, .int .i64 st, .slice (some ⟨g, 1, none⟩) (zs.length - 1) (cap - 1)])) (wz.drewN n)) := Lib.hid (fun n => by
              have h9 := HLz.out.tail
              have hl9 : (ds.drop 1).length = zs.length - 1 := by rw [List.length_drop, HLF.out]
              exact ⟨a, some ⟨g, 1, none⟩, c, cap - 1, zs, ds.drop 1, lo, hi, st, by rw [hl9], ⟨hl, hc⟩, ⟨by omega, by omega⟩, HAz.out, h9, HKz.out.drewN n⟩)
            go_wp2_with fail
            go_quiet (fail)
            go_wp2
            try simp only [Exit.inBlock, Exit.then]
            refine bodyPost_ret (res5 rfl _ _ _) rfl ?_
            exact HFN.out _
        · have HFN : Hid (DrewFf w (.returned (.tuple #[.slice a zs.length c, .int .i64 lo, .int .i64 hi, .int .i64 st, .slice (some ⟨g, 0, none⟩) zs.length cap])) wz) := Lib.hid ⟨a, some ⟨g, 0, none⟩, c, cap, zs, ds, lo, hi, st, by rw [HLF.out], ⟨hl, hc⟩, ⟨by rw [HLF.out]; exact hl, by rw [HLF.out]; exact hcapn⟩, HAz.out, HLz.out, HKz.out⟩
          go_wp2
          try simp only [Exit.inBlock, Exit.then]
          refine bodyPost_ret (res5 rfl _ _ _) rfl ?_
          exact HFN.out
end Go.Proofs.Ytmndlghadgccbab
