/- joinMoved, AdjustSteps, AdjustOf, AdjustBack of the program. -/
import Derived.Test.YtehjjoalnfpgdaaAs
import Derived.Test.YtehjjoalnfpgdaaApp
import Derived.Deep.RegionLaw
namespace Go.Proofs.Ytehjjoalnfpgdaa
open Go.RowKit Go.Shelf
set_option linter.unusedVariables false

/-- How many values the first k parts have. -/
def pQ (zs cs : List Int) (k : Nat) : Nat := if k ≤ cs.length then pS cs k else zs.length
theorem pQ_zero (zs cs : List Int) : pQ zs cs 0 = 0 := by rw [pQ, if_pos (Nat.zero_le _)]; rfl
theorem pQ_at {zs cs : List Int} {k : Nat} (h : k ≤ cs.length) : pQ zs cs k = pS cs k := by rw [pQ, if_pos h]
theorem pQ_succ {zs cs : List Int} {k : Nat} (h : k ≤ cs.length) : pQ zs cs (k + 1) = pE zs cs k := by
  by_cases h2 : k < cs.length
  · rw [pQ, if_pos (by omega), pS_succ h2]
  · obtain rfl : k = cs.length := by omega
    rw [pQ, if_neg (by omega), pE_last]
theorem pQ_all (zs cs : List Int) : pQ zs cs (cs.length + 1) = zs.length := by rw [pQ, if_neg (by omega)]
theorem shB_bd {L : List Int} (h : shB L = true) : ∀ j, j < L.length → -1000 ≤ L.getD j 0 ∧ L.getD j 0 ≤ 11000 := fun j hj => by
  have := sh_at h hj; omega
def jmL (zs cs st : List Int) : List Int := if shB (adL zs cs st) = true then adL zs cs st else []
theorem wr_news {w : World} {g : Nat} {L : List Int} (h : Wr w g L) : ∀ j u, (L.map (Value.int .i64))[j]? = some u → w.cell? ((⟨g, 0, none⟩ : Addr).add j) = some u := by
  intro j u hj
  have hl : j < L.length := by
    have := (List.getElem?_eq_some_iff.1 hj).1
    simpa using this
  rw [List.getElem?_map, List.getElem?_eq_getElem hl] at hj
  simp only [Option.map_some, Option.some.injEq] at hj
  subst hj
  have h1 := (h j hl).1
  rw [Addr.add_lit, Nat.zero_add, h1]
  simp [List.getD_eq_getElem?_getD, hl]
theorem ints_one {L : List Int} : ∀ u ∈ L.map (Value.int .i64), u.oneCell' = true := by
  intro u hu
  simp only [List.mem_map] at hu
  obtain ⟨x, _, rfl⟩ := hu
  rfl
theorem nAE (v : Value) (w : World) : Sem.run Try.prog (nilAhead 215 61 (.agg #[v]) "loop.example/weatherarchive/impl.movedBy") w = .ok (some false) w := by kernel_rfl
theorem nAL (v : Value) (w : World) : Sem.run Try.prog (nilAhead 215 62 (.agg #[v]) "loop.example/weatherarchive/impl.movedBy") w = .ok (some false) w := by kernel_rfl
set_option maxRecDepth 100000 in
set_option maxHeartbeats 4000000 in
theorem jm_any (b off ca g c m cst : Nat) (s : Option Addr) (zs cs st : List Int) (w : World) (hL : Ls w (some ⟨b, off, none⟩) zs) (hS : Ls w s st) (hB : ajB zs cs = true) (hm : cs.length + 1 = m) (hst : st.length = m) (hbd : ∀ j, j < m → -20000 ≤ st.getD j 0 ∧ st.getD j 0 ≤ 20000) (hg : g < w.heap.size) (hc : ∀ j, j < m → w.cell? ⟨g, j, none⟩ = some (prV b off ca zs cs j)) :
    Calls Try.prog 31 #[.slice (some ⟨g, 0, none⟩) m c, .slice s m cst] w (NwB (jmL zs cs st) (shB (adL zs cs st)) w) := by
  obtain ⟨l1, l8, hlc⟩ := ajB_len hB
  have hm8 : m ≤ 8 := by omega
  have HMv := Lib.hid (fun (j : Nat) (hj : j < m) W (k : Keep w W) => mov_any b (off + pS cs j) (ca - pS cs j) (pE zs cs j - pS cs j) (seg zs (pS cs j) (pE zs cs j)) (st.getD j 0) W (ls_seg (hL.keep k) _ _) (seg_p hB (by omega)).2 (by have := (p_bd hB (k := j) (by omega)).2.1; omega) (by have := (p_bd hB (k := j) (by omega)).2.2.1; omega) (by have h9 := shB_bd (seg_p hB (k := j) (by omega)).1; rw [(seg_p hB (k := j) (by omega)).2] at h9; exact h9) (by have := hbd j hj; omega))
  have HBd := Lib.hid hbd
  have HIn := Lib.hid (fun k (hk : k < cs.length) => prV_in (b := b) (off := off) (ca := ca) (zs := zs) hk)
  have HLa := Lib.hid (fun k (hk : ¬ k < cs.length) => prV_last (b := b) (off := off) (ca := ca) (zs := zs) hk)
  have HTk : Hid (∀ k, k < m → (adL zs cs st).take (pQ zs cs (k + 1)) = (adL zs cs st).take (pQ zs cs k) ++ (seg zs (pS cs k) (pE zs cs k)).map (· + st.getD k 0)) := Lib.hid (fun k hk => by
    rw [pQ_succ (by omega), pQ_at (by omega), adL_take hB (by omega)])
  have HSg : Hid (∀ k, k < m → (seg zs (pS cs k) (pE zs cs k)).length = pE zs cs k - pS cs k ∧ pE zs cs k ≤ 8) := Lib.hid (fun k hk => ⟨(seg_p hB (by omega)).2, by have := (p_bd hB (k := k) (by omega)).2.2.1; omega⟩)
  have HAll : Hid ((adL zs cs st).take (pQ zs cs m) = adL zs cs st) := Lib.hid (by rw [← hm, pQ_all, ← adL_len zs cs st, List.take_length])
  have HLen : Hid ((adL zs cs st).length ≤ 8) := Lib.hid (by rw [adL_len]; exact l8)
  have HCc := Lib.hid (fun W (k : Keep w W) j (hj : j < m) => k.cell (hc j hj))
  have HSt := Lib.hid (fun j (hj : j < m) W (k : Keep w W) => (hS.keep k).at_ (i := j) (by omega))
  have hcl : ∀ k, k < m → k < cs.length ∨ ¬ k < cs.length := fun k _ => by omega
  have HCl := Lib.hid hcl
  have hmix : Try.prog.follows .mixedOrders = true := by kernel_rfl
  obtain ⟨i0, hi0, hz0, hz1, hz2⟩ := info_parts infoIntO
  have HZ : Hid ((adL zs cs st).take (pQ zs cs 0) = []) := Lib.hid (by rw [pQ_zero, List.take_zero])
  have hpost : ∀ (n : Nat) (x : Option Addr) (cc : Nat) (W : World), shB (adL zs cs st) = true → OwI W w.heap.size (.slice x n cc) (adL zs cs st) → Keep w W → NwB (jmL zs cs st) (shB (adL zs cs st)) w (.returned (.tuple #[.slice x n cc, .bool true])) W := fun n x cc W h1 h2 k => by
    rw [h1, jmL, if_pos h1]; exact nwb_own h2 rfl (Nat.le_refl _) k
  have hpost2 : ∀ (W : World), shB (adL zs cs st) = false → Keep w W → NwB (jmL zs cs st) (shB (adL zs cs st)) w (.returned (.tuple #[.slice none 0 0, .bool false])) W := fun W h1 k => by
    exact nwb_no (by rw [jmL, if_neg (by rw [h1]; simp)]) h1 _ _ k
  have HPost := Lib.hid hpost
  have HPost2 := Lib.hid hpost2
  clear hpost hpost2 hbd hL hS hB hst hc l1 l8 hlc hcl hm
  go_enter Try.func31, Try.ntmps31
  go_wp2_with fail
  go_loopw [6, 11] (fun u i wr => ∃ (k : Nat) (v : Value), k ≤ m ∧ i = .int .i64 k ∧ v = u ∧ Hid (OwI wr w.heap.size v ((adL zs cs st).take (pQ zs cs k))) ∧ Keep w wr) (fun _ i _ => m - (intOf i).toNat)
  case atStart => exact ⟨0, _, by omega, rfl, rfl, Lib.hid (by rw [HZ.out]; exact OwI.nil w _), Keep.refl w⟩
  case round =>
    obtain ⟨k, v, hk, rfl, hvu, HR, hKr⟩ := hrel
    subst hvu
    have hsz := hKr.size
    have k0 : (0 : Int) ≤ (k : Int) := by omega
    by_cases hlt : k < m
    · have c0 := HCc.out wr hKr k hlt
      obtain ⟨bs, os, rfl, hbs, cz⟩ := HSt.out k hlt wr hKr
      have kz : (k : Int) < (m : Int) := by omega
      have HM := Lib.hid (HMv.out k hlt)
      obtain ⟨hsl, hse⟩ := HSg.out k hlt
      have hl8 : ((adL zs cs st).take (pQ zs cs k)).length ≤ 8 := by have := HLen.out; rw [List.length_take]; omega
      have hml : ((seg zs (pS cs k) (pE zs cs k)).map (· + st.getD k 0)).length = pE zs cs k - pS cs k := by rw [List.length_map, hsl]
      have hN8 : pE zs cs k - pS cs k ≤ 8 := by omega
      have HN := Lib.hid (HTk.out k hlt)
      have hbase : w.heap.size ≤ wr.heap.size := hsz
      have HK := Lib.hid hKr
      generalize st.getD k 0 = x at *
      generalize (seg zs (pS cs k) (pE zs cs k)).map (· + x) = M at *
      rcases HCl.out k hlt with hl | hl
      · rw [HIn.out k hl] at c0
        have hmm := mMovE
        have hna := nAE
        go_wp2_with fail
        refine wp_region_any hmix ?_
        (try (change wpAny _ _ _ _ _ _ _ (World.drew _)))
        refine wpAny_take (i := 0) (v := ?v1) rfl (by kernel_rfl) (by kernel_rfl) (by kernel_rfl) (fun _ _ _ h => h) (Or.inl ⟨by rfl, ?hy1⟩) ?rest1
        case hy1 => (intro w; go_simp; try with_reducible rfl)
        refine wpAny_take (i := 1) (v := ?v2) rfl (by kernel_rfl) (by kernel_rfl) (by kernel_rfl) (fun _ _ _ h => h) (Or.inl ⟨by rfl, ?hy2⟩) ?rest2
        case hy2 => (intro w; go_simp; try with_reducible rfl)
        refine wpAny_take (i := 2) (v := ?v3) rfl (by kernel_rfl) (by kernel_rfl) (by kernel_rfl) (fun _ _ _ h => h) (Or.inl ⟨by rfl, ?hy3⟩) ?rest3
        case hy3 => (intro w; go_simp; try with_reducible rfl)
        refine wpAny_take (i := 3) (v := ?v4) rfl (by kernel_rfl) (by kernel_rfl) (by kernel_rfl) (fun _ _ _ h => h) (Or.inl ⟨by rfl, ?hy4⟩) ?rest4
        case hy4 => (intro w; go_simp; try with_reducible rfl)
        refine wpAny_take (i := 4) (v := ?v5) rfl (by kernel_rfl) (by kernel_rfl) (by kernel_rfl) (fun _ _ _ h => h) (Or.inl ⟨by rfl, ?hy5⟩) ?rest5
        case hy5 => (intro w; go_simp; try with_reducible rfl)
        refine wpAny_take (i := 6) (v := ?v6) rfl (by kernel_rfl) (by kernel_rfl) (by kernel_rfl) (fun _ _ _ h => h) (Or.inl ⟨by rfl, ?hy6⟩) ?rest6
        case hy6 => (intro w; go_simp; try with_reducible rfl)
        refine wpAny_take (i := 7) (v := ?v7) rfl (by kernel_rfl) (by kernel_rfl) (by kernel_rfl) (fun _ _ _ h => h) (Or.inl ⟨by rfl, ?hy7⟩) ?rest7
        case hy7 => (intro w; go_simp; try with_reducible rfl)
        refine wpAny_take (i := 8) (v := ?v8) rfl (by kernel_rfl) (by kernel_rfl) (by kernel_rfl) (fun _ _ _ h => h) (Or.inl ⟨by rfl, ?hy8⟩) ?rest8
        case hy8 => (intro w; go_simp; try with_reducible rfl)
        refine wpAny_ready (rs := [5]) (by kernel_rfl) (by simp) ?_
        refine AllReady.cons rfl (fun K hK => ?_) ?_
        ·
          go_simp
          refine hK _ _ ?_
          clear hK K
          refine wpAny_ready (rs := [9]) (by kernel_rfl) (by simp) ?_
          refine AllReady.cons rfl (fun K hK => ?_) ?_
          ·
            go_simp
            refine (HM.out _ (hKr.drew)).mono ?_
            rintro e w3 ⟨g', rfl, hg', hl', hW', k3⟩
            have kk : Keep wr w3 := ((Keep.refl wr).drew).trans k3
            go_simp
            refine hK _ _ ?_
            clear hK K
            refine wpAny_ready (rs := [10]) (by kernel_rfl) (by simp) ?_
            refine AllReady.cons rfl (fun K hK => ?_) ?_
            ·
              have hsz3 := kk.size
              have hown3 : w3.ownsRow w.heap.size 3 1 v ((adL zs cs st).take (pQ zs cs k)).length (((adL zs cs st).take (pQ zs cs k)).map (Value.int .i64)) := HR.out.keep kk
              refine step_app_ownA rfl _ _ 23 rfl w.heap.size 3 i0 _ 1 8 Try.underlying23 hi0 hz0 hz1 hz2 rfl (by decide) v _ _ rfl hown3 ⟨g', 0, none⟩ (pE zs cs k - pS cs k) (pE zs cs k - pS cs k) (M.map (Value.int .i64)) rfl (by rw [List.length_map, hml, Nat.mul_one]) (wr_news hW') ints_one (by unfold maxLen; omega) (by omega) (by omega) ?_
              intro v' w9 hown' hgrow
              refine hK _ _ ?_
              clear hK K
              refine wpAny_take (i := 11) (v := ?v9) rfl (by kernel_rfl) (by kernel_rfl) (by kernel_rfl) (fun _ _ _ h => h) (Or.inl ⟨by rfl, ?hy9⟩) ?rest9
              case hy9 => (intro w; go_simp; try with_reducible rfl)
              refine wpAny_done (by kernel_rfl) ?_ _
              have HK2 : Hid (Keep w w9) := Lib.hid (Below.grown (hKr.trans kk) hgrow (hKr.trans kk).size (fun q hq => (hown3.lt q hq).1))
              have HN2 : Hid (OwI w9 w.heap.size v' ((adL zs cs st).take (pQ zs cs (k + 1)))) := Lib.hid (by rw [HN.out]; unfold OwI; rw [List.length_append, List.map_append, hml]; exact hown')
              clear hown' hgrow hown3 hW'
              go_wp2
              go_roundw
              case rel => exact ⟨k + 1, v', by omega, by go_num, rfl, HN2, HK2.out⟩
              case measure => simp [intOf]; omega
            exact AllReady.nil
          exact AllReady.nil
        exact AllReady.nil
      · rw [HLa.out k hl] at c0
        have hmm := mMovL
        have hna := nAL
        go_wp2_with fail
        refine wp_region_any hmix ?_
        (try (change wpAny _ _ _ _ _ _ _ (World.drew _)))
        refine wpAny_take (i := 0) (v := ?v10) rfl (by kernel_rfl) (by kernel_rfl) (by kernel_rfl) (fun _ _ _ h => h) (Or.inl ⟨by rfl, ?hy10⟩) ?rest10
        case hy10 => (intro w; go_simp; try with_reducible rfl)
        refine wpAny_take (i := 1) (v := ?v11) rfl (by kernel_rfl) (by kernel_rfl) (by kernel_rfl) (fun _ _ _ h => h) (Or.inl ⟨by rfl, ?hy11⟩) ?rest11
        case hy11 => (intro w; go_simp; try with_reducible rfl)
        refine wpAny_take (i := 2) (v := ?v12) rfl (by kernel_rfl) (by kernel_rfl) (by kernel_rfl) (fun _ _ _ h => h) (Or.inl ⟨by rfl, ?hy12⟩) ?rest12
        case hy12 => (intro w; go_simp; try with_reducible rfl)
        refine wpAny_take (i := 3) (v := ?v13) rfl (by kernel_rfl) (by kernel_rfl) (by kernel_rfl) (fun _ _ _ h => h) (Or.inl ⟨by rfl, ?hy13⟩) ?rest13
        case hy13 => (intro w; go_simp; try with_reducible rfl)
        refine wpAny_take (i := 4) (v := ?v14) rfl (by kernel_rfl) (by kernel_rfl) (by kernel_rfl) (fun _ _ _ h => h) (Or.inl ⟨by rfl, ?hy14⟩) ?rest14
        case hy14 => (intro w; go_simp; try with_reducible rfl)
        refine wpAny_take (i := 6) (v := ?v15) rfl (by kernel_rfl) (by kernel_rfl) (by kernel_rfl) (fun _ _ _ h => h) (Or.inl ⟨by rfl, ?hy15⟩) ?rest15
        case hy15 => (intro w; go_simp; try with_reducible rfl)
        refine wpAny_take (i := 7) (v := ?v16) rfl (by kernel_rfl) (by kernel_rfl) (by kernel_rfl) (fun _ _ _ h => h) (Or.inl ⟨by rfl, ?hy16⟩) ?rest16
        case hy16 => (intro w; go_simp; try with_reducible rfl)
        refine wpAny_take (i := 8) (v := ?v17) rfl (by kernel_rfl) (by kernel_rfl) (by kernel_rfl) (fun _ _ _ h => h) (Or.inl ⟨by rfl, ?hy17⟩) ?rest17
        case hy17 => (intro w; go_simp; try with_reducible rfl)
        refine wpAny_ready (rs := [5]) (by kernel_rfl) (by simp) ?_
        refine AllReady.cons rfl (fun K hK => ?_) ?_
        ·
          go_simp
          refine hK _ _ ?_
          clear hK K
          refine wpAny_ready (rs := [9]) (by kernel_rfl) (by simp) ?_
          refine AllReady.cons rfl (fun K hK => ?_) ?_
          ·
            go_simp
            refine (HM.out _ (hKr.drew)).mono ?_
            rintro e w3 ⟨g', rfl, hg', hl', hW', k3⟩
            have kk : Keep wr w3 := ((Keep.refl wr).drew).trans k3
            go_simp
            refine hK _ _ ?_
            clear hK K
            refine wpAny_ready (rs := [10]) (by kernel_rfl) (by simp) ?_
            refine AllReady.cons rfl (fun K hK => ?_) ?_
            ·
              have hsz3 := kk.size
              have hown3 : w3.ownsRow w.heap.size 3 1 v ((adL zs cs st).take (pQ zs cs k)).length (((adL zs cs st).take (pQ zs cs k)).map (Value.int .i64)) := HR.out.keep kk
              refine step_app_ownA rfl _ _ 23 rfl w.heap.size 3 i0 _ 1 8 Try.underlying23 hi0 hz0 hz1 hz2 rfl (by decide) v _ _ rfl hown3 ⟨g', 0, none⟩ (pE zs cs k - pS cs k) (pE zs cs k - pS cs k) (M.map (Value.int .i64)) rfl (by rw [List.length_map, hml, Nat.mul_one]) (wr_news hW') ints_one (by unfold maxLen; omega) (by omega) (by omega) ?_
              intro v' w9 hown' hgrow
              refine hK _ _ ?_
              clear hK K
              refine wpAny_take (i := 11) (v := ?v18) rfl (by kernel_rfl) (by kernel_rfl) (by kernel_rfl) (fun _ _ _ h => h) (Or.inl ⟨by rfl, ?hy18⟩) ?rest18
              case hy18 => (intro w; go_simp; try with_reducible rfl)
              refine wpAny_done (by kernel_rfl) ?_ _
              have HK2 : Hid (Keep w w9) := Lib.hid (Below.grown (hKr.trans kk) hgrow (hKr.trans kk).size (fun q hq => (hown3.lt q hq).1))
              have HN2 : Hid (OwI w9 w.heap.size v' ((adL zs cs st).take (pQ zs cs (k + 1)))) := Lib.hid (by rw [HN.out]; unfold OwI; rw [List.length_append, List.map_append, hml]; exact hown')
              clear hown' hgrow hown3 hW'
              go_wp2
              go_roundw
              case rel => exact ⟨k + 1, v', by omega, by go_num, rfl, HN2, HK2.out⟩
              case measure => simp [intOf]; omega
            exact AllReady.nil
          exact AllReady.nil
        exact AllReady.nil
    · obtain rfl : k = m := by omega
      obtain ⟨a9, c9, hv, hc9, hl9⟩ := HR.out.slice
      subst hv
      have HRR := Lib.hid HR.out
      rw [HAll.out] at hl9 hc9 HRR
      rw [HAll.out]
      have HQ := Lib.hid (sv_impl a9 c9 (adL zs cs st) wr hl9 (by have := HLen.out; omega))
      rcases Bool.eq_false_or_eq_true (shB (adL zs cs st)) with hs | hs
      · have HP := Lib.hid (HPost.out (adL zs cs st).length a9 c9 wr hs HRR.out hKr)
        rw [hs] at HQ
        clear hs HPost HPost2
        generalize (adL zs cs st).length = n9 at *
        go_wp2_with fail
        refine HQ.out.mono ?_
        rintro e w8 ⟨rfl, rfl⟩
        go_wp2
        go_ret2
        exact HP.out
      · have HP := Lib.hid (HPost2.out wr hs hKr)
        rw [hs] at HQ
        clear hs HPost HPost2
        generalize (adL zs cs st).length = n9 at *
        go_wp2_with fail
        refine HQ.out.mono ?_
        rintro e w8 ⟨rfl, rfl⟩
        go_wp2
        go_ret2
        exact HP.out
end Go.Proofs.Ytehjjoalnfpgdaa
