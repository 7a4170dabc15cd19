/- AdjustSteps, AdjustOf, AdjustBack of the model. -/
import Derived.Test.YtehjjoalnfpgdaaAj
import Derived.Test.YtehjjoalnfpgdaaMd
import Derived.Test.YtehjjoalnfpgdaaKp
import Derived.Test.YtehjjoalnfpgdaaOi
import Derived.Test.YtehjjoalnfpgdaaApp
import Derived.LoopTactic
import Derived.IntWalk
namespace Go.Proofs.Ytehjjoalnfpgdaa
open Go.RowKit
set_option linter.unusedVariables false

theorem infoIntAr : (Try.prog.info? 3).map (fun i => (i.zero, i.size, i.bytes)) = some (some (.int .i64 0), 1, 8) := by kernel_rfl
set_option maxHeartbeats 1000000 in
theorem lpt_any (a : Option Addr) (cap : Nat) (cs : List Int) (i : Int) (w : World) (h : Ls w a cs) (hm : cs.length ≤ 1048576) :
    Calls Try.prog 54 #[.slice a cs.length cap, .int .i64 i] w fun e w' => e = .returned (.int .i64 (prt cs i : Nat)) ∧ w = w' := by
  go_enter Try.func54, Try.ntmps54
  go_wp2_with fail
  go_loopw [5, 6] (fun n j wr => ∃ k c : Nat, k ≤ cs.length ∧ j = .int .i64 k ∧ n = .int .i64 c ∧ Hid (c = (cs.take k).countP (fun c => decide (c ≤ i))) ∧ c ≤ k ∧ w = wr) (fun _ j _ => cs.length - (intOf j).toNat)
  case atStart => exact ⟨0, 0, by omega, rfl, rfl, Lib.hid (by simp), by omega, rfl⟩
  case round =>
    obtain ⟨k, c, hk, rfl, rfl, HC, hck, rfl⟩ := hrel
    by_cases hlt : k < cs.length
    · obtain ⟨b, off, rfl, hb, c0⟩ := h.at_ hlt
      have kz : (k : Int) < (cs.length : Int) := by omega
      have HN : Hid ((cs.take (k + 1)).countP (fun c => decide (c ≤ i)) = c + if cs.getD k 0 ≤ i then 1 else 0) := Lib.hid (by
        rw [List.take_succ_eq_append_getElem hlt, List.countP_append, ← HC.out]
        have : cs[k] = cs.getD k 0 := by simp [List.getD_eq_getElem?_getD, hlt]
        rw [this, List.countP_cons, List.countP_nil]
        simp)
      generalize cs.getD k 0 = x at *
      by_cases hx : x ≤ i
      · rw [if_pos hx] at HN
        go_wp2
        go_roundw
        case rel => exact ⟨k + 1, c + 1, by omega, by go_num, by go_num, Lib.hid HN.out.symm, by omega, by first | rfl | trivial⟩
        case measure => simp [intOf]; omega
      · rw [if_neg hx] at HN
        go_wp2
        go_roundw
        case rel => exact ⟨k + 1, c, by omega, by go_num, by go_num, Lib.hid HN.out.symm, by omega, by first | rfl | trivial⟩
        case measure => simp [intOf]; omega
    · have HF : Hid (c = prt cs i) := Lib.hid (by rw [HC.out, prt, List.take_of_length_le (by omega)])
      go_wp2
      go_ret
      rw [HF.out]
      exact ⟨rfl, by first | rfl | trivial⟩
theorem aj_sh {zs cs : List Int} (h : shB zs = false) : ajB zs cs = false := by rw [ajB, h]; rfl
set_option maxHeartbeats 1000000 in
theorem ok_spec (a b0 : Option Addr) (ca cb : Nat) (zs cs : List Int) (w : World) (h : Ls w a zs) (h2 : Ls w b0 cs) (hm : zs.length ≤ 1048576) (hm2 : cs.length ≤ 1048576) :
    Calls Try.prog 33 #[.slice a zs.length ca, .slice b0 cs.length cb] w fun e w' => e = .returned (.bool (ajB zs cs)) ∧ Keep w w' := by
  have HQ := Lib.hid (sv_spec a ca zs w h hm)
  have HC := Lib.hid (cv_spec b0 cb cs zs.length w h2 (by omega))
  rcases Bool.eq_false_or_eq_true (shB zs) with q1 | q1
  · have HF : Hid (ctB cs zs.length = ajB zs cs) := Lib.hid (by rw [ajB, q1]; rfl)
    rw [q1] at HQ
    rw [HF.out] at HC
    generalize ajB zs cs = bb at *
    clear q1 HF
    go_enter Try.func33, Try.ntmps33
    go_wp2_with fail
    refine HQ.out.mono ?_
    rintro e w1 ⟨rfl, rfl⟩
    go_wp2_with fail
    refine HC.out.mono ?_
    rintro e w1 ⟨rfl, k1⟩
    go_wp2
    go_ret
    exact ⟨rfl, k1⟩
  · have HF := Lib.hid (aj_sh (cs := cs) q1)
    rw [q1] at HQ
    clear q1
    go_enter Try.func33, Try.ntmps33
    go_wp2_with fail
    refine HQ.out.mono ?_
    rintro e w1 ⟨rfl, rfl⟩
    go_wp2
    go_ret
    exact ⟨retB HF.out.symm, Keep.refl _⟩
/-- A row that the model makes. -/
def MdR (L : List Int) (w : World) (e : Ending) (w' : World) : Prop := ∃ (g c : Nat), e = .returned (.slice (some ⟨g, 0, none⟩) L.length c) ∧ L.length ≤ c ∧ OwI w' w.heap.size (.slice (some ⟨g, 0, none⟩) L.length c) L ∧ Keep w w'
set_option maxRecDepth 100000 in
set_option maxHeartbeats 4000000 in
theorem ad_spec (a b0 s : Option Addr) (ca cb cst : Nat) (zs cs st : List Int) (f : Int) (w : World) (h : Ls w a zs) (h2 : Ls w b0 cs) (h3 : Ls w s st) (hf : f = 1 ∨ f = -1) (hB : ajB zs cs = true) (hst : st.length = cs.length + 1) (hbd : ∀ j, j < st.length → -20000 ≤ st.getD j 0 ∧ st.getD j 0 ≤ 20000) :
    Calls Try.prog 34 #[.slice a zs.length ca, .slice b0 cs.length cb, .slice s st.length cst, .int .i64 f] w (MdR (adL zs cs (st.map (fun x => f * x))) w) := by
  obtain ⟨l1, l8, hlc⟩ := ajB_len hB
  obtain ⟨i0, hi0, hz0, hz1, hz2⟩ := info_parts infoIntAr
  have HLn : Hid ((adL zs cs (st.map (fun x => f * x))).length = zs.length) := Lib.hid (adL_len _ _ _)
  have HN : Hid (∀ i, i < zs.length → (adL zs cs (st.map (fun x => f * x))).take (i + 1) = (adL zs cs (st.map (fun x => f * x))).take i ++ [zs.getD i 0 + f * st.getD (prt cs (i : Int)) 0]) := Lib.hid (fun i hi => by
    rw [adL_snoc hi]
    have hp : prt cs (i : Int) < st.length := by have := prt_le hB (i : Int); omega
    rw [map_getD (fun x => f * x) hp])
  have HZ := Lib.hid (fun i (hi : i < zs.length) => sh_at (ajB_facts hB).1 hi)
  have HP := Lib.hid (fun i W (k : Keep w W) => lpt_any b0 cb cs i W (h2.keep k) (by omega))
  have HPl : Hid (∀ i : Nat, prt cs (i : Int) < st.length) := Lib.hid (fun i => by have := prt_le hB (i : Int); omega)
  have HSt := Lib.hid (fun j (hj : j < st.length) W (k : Keep w W) => (h3.keep k).at_ (i := j) hj)
  have HBd := Lib.hid hbd
  have hst8 : st.length ≤ 8 := by omega
  have hmix : Try.prog.follows .mixedOrders = true := by kernel_rfl
  generalize adL zs cs (st.map (fun x => f * x)) = L at *
  clear hB hbd hst hlc h2 h3
  go_enter Try.func34, Try.ntmps34
  go_wp2_with fail
  go_loopw [9, 10] (fun u i wr => ∃ (k : Nat) (v : Value), k ≤ zs.length ∧ i = .int .i64 k ∧ v = u ∧ Hid (OwI wr w.heap.size v (L.take k)) ∧ Keep w wr) (fun _ i _ => zs.length - (intOf i).toNat)
  case atStart => exact ⟨0, _, by omega, rfl, rfl, Lib.hid (by simpa using OwI.made w), (Keep.refl w).alloc _⟩
  case round =>
    obtain ⟨k, v, hk, rfl, hvu, HR, hKr⟩ := hrel
    subst hvu
    have hsz := hKr.size
    by_cases hlt : k < zs.length
    · obtain ⟨bz, oz, rfl, hbz, cz⟩ := (h.keep hKr).at_ hlt
      have hpl := HPl.out k
      obtain ⟨bs, os, rfl, hbs, cs0⟩ := HSt.out _ hpl wr hKr
      have HX := Lib.hid (HN.out k hlt)
      have HPc := Lib.hid (HP.out (k : Int))
      obtain ⟨z0, z1⟩ := HZ.out k hlt
      obtain ⟨s0, s1⟩ := HBd.out _ hpl
      have kz : (k : Int) < (zs.length : Int) := by omega
      have pz : ((prt cs (k : Int) : Nat) : Int) < (st.length : Int) := by omega
      have p0 : (0 : Int) ≤ ((prt cs (k : Int) : Nat) : Int) := by omega
      have hlk : (L.take k).length = k := by rw [List.length_take, HLn.out]; omega
      have HLK := Lib.hid hlk
      clear hlk
      generalize prt cs (k : Int) = p at *
      generalize zs.getD k 0 = x at *
      generalize st.getD p 0 = y at *
      obtain ⟨t, ht⟩ : ∃ t, f * y = t := ⟨_, rfl⟩
      have tb : -20000 ≤ t ∧ t ≤ 20000 := by rcases hf with rfl | rfl <;> omega
      rw [ht] at HX
      have wt : IntKind.i64.wrap t = t := IntWalk.i64_in _ ⟨by omega, by omega⟩
      have wx : IntKind.i64.wrap (x + t) = x + t := IntWalk.i64_in _ ⟨by omega, by omega⟩
      have hownD : (wr.drew.alloc (.cells #[.int .i64 (x + t)] 3)).ownsRow w.heap.size 3 1 v (L.take k).length ((L.take k).map (Value.int .i64)) := HR.out.keep (((Keep.refl wr).drew).alloc _)
      rw [HLK.out] at hownD
      go_wp2_with fail
      refine wp_region_any hmix ?_
      (try (change wpAny _ _ _ _ _ _ _ (World.drew _)))
      refine wpAny_take (i := 0) (v := ?v1) rfl (by kernel_rfl) (by kernel_rfl) (by kernel_rfl) (fun _ _ _ h => h) (Or.inl ⟨by rfl, ?hy1⟩) ?rest1
      case hy1 => (intro w; go_simp; try with_reducible rfl)
      refine wpAny_take (i := 1) (v := ?v2) rfl (by kernel_rfl) (by kernel_rfl) (by kernel_rfl) (fun _ _ _ h => h) (Or.inl ⟨by rfl, ?hy2⟩) ?rest2
      case hy2 => (intro w; go_simp; try with_reducible rfl)
      refine wpAny_take (i := 2) (v := ?v3) rfl (by kernel_rfl) (by kernel_rfl) (by kernel_rfl) (fun _ _ _ h => h) (Or.inl ⟨by rfl, ?hy3⟩) ?rest3
      case hy3 => (intro w; go_simp; try with_reducible rfl)
      refine wpAny_take (i := 3) (v := ?v4) rfl (by kernel_rfl) (by kernel_rfl) (by kernel_rfl) (fun _ _ _ h => h) (Or.inl ⟨by rfl, ?hy4⟩) ?rest4
      case hy4 => (intro w; go_simp; try with_reducible rfl)
      refine wpAny_take (i := 5) (v := ?v5) rfl (by kernel_rfl) (by kernel_rfl) (by kernel_rfl) (fun _ _ _ h => h) (Or.inl ⟨by rfl, ?hy5⟩) ?rest5
      case hy5 => (intro w; go_simp; try with_reducible rfl)
      refine wpAny_take (i := 6) (v := ?v6) rfl (by kernel_rfl) (by kernel_rfl) (by kernel_rfl) (fun _ _ _ h => h) (Or.inl ⟨by rfl, ?hy6⟩) ?rest6
      case hy6 => (intro w; go_simp; try with_reducible rfl)
      refine wpAny_take (i := 7) (v := ?v7) rfl (by kernel_rfl) (by kernel_rfl) (by kernel_rfl) (fun _ _ _ h => h) (Or.inl ⟨by rfl, ?hy7⟩) ?rest7
      case hy7 => (intro w; go_simp; try with_reducible rfl)
      refine wpAny_take (i := 8) (v := ?v8) rfl (by kernel_rfl) (by kernel_rfl) (by kernel_rfl) (fun _ _ _ h => h) (Or.inl ⟨by rfl, ?hy8⟩) ?rest8
      case hy8 => (intro w; go_simp; try with_reducible rfl)
      refine wpAny_ready (rs := [4, 9]) (by kernel_rfl) (by simp) ?_
      refine AllReady.cons rfl (fun K hK => ?_) ?_
      ·
        go_simp
        refine hK _ _ ?_
        clear hK K
        refine wpAny_ready (rs := [9]) (by kernel_rfl) (by simp) ?_
        refine AllReady.cons rfl (fun K hK => ?_) ?_
        ·
          go_simp
          refine (HPc.out _ hKr.drew).mono ?_
          rintro e w3 ⟨rfl, rfl⟩
          go_simp
          refine hK _ _ ?_
          clear hK K
          refine wpAny_take (i := 10) (v := ?v9) rfl (by kernel_rfl) (by kernel_rfl) (by kernel_rfl) (fun _ _ _ h => h) (Or.inl ⟨by rfl, ?hy9⟩) ?rest9
          case hy9 => (intro w; go_simp; try with_reducible rfl)
          refine wpAny_ready (rs := [11]) (by kernel_rfl) (by simp) ?_
          refine AllReady.cons rfl (fun K hK => ?_) ?_
          ·
            go_simp
            refine hK _ _ ?_
            clear hK K
            refine wpAny_take (i := 12) (v := ?v10) rfl (by kernel_rfl) (by kernel_rfl) (by kernel_rfl) (fun _ _ _ h => h) (Or.inl ⟨by rfl, ?hy10⟩) ?rest10
            case hy10 => (intro w; go_simp; try with_reducible rfl)
            refine wpAny_take (i := 13) (v := ?v11) rfl (by kernel_rfl) (by kernel_rfl) (by kernel_rfl) (fun _ _ _ h => h) (Or.inl ⟨by rfl, ?hy11⟩) ?rest11
            case hy11 => (intro w; go_simp; try with_reducible rfl)
            refine wpAny_ready (rs := [14]) (by kernel_rfl) (by simp) ?_
            refine AllReady.cons rfl (fun K hK => ?_) ?_
            ·
              go_simp
              refine hK _ _ ?_
              clear hK K
              refine wpAny_ready (rs := [15]) (by kernel_rfl) (by simp) ?_
              refine AllReady.cons rfl (fun K hK => ?_) ?_
              ·
                refine step_app_ownA rfl _ _ 23 rfl w.heap.size 3 i0 _ 1 8 Try.underlying23 hi0 hz0 hz1 hz2 rfl (by decide) v k _ rfl hownD ⟨wr.heap.size, 0, none⟩ 1 1 [.int .i64 (x + t)] rfl rfl (newsWA wr.drew (x + t)) one1A (by unfold maxLen; omega) (by omega) (by simp; omega) ?_
                intro v' w9 hown' hgrow
                refine hK _ _ ?_
                clear hK K
                refine wpAny_take (i := 16) (v := ?v12) rfl (by kernel_rfl) (by kernel_rfl) (by kernel_rfl) (fun _ _ _ h => h) (Or.inl ⟨by rfl, ?hy12⟩) ?rest12
                case hy12 => (intro w; go_simp; try with_reducible rfl)
                refine wpAny_done (by kernel_rfl) ?_ _
                have kA : Keep w (wr.drew.alloc (.cells #[.int .i64 (x + t)] 3)) := (hKr.drew).alloc _
                have HK2 : Hid (Keep w w9) := Lib.hid (Below.grown kA hgrow kA.size (fun q hq => (hownD.lt q hq).1))
                have HN2 : Hid (OwI w9 w.heap.size v' (L.take (k + 1))) := Lib.hid (by rw [HX.out]; unfold OwI; rw [List.length_append, List.map_append, HLK.out]; exact hown')
                clear hown' hgrow hownD kA
                go_wp2
                go_roundw
                case rel => exact ⟨k + 1, v', by omega, by go_num, rfl, HN2, HK2.out⟩
                case measure => simp [intOf]; omega
              exact AllReady.nil
            exact AllReady.nil
          exact AllReady.nil
        exact AllReady.nil
      refine AllReady.cons rfl (fun K hK => ?_) ?_
      ·
        go_simp
        refine (HPc.out _ hKr.drew).mono ?_
        rintro e w3 ⟨rfl, rfl⟩
        go_simp
        refine hK _ _ ?_
        clear hK K
        refine wpAny_take (i := 10) (v := ?v13) rfl (by kernel_rfl) (by kernel_rfl) (by kernel_rfl) (fun _ _ _ h => h) (Or.inl ⟨by rfl, ?hy13⟩) ?rest13
        case hy13 => (intro w; go_simp; try with_reducible rfl)
        refine wpAny_ready (rs := [4, 11]) (by kernel_rfl) (by simp) ?_
        refine AllReady.cons rfl (fun K hK => ?_) ?_
        ·
          go_simp
          refine hK _ _ ?_
          clear hK K
          refine wpAny_ready (rs := [11]) (by kernel_rfl) (by simp) ?_
          refine AllReady.cons rfl (fun K hK => ?_) ?_
          ·
            go_simp
            refine hK _ _ ?_
            clear hK K
            refine wpAny_take (i := 12) (v := ?v14) rfl (by kernel_rfl) (by kernel_rfl) (by kernel_rfl) (fun _ _ _ h => h) (Or.inl ⟨by rfl, ?hy14⟩) ?rest14
            case hy14 => (intro w; go_simp; try with_reducible rfl)
            refine wpAny_take (i := 13) (v := ?v15) rfl (by kernel_rfl) (by kernel_rfl) (by kernel_rfl) (fun _ _ _ h => h) (Or.inl ⟨by rfl, ?hy15⟩) ?rest15
            case hy15 => (intro w; go_simp; try with_reducible rfl)
            refine wpAny_ready (rs := [14]) (by kernel_rfl) (by simp) ?_
            refine AllReady.cons rfl (fun K hK => ?_) ?_
            ·
              go_simp
              refine hK _ _ ?_
              clear hK K
              refine wpAny_ready (rs := [15]) (by kernel_rfl) (by simp) ?_
              refine AllReady.cons rfl (fun K hK => ?_) ?_
              ·
                refine step_app_ownA rfl _ _ 23 rfl w.heap.size 3 i0 _ 1 8 Try.underlying23 hi0 hz0 hz1 hz2 rfl (by decide) v k _ rfl hownD ⟨wr.heap.size, 0, none⟩ 1 1 [.int .i64 (x + t)] rfl rfl (newsWA wr.drew (x + t)) one1A (by unfold maxLen; omega) (by omega) (by simp; omega) ?_
                intro v' w9 hown' hgrow
                refine hK _ _ ?_
                clear hK K
                refine wpAny_take (i := 16) (v := ?v16) rfl (by kernel_rfl) (by kernel_rfl) (by kernel_rfl) (fun _ _ _ h => h) (Or.inl ⟨by rfl, ?hy16⟩) ?rest16
                case hy16 => (intro w; go_simp; try with_reducible rfl)
                refine wpAny_done (by kernel_rfl) ?_ _
                have kA : Keep w (wr.drew.alloc (.cells #[.int .i64 (x + t)] 3)) := (hKr.drew).alloc _
                have HK2 : Hid (Keep w w9) := Lib.hid (Below.grown kA hgrow kA.size (fun q hq => (hownD.lt q hq).1))
                have HN2 : Hid (OwI w9 w.heap.size v' (L.take (k + 1))) := Lib.hid (by rw [HX.out]; unfold OwI; rw [List.length_append, List.map_append, HLK.out]; exact hown')
                clear hown' hgrow hownD kA
                go_wp2
                go_roundw
                case rel => exact ⟨k + 1, v', by omega, by go_num, rfl, HN2, HK2.out⟩
                case measure => simp [intOf]; omega
              exact AllReady.nil
            exact AllReady.nil
          exact AllReady.nil
        refine AllReady.cons rfl (fun K hK => ?_) ?_
        ·
          go_simp
          refine hK _ _ ?_
          clear hK K
          refine wpAny_take (i := 12) (v := ?v17) rfl (by kernel_rfl) (by kernel_rfl) (by kernel_rfl) (fun _ _ _ h => h) (Or.inl ⟨by rfl, ?hy17⟩) ?rest17
          case hy17 => (intro w; go_simp; try with_reducible rfl)
          refine wpAny_ready (rs := [4]) (by kernel_rfl) (by simp) ?_
          refine AllReady.cons rfl (fun K hK => ?_) ?_
          ·
            go_simp
            refine hK _ _ ?_
            clear hK K
            refine wpAny_take (i := 13) (v := ?v18) rfl (by kernel_rfl) (by kernel_rfl) (by kernel_rfl) (fun _ _ _ h => h) (Or.inl ⟨by rfl, ?hy18⟩) ?rest18
            case hy18 => (intro w; go_simp; try with_reducible rfl)
            refine wpAny_ready (rs := [14]) (by kernel_rfl) (by simp) ?_
            refine AllReady.cons rfl (fun K hK => ?_) ?_
            ·
              go_simp
              refine hK _ _ ?_
              clear hK K
              refine wpAny_ready (rs := [15]) (by kernel_rfl) (by simp) ?_
              refine AllReady.cons rfl (fun K hK => ?_) ?_
              ·
                refine step_app_ownA rfl _ _ 23 rfl w.heap.size 3 i0 _ 1 8 Try.underlying23 hi0 hz0 hz1 hz2 rfl (by decide) v k _ rfl hownD ⟨wr.heap.size, 0, none⟩ 1 1 [.int .i64 (x + t)] rfl rfl (newsWA wr.drew (x + t)) one1A (by unfold maxLen; omega) (by omega) (by simp; omega) ?_
                intro v' w9 hown' hgrow
                refine hK _ _ ?_
                clear hK K
                refine wpAny_take (i := 16) (v := ?v19) rfl (by kernel_rfl) (by kernel_rfl) (by kernel_rfl) (fun _ _ _ h => h) (Or.inl ⟨by rfl, ?hy19⟩) ?rest19
                case hy19 => (intro w; go_simp; try with_reducible rfl)
                refine wpAny_done (by kernel_rfl) ?_ _
                have kA : Keep w (wr.drew.alloc (.cells #[.int .i64 (x + t)] 3)) := (hKr.drew).alloc _
                have HK2 : Hid (Keep w w9) := Lib.hid (Below.grown kA hgrow kA.size (fun q hq => (hownD.lt q hq).1))
                have HN2 : Hid (OwI w9 w.heap.size v' (L.take (k + 1))) := Lib.hid (by rw [HX.out]; unfold OwI; rw [List.length_append, List.map_append, HLK.out]; exact hown')
                clear hown' hgrow hownD kA
                go_wp2
                go_roundw
                case rel => exact ⟨k + 1, v', by omega, by go_num, rfl, HN2, HK2.out⟩
                case measure => simp [intOf]; omega
              exact AllReady.nil
            exact AllReady.nil
          exact AllReady.nil
        exact AllReady.nil
      exact AllReady.nil
    · obtain rfl : k = zs.length := by omega
      have HF := HR.out
      rw [List.take_of_length_le (by rw [HLn.out]; exact Nat.le_refl _)] at HF
      obtain ⟨g, c, hv, hg, hl⟩ := World.ownsRow.form HF (by rw [HLn.out]; omega)
      subst hv
      have HF2 := Lib.hid HF
      have hcc := (OwI.fresh (w0 := w) HF (Nat.le_refl _)).2.1
      clear HF HR
      generalize hn9 : L.length = n9 at *
      go_wp2
      go_ret
      exact ⟨g, c, by rw [hn9]; rfl, by rw [hn9]; exact hcc, by rw [hn9]; exact HF2.out, hKr⟩

/-- The medians of the first parts. -/
def mdR (zs cs : List Int) (k : Nat) : List Int := (List.range k).map (mdP zs cs)
theorem mdR_len (zs cs : List Int) (k : Nat) : (mdR zs cs k).length = k := by simp [mdR]
theorem mdR_succ (zs cs : List Int) (k : Nat) : mdR zs cs (k + 1) = mdR zs cs k ++ [mdP zs cs k] := by simp [mdR, List.range_succ]
theorem mdR_at {zs cs : List Int} {k j : Nat} (h : j < k) : (mdR zs cs k).getD j 0 = mdP zs cs j := by simp [mdR, List.getD_eq_getElem?_getD, h]
theorem asl_snoc {zs cs : List Int} {j : Nat} (h : j ≤ cs.length) : (asl zs cs).take (j + 1) = (asl zs cs).take j ++ [mdP zs cs cs.length - mdP zs cs j] := by
  rw [List.take_succ_eq_append_getElem (by rw [asl_len]; omega), ← asl_at h]
  simp [List.getD_eq_getElem?_getD, asl_len, show j < cs.length + 1 by omega]
theorem MdR.nwb {L : List Int} {b : Bool} {w w0 w' : World} {e : Ending} (h : MdR L w0 e w') (hb : b = true) (k : Keep w w0) : ∃ (g c : Nat), e = .returned (.slice (some ⟨g, 0, none⟩) L.length c) ∧ L.length ≤ c ∧ Ls w' (some ⟨g, 0, none⟩) L ∧ NwB L b w (.returned (.tuple #[.slice (some ⟨g, 0, none⟩) L.length c, .bool true])) w' ∧ Keep w0 w' := by
  obtain ⟨g, c, he, hc, hO, k2⟩ := h
  obtain ⟨a', c', hv, _, hl⟩ := hO.slice
  injection hv with e1 _ _
  subst e1
  exact ⟨g, c, he, hc, hl, nwb_own hO hb k.size (k.trans k2), k2⟩
theorem map_one (st : List Int) : st.map (fun x => 1 * x) = st := by simp
theorem map_neg (st : List Int) : st.map (fun x => -1 * x) = ngL st := by
  unfold ngL
  congr 1
  funext x
  omega
set_option maxRecDepth 100000 in
set_option maxHeartbeats 4000000 in
theorem ls_spec (a b0 : Option Addr) (ca cb : Nat) (zs cs : List Int) (w : World) (h : Ls w a zs) (h2 : Ls w b0 cs) (hca : zs.length ≤ ca) (hB : ajB zs cs = true) :
    Calls Try.prog 35 #[.slice a zs.length ca, .slice b0 cs.length cb] w (MdR (asl zs cs) w) := by
  obtain ⟨l1, l8, hlc⟩ := ajB_len hB
  obtain ⟨b, off, rfl, hb, _⟩ := h.at_ (show 0 < zs.length by omega)
  obtain ⟨i0, hi0, hz0, hz1, hz2⟩ := info_parts infoIntAr
  have HMd : Hid (∀ k, k ≤ cs.length → ∀ c W, Keep w W → Calls Try.prog 55 #[.slice (some ⟨b, off + pS cs k, none⟩) (pE zs cs k - pS cs k) c] W fun e w' => e = .returned (.int .i64 (mdP zs cs k)) ∧ Keep W w') := Lib.hid (fun k hk c W kw => by
    obtain ⟨e1, e2⟩ := seg_p hB hk
    have hp := (p_bd hB hk).2.1
    have := md_spec (some ⟨b, off + pS cs k, none⟩) c (seg zs (pS cs k) (pE zs cs k)) W (ls_seg (h.keep kw) _ _) (by rw [e2]; omega) (by rw [e2]; have := (p_bd hB hk).2.2.1; omega)
    rwa [e2] at this)
  have HP : Hid (∀ k, k ≤ cs.length → pS cs k < pE zs cs k ∧ pE zs cs k ≤ zs.length ∧ (k < cs.length → cs.getD k 0 = (pE zs cs k : Int) ∧ pS cs (k + 1) = pE zs cs k)) := Lib.hid (fun k hk => by
    obtain ⟨_, e2, e3, e4⟩ := p_bd hB hk
    exact ⟨e2, e3, fun h9 => ⟨(e4 h9).1, pS_succ h9⟩⟩)
  have HLa : Hid (pE zs cs cs.length = zs.length) := Lib.hid (pE_last zs cs)
  have HBd : Hid (∀ k, k ≤ cs.length → -999 ≤ mdP zs cs k ∧ mdP zs cs k ≤ 10999) := Lib.hid (fun k hk => mdP_bd hB hk)
  have HCut := Lib.hid (fun k (hk : k < cs.length) W (kw : Keep w W) => (h2.keep kw).at_ (i := k) hk)
  have HSn := Lib.hid (fun k => mdR_succ zs cs k)
  have HRl := Lib.hid (fun k => mdR_len zs cs k)
  have HRa := Lib.hid (fun k j (hj : j < k) => mdR_at (zs := zs) (cs := cs) hj)
  have HAs := Lib.hid (fun j (hj : j ≤ cs.length) => asl_snoc (zs := zs) (cs := cs) hj)
  have HAl : Hid ((asl zs cs).length = cs.length + 1 ∧ (asl zs cs).take (cs.length + 1) = asl zs cs) := Lib.hid ⟨asl_len zs cs, by rw [← asl_len zs cs, List.take_length]⟩
  have hn8 : cs.length < 8 := by omega
  clear hB h h2 hlc l1
  generalize mdP zs cs = D at *
  generalize asl zs cs = L at *
  generalize mdR zs cs = R at *
  go_enter Try.func35, Try.ntmps35
  go_wp2_with fail
  go_loopw [5, 6, 7] (fun u f i wr => ∃ (k : Nat) (v : Value), k ≤ cs.length ∧ i = .int .i64 k ∧ v = u ∧ f = .int .i64 ((pS cs k : Nat) : Int) ∧ Hid (OwI wr w.heap.size v (R k)) ∧ Keep w wr) (fun _ _ i _ => cs.length - (intOf i).toNat)
  case atStart => exact ⟨0, _, by omega, rfl, rfl, rfl, Lib.hid (by have h9 := HRl.out 0; rw [List.eq_nil_of_length_eq_zero h9]; exact OwI.made w), (Keep.refl w).alloc _⟩
  case round =>
    obtain ⟨k, v, hk, rfl, hvu, rfl, HR, hKr⟩ := hrel
    subst hvu
    have hsz := hKr.size
    by_cases hlt : k < cs.length
    · obtain ⟨bz, oz, rfl, hbz, cz⟩ := HCut.out k hlt wr hKr
      obtain ⟨p1, p2, p3⟩ := HP.out k hk
      obtain ⟨p4, p5⟩ := p3 hlt
      have HM := Lib.hid (HMd.out k hk)
      rw [p4] at cz
      have H5 := Lib.hid p5
      have H4 := Lib.hid p4
      have HS := Lib.hid (HSn.out k)
      have HLK := Lib.hid (HRl.out k)
      clear p3 p4 p5
      generalize hp : pS cs k = p at *
      generalize hq : pE zs cs k = q at *
      clear hp hq
      have k0 : (0 : Int) ≤ (k : Int) := by omega
      have kz : (k : Int) < (cs.length : Int) := by omega
      have q1 : (0 : Int) ≤ (p : Int) := by omega
      have q2 : (p : Int) ≤ (q : Int) := by omega
      have q3 : (q : Int) ≤ (ca : Int) := by omega
      generalize D k = x at *
      go_wp2_with fail
      refine (HM.out _ _ hKr).mono ?_
      rintro e w3 ⟨rfl, k3⟩
      have cz3 := k3.cell cz
      have hK3 := hKr.trans k3
      have hsz3 := hK3.size
      have HR3 := Lib.hid (HR.out.keep k3)
      have hown : w3.ownsRow w.heap.size 3 1 _ _ _ := (by have h9 := HR3.out; unfold OwI at h9; rw [HLK.out] at h9; exact h9)
      go_wp2_with (at_builtin; refine wpList_append_own _ rfl _ _ 23 rfl w.heap.size 3 i0 (.int .i64 0) 1 8 Try.underlying23 hi0 hz0 hz1 hz2 rfl (by decide) _ _ _ rfl (hown.alloc _) ⟨w3.heap.size, 0, none⟩ 1 1 [.int .i64 x] rfl rfl ?c1a ?c2a ?c3a ?c4a ?c5a ?_)
      try case c1a =>
        intro j u hj
        match j, hj with
        | 0, hj => simp at hj; subst hj; simp [Addr.add]
      case c2a => first | rfl | (intro u hu; simp at hu; subst hu; rfl)
      case c3a => unfold maxLen; omega
      case c4a => omega
      case c5a => first | omega | (simp; omega)
      intro v' w9 hown' hgrow hnil
      have HK2 : Hid (Keep w w9) := Lib.hid (Below.grown (hK3.alloc (.cells #[.int .i64 x] 3)) hgrow (hK3.alloc (.cells #[.int .i64 x] 3)).size (fun q hq => (hown.lt q hq).1))
      clear hgrow hnil hown

      have HN2 : Hid (OwI w9 w.heap.size v' (R (k + 1))) := Lib.hid (by rw [HS.out]; unfold OwI; rw [List.length_append, HLK.out, List.map_append]; exact hown')
      have cz9 : w9.cell? ⟨bz, oz + k, none⟩ = some (.int .i64 (q : Int)) := by
        obtain ⟨b9, o9, he, _, hc9⟩ := HCut.out k hlt w9 HK2.out
        injection he with he
        injection he with e1 e2 _
        subst e1; subst e2
        rw [hc9, H4.out]
      clear hown'
      go_wp2
      go_roundw
      case rel => exact ⟨k + 1, v', by omega, by go_num, rfl, by rw [H5.out], HN2, HK2.out⟩
      case measure => simp [intOf]; omega
    · obtain rfl : k = cs.length := by omega
      obtain ⟨p1, p2, _⟩ := HP.out cs.length hk
      have HM := Lib.hid (HMd.out cs.length hk)
      rw [HLa.out] at HM p1 p2
      obtain ⟨a5, c5, hv5, hc5, hl5⟩ := HR.out.slice
      have HBM := HBd.out cs.length hk
      subst hv5
      rw [HRl.out]
      have HL5 := Lib.hid hl5
      clear hl5 hc5 HR HSn HMd
      generalize hp : pS cs cs.length = p at *
      clear hp
      generalize hzl : zs.length = zn at *
      generalize hcl : cs.length = m at *
      generalize hDM : D m = M at *
      have HDM := Lib.hid hDM
      clear hDM
      have q1 : (0 : Int) ≤ (p : Int) := by omega
      have q2 : (p : Int) ≤ (zn : Int) := by omega
      have q3 : (zn : Int) ≤ (ca : Int) := by omega
      go_wp2_with fail
      refine (HM.out _ _ hKr).mono ?_
      rintro e w3 ⟨rfl, k3⟩
      have hK3 := hKr.trans k3
      have hsz3 := hK3.size
      have HL3 := Lib.hid (fun W (k : Keep w3 W) => (HL5.out.keep k3).keep k)
      clear k3 HM HL5
      go_wp2_with fail
      go_loopw [9, 10] (fun u i wr => ∃ (k : Nat) (v : Value), k ≤ m ∧ i = .int .i64 k ∧ v = u ∧ Hid (OwI wr w3.heap.size v (L.take k)) ∧ Keep w3 wr) (fun _ i _ => m - (intOf i).toNat)
      case atStart => exact ⟨0, _, by omega, rfl, rfl, Lib.hid (by simpa using OwI.made w3), (Keep.refl w3).alloc _⟩
      case round =>
        obtain ⟨k, v, hk', rfl, hvu, HR, hKs⟩ := hrel
        subst hvu
        have hszs := (hK3.trans hKs).size
        have hszr := hKs.size
        have hKw := hK3.trans hKs
        have HLK : Hid ((L.take k).length = k) := Lib.hid (by rw [List.length_take, HAl.out.1]; omega)
        by_cases hlt : k < m
        · have hr := HL3.out wr hKs
          obtain ⟨bm, om, rfl, hbm, cm⟩ := hr.at_ (i := k) (by rw [HRl.out]; exact hlt)
          rw [HRa.out m k hlt] at cm
          have HS := Lib.hid (HAs.out k (by omega))
          have hb1 := HBd.out k (by omega)
          have kz : (k : Int) < (m : Int) := by omega
          generalize D k = x at *
          have wx : IntKind.i64.wrap (M - x) = M - x := IntWalk.i64_in _ ⟨by omega, by omega⟩
          clear hr
          have hown : wr.ownsRow w3.heap.size 3 1 _ _ _ := (by have h9 := HR.out; unfold OwI at h9; rw [HLK.out] at h9; exact h9)
          go_wp2_with (at_builtin; refine wpList_append_own _ rfl _ _ 23 rfl w3.heap.size 3 i0 (.int .i64 0) 1 8 Try.underlying23 hi0 hz0 hz1 hz2 rfl (by decide) _ _ _ rfl (hown.alloc _) ⟨wr.heap.size, 0, none⟩ 1 1 [.int .i64 (M - x)] rfl rfl ?c1a ?c2a ?c3a ?c4a ?c5a ?_)
          try case c1a =>
            intro j u hj
            match j, hj with
            | 0, hj => simp at hj; subst hj; simp [Addr.add]
          case c2a => first | rfl | (intro u hu; simp at hu; subst hu; rfl)
          case c3a => unfold maxLen; omega
          case c4a => omega
          case c5a => first | omega | (simp; omega)
          intro v' w9 hown' hgrow hnil
          have HK2 : Hid (Keep w3 w9) := Lib.hid (Below.grown (hKs.alloc (.cells #[.int .i64 (M - x)] 3)) hgrow (hKs.alloc (.cells #[.int .i64 (M - x)] 3)).size (fun q hq => (hown.lt q hq).1))
          clear hgrow hnil hown
          have HN2 : Hid (OwI w9 w3.heap.size v' (L.take (k + 1))) := Lib.hid (by rw [HS.out]; unfold OwI; rw [List.length_append, HLK.out, List.map_append, List.map_take]; exact hown')
          clear hown'
          go_wp2
          go_roundw
          case rel => exact ⟨k + 1, v', by omega, by go_num, rfl, HN2, HK2.out⟩
          case measure => simp [intOf]; omega
        · obtain rfl : k = m := by omega
          have HS := Lib.hid (HAs.out k (by omega))
          rw [HAl.out.2] at HS
          have hown : wr.ownsRow w3.heap.size 3 1 _ _ _ := (by have h9 := HR.out; unfold OwI at h9; rw [HLK.out] at h9; exact h9)
          go_wp2_with (at_builtin; refine wpList_append_own _ rfl _ _ 23 rfl w3.heap.size 3 i0 (.int .i64 0) 1 8 Try.underlying23 hi0 hz0 hz1 hz2 rfl (by decide) _ _ _ rfl (hown.alloc _) ⟨wr.heap.size, 0, none⟩ 1 1 [.int .i64 0] rfl rfl ?c1a ?c2a ?c3a ?c4a ?c5a ?_)
          try case c1a =>
            intro j u hj
            match j, hj with
            | 0, hj => simp at hj; subst hj; simp [Addr.add]
          case c2a => first | rfl | (intro u hu; simp at hu; subst hu; rfl)
          case c3a => unfold maxLen; omega
          case c4a => omega
          case c5a => first | omega | (simp; omega)
          intro v' w9 hown' hgrow hnil
          have HK2 : Hid (Keep w3 w9) := Lib.hid (Below.grown (hKs.alloc (.cells #[.int .i64 0] 3)) hgrow (hKs.alloc (.cells #[.int .i64 0] 3)).size (fun q hq => (hown.lt q hq).1))
          clear hgrow hnil hown
          have HN2 : Hid (OwI w9 w.heap.size v' L) := Lib.hid (own_lowA hsz3 (by rw [HS.out]; unfold OwI; rw [List.length_append, HLK.out, List.map_append, List.map_take, HDM.out, show (M - M : Int) = 0 by omega]; exact hown'))
          obtain ⟨g, c, hv, hg, hl⟩ := World.ownsRow.form HN2.out (by rw [HAl.out.1]; omega)
          subst hv
          have hcc := (OwI.fresh (w0 := w) HN2.out (Nat.le_refl _)).2.1
          clear hown'
          generalize hn9 : L.length = n9 at *
          go_wp2
          go_ret
          exact ⟨g, c, by rw [hn9]; rfl, by rw [hn9]; exact hcc, by rw [hn9]; exact HN2.out, hK3.trans HK2.out⟩
end Go.Proofs.Ytehjjoalnfpgdaa
