/- The model reads a text of a series. -/
import Derived.Test.YtpdpcnblpcalaaaDoorBud
import Derived.Test.YtpdpcnblpcalaaaDoorBub
import Derived.Test.YtpdpcnblpcalaaaDoorBgs
import Derived.Test.YtpdpcnblpcalaaaDoorBx
import Derived.Deep.AppendLies
namespace Go.Proofs.YtpdpcnblpcalaaaDoor
open Go.RowKit
set_option linter.unusedVariables false

def VlPost (us : List ByteArray) (w : World) (e : Ending) (w' : World) : Prop :=
  Keep w w' ∧ ((((us.map (·.data.toList)).all wOk = true) ∧ ∃ v, OwnI w' w.heap.size v ((us.map (·.data.toList)).map wV) ∧ e = .returned (.tuple #[v, .bool true])) ∨
    (((us.map (·.data.toList)).all wOk = false) ∧ ∃ a n c, e = .returned (.tuple #[.slice a n c, .bool false])))
def vlN (us : List ByteArray) (k : Nat) : List Int := (((us.map (·.data.toList)).map wV)).take k
theorem vlN_succ {us : List ByteArray} {k : Nat} (hk : k < us.length) : vlN us (k + 1) = vlN us k ++ [wV (us.getD k ⟨#[]⟩).data.toList] := by
  unfold vlN
  rw [List.take_succ_eq_append_getElem (by simpa using hk)]
  simp [List.getD_eq_getElem?_getD, hk]
theorem vlN_len {us : List ByteArray} {k : Nat} (hk : k ≤ us.length) : (vlN us k).length = k := by simp [vlN]; omega
set_option maxRecDepth 100000 in
set_option maxHeartbeats 4000000 in
theorem vl_spec (g off cap : Nat) (us : List ByteArray) (w : World) (hc : ∀ i, i < us.length → w.cell? ⟨g, off + i, none⟩ = some (.string (us.getD i ⟨#[]⟩))) (hs : ∀ i, i < us.length → (us.getD i ⟨#[]⟩).size ≤ 1048576) (hl : us.length ≤ 1048577) :
    Calls Tryd.prog 36 #[.slice (some ⟨g, off, none⟩) us.length cap] w (VlPost us w) := by
  obtain ⟨i0, hi, hz0, hz1, hz2⟩ := info_parts infoInt'
  have HC := Lib.hid hc
  have HS := Lib.hid hs
  clear hc hs
  go_enter Tryd.func36, Tryd.ntmps36
  go_wp2_with fail
  go_loopw [4, 5] (fun u i wr => ∃ k n : Nat, k ≤ us.length ∧ i = .int .i64 k ∧ Hid (n = k) ∧ (∃ a c, u = .slice a n c) ∧ Hid (OwnI wr w.heap.size u (vlN us k)) ∧ Hid (∀ j, j < k → wOk (us.getD j ⟨#[]⟩).data.toList = true) ∧ Keep w wr) (fun _ i _ => us.length - (RowKit.intOf i).toNat)
  case atStart => exact ⟨0, 0, by omega, rfl, Lib.hid rfl, ⟨_, _, rfl⟩, Lib.hid (World.ownsRow_made w #[] 0 (Nat.le_refl _) (by unfold maxLen; omega) rfl), Lib.hid (fun j hj => absurd hj (by omega)), (Keep.refl w).alloc _⟩
  case round =>
    obtain ⟨k, n, hk, rfl, HN, ⟨a, c, rfl⟩, HO, HA, hK⟩ := hrel
    have hsz := hK.size
    by_cases hlt : k < us.length
    · have cz := hK.cell (HC.out k hlt)
      have hus := HS.out k hlt
      have HV := Lib.hid (vlN_succ hlt)
      have HA2 := Lib.hid (fun (h9 : wOk (us.getD k ⟨#[]⟩).data.toList = true) => fun j (hj : j < k + 1) => (show wOk (us.getD j ⟨#[]⟩).data.toList = true by
        by_cases e : j < k
        · exact HA.out j e
        · obtain rfl : j = k := by omega
          exact h9))
      have HF : Hid (wOk (us.getD k ⟨#[]⟩).data.toList = false → (us.map (·.data.toList)).all wOk = false) := Lib.hid (fun h9 => by
        rcases Bool.eq_false_or_eq_true ((us.map (·.data.toList)).all wOk) with h8 | h8
        · have h7 := List.all_eq_true.1 h8 (us.getD k ⟨#[]⟩).data.toList (by
            refine List.mem_map.2 ⟨_, ?_, rfl⟩
            rw [List.getD_eq_getElem?_getD, List.getElem?_eq_getElem hlt, Option.getD_some]
            exact List.getElem_mem _)
          rw [h9] at h7; cases h7
        · exact h8)
      generalize us.getD k ⟨#[]⟩ = u at *
      have HNM := Lib.hid (fun W => snumber_any u W hus)
      clear HA
      have hbd := numRaw_bound u.data.toList
      have HW : Hid (wV u.data.toList = if u.data.toList = [47] then -9999 else numRaw u.data.toList) := Lib.hid rfl
      have HK0 : Hid (wOk u.data.toList = (u.data.toList == [47] || numOk u.data.toList)) := Lib.hid rfl
      have htl : u.toList = u.data.toList := ByteArray.toList_eq u
      go_wp2_with fail
      refine (HNM.out _).mono ?_
      rintro e w1 ⟨rfl, rfl⟩
      by_cases h47 : u.data.toList = [47]
      · have HWV : Hid (wV u.data.toList = -9999) := Lib.hid (by rw [HW.out, if_pos h47])
        have HOKV := Lib.hid (HA2.out (by rw [HK0.out, h47]; rfl))
        have hcmp : (u.toList == [47]) = true := by rw [htl, h47]; simp
        clear HA2 HF HK0 HW HNM htl h47
        generalize numRaw u.data.toList = z at *
        generalize numOk u.data.toList = ok at *
        have hown : wr.ownsRow w.heap.size 3 1 (.slice a n c) n ((vlN us k).map (Value.int .i64)) := by
          have h9 := HO.out
          unfold OwnI at h9
          rw [show (vlN us k).length = n from (vlN_len hk).trans HN.out.symm] at h9
          exact h9
        have hnl : n ≤ 1048577 := by have := HN.out; omega
        go_wp2_with (at_builtin; refine wpList_append_own _ rfl _ _ 23 rfl w.heap.size 3 i0 (.int .i64 0) 1 8 Tryd.underlying23 hi hz0 hz1 hz2 rfl (by decide) _ _ _ rfl (hown.alloc _) ⟨wr.heap.size, 0, none⟩ 1 1 [.int .i64 (-9999)] rfl rfl ?c1a ?c2a ?c3a ?c4a ?c5a ?_)
        case c1a =>
          intro j u hj
          match j, hj with
          | 0, hj => simp at hj; subst hj; simp [Addr.add]
        case c2a => first | rfl | (intro u hu; simp at hu; subst hu; rfl)
        case c3a => unfold maxLen; omega
        case c4a => omega
        case c5a => simp; omega
        intro v' w9 hown' hgrow hnil
        obtain ⟨g', c', rfl, hbg, hlg⟩ := hown'.form (by omega)
        have hrow : ∀ g, _ = some g → w.heap.size ≤ g := fun g hg => (hown.lt g hg).1
        have HN2 : Hid (OwnI w9 w.heap.size (.slice (some ⟨g', 0, none⟩) (n + 1) c') (vlN us (k + 1))) := Lib.hid (by
          unfold OwnI
          rw [vlN_len (by omega), HV.out, HWV.out]
          have h9 := hown'
          rw [HN.out] at h9
          simpa [HN.out] using h9)
        have HG := Lib.hid ((hK.alloc _).grown' hgrow hrow)
        have HN1 := Lib.hid (show n + 1 = k + 1 from by rw [HN.out])
        clear hown' hgrow hnil hown hrow
        go_wp2
        go_roundw
        case rel => exact ⟨k + 1, n + 1, by omega, by go_num, HN1, ⟨_, _, rfl⟩, HN2, HOKV, HG.out⟩
        case measure => simp [RowKit.intOf]; omega
      · have HWV : Hid (wV u.data.toList = numRaw u.data.toList) := Lib.hid (by rw [HW.out, if_neg h47])
        have HKV : Hid (wOk u.data.toList = numOk u.data.toList) := Lib.hid (by rw [HK0.out, beq_eq_false_iff_ne.2 h47]; rfl)
        have hcmp : (u.toList == [47]) = false := by rw [htl]; exact beq_eq_false_iff_ne.2 h47
        have hcmp2 : ¬ u.toList = [47] := by rw [htl]; exact h47
        clear HK0 HW HNM htl h47
        generalize numRaw u.data.toList = z at *
        generalize numOk u.data.toList = ok at *
        cases ok
        · have HF2 := Lib.hid (HF.out HKV.out)
          clear HA2 HF HWV HV
          go_wp2
          go_ret2
          exact ⟨hK, .inr ⟨HF2.out, _, _, _, rfl⟩⟩
        have HOKV := Lib.hid (HA2.out HKV.out)
        clear HA2 HF HKV
        have hown : wr.ownsRow w.heap.size 3 1 (.slice a n c) n ((vlN us k).map (Value.int .i64)) := by
          have h9 := HO.out
          unfold OwnI at h9
          rw [show (vlN us k).length = n from (vlN_len hk).trans HN.out.symm] at h9
          exact h9
        have hnl : n ≤ 1048577 := by have := HN.out; omega
        go_wp2_with (at_builtin; refine wpList_append_own _ rfl _ _ 23 rfl w.heap.size 3 i0 (.int .i64 0) 1 8 Tryd.underlying23 hi hz0 hz1 hz2 rfl (by decide) _ _ _ rfl (hown.alloc _) ⟨wr.heap.size, 0, none⟩ 1 1 [.int .i64 z] rfl rfl ?c1b ?c2b ?c3b ?c4b ?c5b ?_)
        case c1b =>
          intro j u hj
          match j, hj with
          | 0, hj => simp at hj; subst hj; simp [Addr.add]
        case c2b => first | rfl | (intro u hu; simp at hu; subst hu; rfl)
        case c3b => unfold maxLen; omega
        case c4b => omega
        case c5b => simp; omega
        intro v' w9 hown' hgrow hnil
        obtain ⟨g', c', rfl, hbg, hlg⟩ := hown'.form (by omega)
        have hrow : ∀ g, _ = some g → w.heap.size ≤ g := fun g hg => (hown.lt g hg).1
        have HN2 : Hid (OwnI w9 w.heap.size (.slice (some ⟨g', 0, none⟩) (n + 1) c') (vlN us (k + 1))) := Lib.hid (by
          unfold OwnI
          rw [vlN_len (by omega), HV.out, HWV.out]
          have h9 := hown'
          rw [HN.out] at h9
          simpa [HN.out] using h9)
        have HG := Lib.hid ((hK.alloc _).grown' hgrow hrow)
        have HN1 := Lib.hid (show n + 1 = k + 1 from by rw [HN.out])
        clear hown' hgrow hnil hown hrow
        go_wp2
        go_roundw
        case rel => exact ⟨k + 1, n + 1, by omega, by go_num, HN1, ⟨_, _, rfl⟩, HN2, HOKV, HG.out⟩
        case measure => simp [RowKit.intOf]; omega
    · obtain rfl : k = us.length := by omega
      have HAll : Hid ((us.map (·.data.toList)).all wOk = true) := Lib.hid (List.all_eq_true.2 fun q hq => by
        obtain ⟨x, hx, rfl⟩ := List.mem_map.1 hq
        obtain ⟨j, hj, rfl⟩ := List.getElem_of_mem hx
        have := HA.out j hj
        rw [List.getD_eq_getElem?_getD, List.getElem?_eq_getElem hj, Option.getD_some] at this
        exact this)
      have HO2 : Hid (OwnI wr w.heap.size (.slice a n c) ((us.map (·.data.toList)).map wV)) := Lib.hid (by
        have h9 := HO.out
        unfold vlN at h9
        rw [List.take_of_length_le (by simp)] at h9
        exact h9)
      clear HA HO
      go_wp2
      go_ret2
      exact ⟨hK, .inl ⟨HAll.out, _, HO2.out, rfl⟩⟩
theorem bo_any (a : Option Addr) (c : Nat) (s t f : Int) (zs : List Int) (w : World) (h : Ls w a zs) (hm : zs.length ≤ 1048576) :
    Calls Tryd.prog 23 #[.int .i64 s, .int .i64 t, .int .i64 f, .slice a zs.length c] w fun e w' => e = .returned (.bool (btOk s t f zs)) ∧ Keep w w' := by
  rcases Bool.eq_false_or_eq_true (inB f 0 999) with hf | hf
  · exact bo_spec a c s t f zs w h hm (by simp [inB] at hf; omega)
  · rw [btOk_out hf]; exact bo_wide a c s t f zs w h hm hf
theorem infoRepS : (Tryd.prog.info? 31).map (fun i => (i.zero, i.size, i.bytes)) = some (some (.agg #[.int .i64 0, .int .i64 0, .int .i64 0, .int .i64 0]), 4, 32) := by kernel_rfl
theorem ws_get {ps : List ByteArray} {i : Nat} (h : i < ps.length) : (ps.map (·.data.toList)).getD i [] = (ps.getD i ⟨#[]⟩).data.toList := by
  simp [List.getD_eq_getElem?_getD, h]
def midP (ps : List ByteArray) : List ByteArray := (ps.drop 3).take (ps.length - 4)
theorem midP_map (ps : List ByteArray) : (midP ps).map (·.data.toList) = midW (ps.map (·.data.toList)) := by
  simp [midP, midW]
theorem midP_len {ps : List ByteArray} (h : 5 ≤ ps.length) : (midP ps).length = ps.length - 4 := by simp [midP]; omega
theorem midP_get {ps : List ByteArray} {i : Nat} (h : i < (midP ps).length) : (midP ps).getD i ⟨#[]⟩ = ps.getD (3 + i) ⟨#[]⟩ ∧ 3 + i < ps.length := by
  have h2 : i < ps.length - 4 := by
    have : (midP ps).length ≤ ps.length - 4 := by simp [midP]; omega
    omega
  refine ⟨?_, by omega⟩
  simp only [List.getD_eq_getElem?_getD]
  rw [midP, List.getElem?_take_of_lt h2, List.getElem?_drop]
theorem words_size' {x : UInt8} {l : List UInt8} {ps : List (List UInt8)} (hw : Words x l ps) : (∀ q ∈ ps, q.length ≤ l.length) ∧ ps.length ≤ l.length + 1 := by
  obtain ⟨init, last, rfl, rfl, _⟩ := hw
  have h : ∀ i : List (List UInt8), (∀ q ∈ i, q.length ≤ (flat x i).length) ∧ i.length ≤ (flat x i).length := by
    intro i
    induction i with
    | nil => exact ⟨fun q hq => absurd hq (by simp), Nat.le_refl _⟩
    | cons a r ih =>
      refine ⟨fun q hq => ?_, ?_⟩
      · rw [flat, List.length_append, List.length_cons]
        rcases List.mem_cons.1 hq with rfl | hq
        · omega
        · have := ih.1 q hq; omega
      · rw [flat, List.length_append, List.length_cons, List.length_cons]
        have := ih.2; omega
  refine ⟨fun q hq => ?_, ?_⟩
  · rw [List.length_append]
    rcases List.mem_append.1 hq with hq | hq
    · have := (h init).1 q hq; omega
    · obtain rfl := List.mem_singleton.1 hq; omega
  · rw [List.length_append, List.length_append, List.length_singleton]
    have := (h init).2; omega
theorem own_capS2 {w : World} {base g n c : Nat} {xs : List Value} (h : w.ownsRow base 9 1 (.slice (some ⟨g, 0, none⟩) n c) n xs) : n ≤ c := by
  rcases h.2 with ⟨_, hn⟩ | ⟨g', cap, cur, hv, hb, hg, h1, h2, _⟩
  · omega
  · simp only [Value.slice.injEq] at hv
    obtain ⟨_, _, rfl⟩ := hv
    omega
theorem Only.grown_by {B g : Nat} {a w w' : World} (h : Only B a w) (hg : w.grownBy w' (some g)) (hgb : g = B ∨ a.heap.size ≤ g) : Only B a w' :=
  ⟨hg.os.trans h.os, hg.tape.trans h.tape, hg.output.trans h.output, Nat.le_trans h.size hg.size, fun i hi hne =>
    (hg.block i (Nat.lt_of_lt_of_le hi h.size) (fun e => by
      injection e with e
      rcases hgb with h9 | h9
      · exact hne (by rw [← h9, e])
      · omega)).trans (h.block i hi hne)⟩
theorem OwnI.far_block {w : World} {base B n c : Nat} {a : Option Addr} {zs : List Int} (h : OwnI w base (.slice a n c) zs) (hB : B < base) : ∀ b o, a = some ⟨b, o, none⟩ → b ≠ B := by
  rintro b o rfl
  rcases h.2 with ⟨hv, _⟩ | ⟨g, cap, cur, hv, hb, _⟩
  · simp at hv
  · simp only [Value.slice.injEq, Option.some.injEq, Addr.mk.injEq] at hv
    omega
set_option maxRecDepth 100000 in
set_option maxHeartbeats 8000000 in
theorem bp_spec (p : ByteArray) (w : World) (hp : p.size ≤ 1048576) :
    Calls Tryd.prog 12 #[.string p] w (BpPost p w) := by
  have HCT := Lib.hid (fun W => cut_any p 32 W (by omega))
  go_enter Tryd.func12, Tryd.ntmps12
  go_wp2_with fail
  refine (HCT.out _).mono ?_
  rintro e w1 ⟨ps, v, rfl, hown, hW, k1, hnil⟩
  have K1 : Keep w w1 := ((Keep.refl w).alloc _).trans k1
  have HRD := Lib.hid (fun s t f zs (hb : Bt p s t f zs) => bt_read hb hW)
  have HW := Lib.hid hW
  have hps : 0 < ps.length := by
    obtain ⟨i, l, e1, _⟩ := hW
    have := congrArg List.length e1
    simp at this; omega
  obtain ⟨g, cap, rfl, hc⟩ := own_str hown hps
  have hcap : ps.length ≤ cap := own_capS2 hown
  have hsz := words_size' hW
  rw [ba_len] at hsz
  have HSZ : Hid (∀ i, i < ps.length → (ps.getD i ⟨#[]⟩).size ≤ 1048576) := Lib.hid (fun i hi => by
    have h9 := hsz.1 (ps.getD i ⟨#[]⟩).data.toList (by
      refine List.mem_map.2 ⟨_, ?_, rfl⟩
      rw [List.getD_eq_getElem?_getD, List.getElem?_eq_getElem hi, Option.getD_some]
      exact List.getElem_mem _)
    rw [ba_len] at h9; omega)
  have HN1 : Hid (ps.length ≤ 1048577) := Lib.hid (by have h9 := hsz.2; rw [List.length_map] at h9; omega)
  have HC := Lib.hid hc
  have HKK : Hid (Keep w w1) := Lib.hid K1
  have HOUT : Hid (w1.ownsRow w.heap.size 31 4 (.slice (some ⟨w.heap.size, 0, none⟩) 0 0) 0 (flatR [])) := Lib.hid (own_keepP (World.ownsRow_made w #[] 0 (Nat.le_refl _) (by unfold maxLen; omega) rfl) k1)
  have HLT1 : Hid (w.heap.size < w1.heap.size) := Lib.hid (by have := k1.size; simp at this; omega)
  clear hown hW hnil hsz k1 HCT hps
  by_cases h5 : ps.length < 5
  · have HNB : Hid (∀ s t f zs, ¬ Bt p s t f zs) := Lib.hid (fun s t f zs hb => by have h9 := (HRD.out s t f zs hb).1; rw [List.length_map] at h9; omega)
    clear HRD HW HSZ HC hc
    obtain ⟨N, hN⟩ : ∃ N, ps.length = N := ⟨_, rfl⟩
    rw [hN] at h5
    rw [hN]
    have d5 : decide ((N : Int) < 5) = true := decide_eq_true (by omega)
    clear hN
    go_wp2
    go_ret2
    exact ⟨HKK.out, _, _, [], Nat.zero_le _, .inl rfl, .inr ⟨HNB.out, rfl, rfl⟩⟩
  have h5' : 5 ≤ ps.length := by omega
  rcases last_blank p with hno | ⟨m, hm, h32, hno⟩
  · exfalso
    have h9 := words_none (L := p.data.toList) (fun h => by
      obtain ⟨j, hj, he⟩ := List.getElem_of_mem h
      exact hno j (by rw [ba_len] at hj; exact hj) he) HW.out
    omega
  have HG := Lib.hid (fun W => sg_at p m W hp hm h32 hno)
  have HGF : Hid (gX p m = false → ∀ s t f zs, ¬ Bt p s t f zs) := Lib.hid (fun h9 s t f zs hb => by rw [(bt_front hm h32 hno hb).1] at h9; cases h9)
  generalize gX p m = gx at *
  clear hno h32 HW
  have c0 := hc 0 (by omega)
  have c1 := hc 1 (by omega)
  have c2 := hc 2 (by omega)
  have hs0 := HSZ.out 0 (by omega)
  have hs1 := HSZ.out 1 (by omega)
  have hs2 := HSZ.out 2 (by omega)
  have HM1 := Lib.hid (midP_len h5')
  have HMC : Hid (∀ i, i < (midP ps).length → w1.cell? ⟨g, 3 + i, none⟩ = some (.string ((midP ps).getD i ⟨#[]⟩))) := Lib.hid (fun i hi => by
    obtain ⟨e1, e2⟩ := midP_get hi
    rw [e1]; exact HC.out _ e2)
  have HMS : Hid (∀ i, i < (midP ps).length → ((midP ps).getD i ⟨#[]⟩).size ≤ 1048576) := Lib.hid (fun i hi => by
    obtain ⟨e1, e2⟩ := midP_get hi
    rw [e1]; exact HSZ.out _ e2)
  have HR2 : Hid (∀ s t f zs, Bt p s t f zs → wordOk (ps.getD 0 ⟨#[]⟩).data.toList 98 = true ∧ wordRaw (ps.getD 0 ⟨#[]⟩).data.toList 98 = s ∧ wordOk (ps.getD 1 ⟨#[]⟩).data.toList 107 = true ∧ wordRaw (ps.getD 1 ⟨#[]⟩).data.toList 107 = t ∧
      wordOk (ps.getD 2 ⟨#[]⟩).data.toList 100 = true ∧ wordRaw (ps.getD 2 ⟨#[]⟩).data.toList 100 = f ∧ ((midP ps).map (·.data.toList)).all wOk = true ∧ ((midP ps).map (·.data.toList)).map wV = zs) := Lib.hid (fun s t f zs hb => by
    have h9 := (HRD.out s t f zs hb).2
    rw [ws_get (by omega), ws_get (by omega), ws_get (by omega)] at h9
    rw [midP_map]; exact h9)
  have HN2 : Hid ((midP ps).length + 4 = ps.length) := Lib.hid (by rw [HM1.out]; omega)
  clear HRD hc HC HSZ HM1
  generalize midP ps = us at *
  generalize ps.getD 0 ⟨#[]⟩ = q0 at *
  generalize ps.getD 1 ⟨#[]⟩ = q1 at *
  generalize ps.getD 2 ⟨#[]⟩ = q2 at *
  obtain ⟨N, hN⟩ : ∃ N, ps.length = N := ⟨_, rfl⟩
  rw [hN] at HN1 HN2 h5 h5' hcap
  rw [hN]
  clear hN
  have d5 : decide ((N : Int) < 5) = false := decide_eq_false (by omega)
  have n5 : ¬ (N : Int) < 5 := by omega
  have n0 : (0 : Int) < (N : Int) := by omega
  have n1 : (1 : Int) < (N : Int) := by omega
  have n2 : (2 : Int) < (N : Int) := by omega
  go_wp2_with fail
  refine (HG.out _).mono ?_
  rintro e w2 ⟨rfl, k2⟩
  have HK2 : Hid (Keep w1 w2) := Lib.hid k2
  replace HKK := Lib.hid (HKK.out.trans k2)
  have HOU2 := Lib.hid (own_keepP HOUT.out k2)
  have HLT2 := Lib.hid (Nat.lt_of_lt_of_le HLT1.out k2.size)
  replace c0 := k2.cell c0
  replace c1 := k2.cell c1
  replace c2 := k2.cell c2
  clear k2 K1
  cases gx
  case' false =>
    have HNB := Lib.hid (HGF.out rfl)
    clear HR2 HGF HG
    go_wp2
    go_ret2
    exact ⟨HKK.out, _, _, [], Nat.zero_le _, .inl rfl, .inr ⟨HNB.out, rfl, rfl⟩⟩
  clear HGF HG
  have HA0 := Lib.hid (fun W => sword_any q0 98 W hs0)
  have HA1 := Lib.hid (fun W => sword_any q1 107 W hs1)
  have HA2 := Lib.hid (fun W => sword_any q2 100 W hs2)
  unfold SWord at HA0 HA1 HA2
  have HBF := Lib.hid (wordRaw_bound q2.data.toList 100)
  generalize wordOk q0.data.toList 98 = A0 at *
  generalize wordRaw q0.data.toList 98 = S at *
  generalize wordOk q1.data.toList 107 = A1 at *
  generalize wordRaw q1.data.toList 107 = T at *
  generalize wordOk q2.data.toList 100 = A2 at *
  generalize wordRaw q2.data.toList 100 = F at *
  go_wp2_with fail
  refine (HA0.out _).mono ?_
  rintro e w3 ⟨rfl, rfl⟩
  go_wp2_with fail
  refine (HA1.out _).mono ?_
  rintro e w3 ⟨rfl, rfl⟩
  go_wp2_with fail
  refine (HA2.out _).mono ?_
  rintro e w3 ⟨rfl, rfl⟩
  have m3 : ¬ (cap = 3) := by omega
  have m4 : IntKind.i64.wrap ((N : Int) - 1) = ((N - 1 : Nat) : Int) := by rw [show (N : Int) - 1 = ((N - 1 : Nat) : Int) by omega]; exact IntWalk.i64_in _ (by have := HN1.out; omega)
  have m5 : (3 : Int) ≤ ((N - 1 : Nat) : Int) := by omega
  have m6 : ((N - 1 : Nat) : Int) ≤ (cap : Int) := by omega
  go_wp2_with fail
  rw [show N - 1 - 3 = us.length by have := HN2.out; omega]
  have HUL : Hid (us.length ≤ 1048576) := Lib.hid (by have := HN1.out; have := HN2.out; omega)
  refine (vl_spec g 3 (cap - 3) us w2 (fun i hi => HK2.out.cell (HMC.out i hi)) HMS.out (by have := HUL.out; omega)).mono ?_
  rintro e w4 ⟨k4, hh⟩
  replace HKK := Lib.hid (HKK.out.trans k4)
  have HOU4 := Lib.hid (own_keepP HOU2.out k4)
  have hsz4 := k4.size
  clear HMC HMS c0 c1 c2 HA0 HA1 HA2 k4 HN2 HN1 m3 m4 m5 m6 h5 h5' hcap n0 n1 n2 n5 d5
  rcases hh with ⟨hall, v4, hO4, rfl⟩ | ⟨hall, a4, n4, c4, rfl⟩
  case' inr =>
    have HNB : Hid (∀ s t f zs, ¬ Bt p s t f zs) := Lib.hid (fun s t f zs hb => by have h9 := (HR2.out s t f zs hb).2.2.2.2.2.2.1; rw [hall] at h9; cases h9)
    clear HR2 hall HUL
    cases A0
    · go_wp2
      go_ret2
      exact ⟨HKK.out, _, _, [], Nat.zero_le _, .inl rfl, .inr ⟨HNB.out, rfl, rfl⟩⟩
    cases A1
    · go_wp2
      go_ret2
      exact ⟨HKK.out, _, _, [], Nat.zero_le _, .inl rfl, .inr ⟨HNB.out, rfl, rfl⟩⟩
    cases A2
    · go_wp2
      go_ret2
      exact ⟨HKK.out, _, _, [], Nat.zero_le _, .inl rfl, .inr ⟨HNB.out, rfl, rfl⟩⟩
    go_wp2
    go_ret2
    exact ⟨HKK.out, _, _, [], Nat.zero_le _, .inl rfl, .inr ⟨HNB.out, rfl, rfl⟩⟩
  have HZB : Hid (((us.map (·.data.toList)).map wV).length ≤ 1048576) := Lib.hid (by rw [List.length_map, List.length_map]; exact HUL.out)
  generalize (us.map (·.data.toList)).map wV = Z at *
  clear hall HUL
  obtain ⟨a4, c4, rfl, hls⟩ := hO4.ls
  have HLS := Lib.hid hls
  have HAB := Lib.hid (hO4.far_block HLT2.out)
  clear hO4 hls
  cases A0
  · have HNB : Hid (∀ s t f zs, ¬ Bt p s t f zs) := Lib.hid (fun s t f zs hb => by have h9 := (HR2.out s t f zs hb).1; cases h9)
    clear HR2
    go_wp2
    go_ret2
    exact ⟨HKK.out, _, _, [], Nat.zero_le _, .inl rfl, .inr ⟨HNB.out, rfl, rfl⟩⟩
  cases A1
  · have HNB : Hid (∀ s t f zs, ¬ Bt p s t f zs) := Lib.hid (fun s t f zs hb => by have h9 := (HR2.out s t f zs hb).2.2.1; cases h9)
    clear HR2
    go_wp2
    go_ret2
    exact ⟨HKK.out, _, _, [], Nat.zero_le _, .inl rfl, .inr ⟨HNB.out, rfl, rfl⟩⟩
  cases A2
  · have HNB : Hid (∀ s t f zs, ¬ Bt p s t f zs) := Lib.hid (fun s t f zs hb => by have h9 := (HR2.out s t f zs hb).2.2.2.2.1; cases h9)
    clear HR2
    go_wp2
    go_ret2
    exact ⟨HKK.out, _, _, [], Nat.zero_le _, .inl rfl, .inr ⟨HNB.out, rfl, rfl⟩⟩
  have HR3 : Hid (∀ s t f zs, Bt p s t f zs → S = s ∧ T = t ∧ F = f ∧ Z = zs) := Lib.hid (fun s t f zs hb => by
    obtain ⟨_, e1, _, e2, _, e3, _, e4⟩ := HR2.out s t f zs hb
    exact ⟨e1, e2, e3, e4⟩)
  clear HR2
  have hz := HZB.out
  have HB := Lib.hid (fun W (hk : Keep w4 W) => bo_any a4 c4 S T F Z W (HLS.out.keep hk) hz)
  have HT := Lib.hid (fun W (hk : Keep w4 W) => bt_spec' a4 c4 S T F Z W (HLS.out.keep hk) hz)
  obtain ⟨ok, hok⟩ : ∃ x, btOk S T F Z = x := ⟨_, rfl⟩
  rw [hok] at HB
  cases ok
  · have HNB : Hid (∀ s t f zs, ¬ Bt p s t f zs) := Lib.hid (fun s t f zs hb => by
      obtain ⟨rfl, rfl, rfl, rfl⟩ := HR3.out s t f zs hb
      rw [hb.1] at hok; cases hok)
    clear HR3 HT hok
    go_wp2_with fail
    refine (HB.out _ (Keep.refl _)).mono ?_
    rintro e w5 ⟨rfl, k5⟩
    go_wp2
    go_ret2
    exact ⟨HKK.out.trans k5, _, _, [], Nat.zero_le _, .inl rfl, .inr ⟨HNB.out, rfl, rfl⟩⟩
  have HTL := Lib.hid (btT_yes hok)
  have hfs := btOk_facts hok
  obtain ⟨hS, hT2, hF, hZ, _⟩ := hfs
  have HYES : Hid (btT S T F Z = p → Bt p S T F Z) := Lib.hid (fun e => ⟨hok, by rw [← e, HTL.out]⟩)
  have HNOT : Hid (btT S T F Z ≠ p → ∀ s t f zs, ¬ Bt p s t f zs) := Lib.hid (fun hne s t f zs hb => by
    obtain ⟨rfl, rfl, rfl, rfl⟩ := HR3.out s t f zs hb
    refine hne ?_
    rw [HTL.out, ← hb.2])
  have htl : (btT S T F Z).toList = p.toList ↔ btT S T F Z = p := by
    rw [ByteArray.toList_eq, ByteArray.toList_eq]
    exact ⟨fun h => (bytes_eq h).trans (bytes_eq rfl).symm, fun h => by rw [h]⟩
  clear HTL hok HR3
  generalize btT S T F Z = q at *
  go_wp2_with fail
  refine (HB.out _ (Keep.refl _)).mono ?_
  rintro e w5 ⟨rfl, k5⟩
  replace HKK := Lib.hid (HKK.out.trans k5)
  go_wp2_with fail
  refine (HT.out _ k5).mono ?_
  rintro e w6 ⟨rfl, k6⟩
  replace HKK := Lib.hid (HKK.out.trans k6)
  have K46 := k5.trans k6
  replace HLS := Lib.hid (HLS.out.keep K46)
  have HOU6 := Lib.hid (own_keepP HOU4.out K46)
  have hsz6 := K46.size
  clear HB HT k5 k6 K46
  by_cases hq : q = p
  case' neg =>
    have HNB := Lib.hid (HNOT.out hq)
    have hne : ¬ q.toList = p.toList := fun h => hq (htl.1 h)
    have hneb : (q.toList == p.toList) = false := beq_eq_false_iff_ne.2 hne
    clear htl HYES HNOT
    go_wp2
    go_ret2
    exact ⟨HKK.out, _, _, [], Nat.zero_le _, .inl rfl, .inr ⟨HNB.out, rfl, rfl⟩⟩
  have HBT := Lib.hid (HYES.out hq)
  subst hq
  clear htl HYES HNOT
  go_wp2_with fail
  obtain ⟨i0, hi, hz0, hz1, hz2⟩ := info_parts infoRepS
  have hZ2 : Z.length ≤ 12 := hZ.2
  have HK6 := Lib.hid HKK.out
  have hw6 : w.heap.size ≤ w6.heap.size := HKK.out.size
  clear hz HZB HBF hZ hS hT2 hsz4 hsz6 hs0 hs1 hs2 HK2
  go_loopw [4, 14] (fun u i wr => ∃ (k n g c : Nat), k ≤ Z.length ∧ i = .int .i64 k ∧ u = .slice (some ⟨g, 0, none⟩) n c ∧ Hid (n = (bvR S T F Z k).length) ∧ Hid (wr.ownsRow w.heap.size 31 4 (.slice (some ⟨g, 0, none⟩) n c) n (flatR (bvR S T F Z k))) ∧ Hid (g = w.heap.size ∨ w6.heap.size ≤ g) ∧ Only w.heap.size w6 wr) (fun _ i _ => Z.length - (RowKit.intOf i).toNat)
  case atStart => exact ⟨0, 0, _, _, by omega, rfl, rfl, Lib.hid rfl, HOU6, Lib.hid (.inl rfl), Only.refl _ _⟩
  case round =>
    obtain ⟨k, n, g, c, hk, rfl, rfl, HLN, HW, HGB, hOn⟩ := hrel
    have HL := Lib.hid (hOn.ls HLS.out HAB.out)
    have hK : Keep w wr := HKK.out.trans' hOn (Nat.le_refl _)
    have hsz := hK.size
    have hln := bvR_len S T F Z k
    by_cases hlt : k < Z.length
    · obtain ⟨b, off, hae, hb, hcc⟩ := HL.out.all (by omega)
      have cz := hcc k hlt
      have HY : Hid (Z.getD k 0 ≠ -9999 → bvR S T F Z (k + 1) = bvR S T F Z k ++ [(S, F + (k : Int), T, Z.getD k 0)]) := Lib.hid (fun hy => by rw [bvR, if_neg hy])
      have HNO : Hid (Z.getD k 0 = -9999 → bvR S T F Z (k + 1) = bvR S T F Z k) := Lib.hid (fun hy => by rw [bvR, if_pos hy, List.append_nil])
      generalize Z.getD k 0 = z at *
      clear hcc
      subst hae
      by_cases hz : z = -9999
      · have hzd : (z != -9999) = false := by simp [hz]
        replace HY := Lib.hid (HNO.out hz)
        clear HNO hz
        go_wp2
        go_roundw
        case rel => exact ⟨k + 1, n, g, c, by omega, by go_num, rfl, Lib.hid (by rw [HY.out]; exact HLN.out), Lib.hid (by rw [HY.out]; exact HW.out), HGB, hOn⟩
        case measure => simp [RowKit.intOf]; omega
      · have hzd : (z != -9999) = true := by simp [hz]
        replace HY := Lib.hid (HY.out hz)
        clear HNO hz
        have hfk : IntKind.i64.wrap (F + (k : Int)) = F + (k : Int) := IntWalk.i64_in _ (by omega)
        have hlen : n ≤ 12 := by rw [HLN.out]; omega
        have hown2 : wr.ownsRow w.heap.size 31 4 (.slice (some ⟨g, 0, none⟩) n c) n (flatR (bvR S T F Z k)) := HW.out
        go_wp2_with (at_builtin; go_loud (refine wpList_append_lies _ rfl _ _ 27 rfl w.heap.size 31 i0 (.agg #[.int .i64 0, .int .i64 0, .int .i64 0, .int .i64 0]) 4 32 Tryd.underlying27 hi hz0 hz1 hz2 rfl (by decide) _ _ _ rfl (hown2.alloc _) ⟨wr.heap.size, 0, none⟩ 1 1 (rc (S, F + (k : Int), T, z)) rfl rfl (newsP wr) ?c2a (by decide) ?c3a ?c4a ?c5a (wr.heap.size + 1) ?c6a ?_))
        case c2a => exact rc_one _
        case c3a => unfold maxLen; omega
        case c4a => omega
        case c5a => first | omega | (simp; omega)
        case c6a => simp
        intro g' c' w5 hown' hgrow hwh hltg
        have HN : Hid (w5.ownsRow w.heap.size 31 4 (.slice (some ⟨g', 0, none⟩) (n + 1) c') (n + 1) (flatR (bvR S T F Z (k + 1)))) := Lib.hid (by rw [HY.out, flatR_app, flatR_one]; exact hown')
        have HN2 : Hid (n + 1 = (bvR S T F Z (k + 1)).length) := Lib.hid (by rw [HY.out, List.length_append, ← HLN.out]; rfl)
        have hos := hOn.size
        have HGB2 : Hid (g' = w.heap.size ∨ w6.heap.size ≤ g') := Lib.hid (by
          rcases hwh with h9 | h9
          · simp [Value.ownBlock] at h9; rw [← h9]; exact HGB.out
          · right; omega)
        have HON2 : Hid (Only w.heap.size w6 w5) := Lib.hid ((hOn.alloc (.cells #[.int .i64 S, .int .i64 (F + (k : Int)), .int .i64 T, .int .i64 z] 31)).grown_by hgrow HGB.out)
        clear hown' hgrow hwh hltg hown2 hlen
        go_wp2
        go_roundw
        case rel => exact ⟨k + 1, n + 1, g', c', by omega, by go_num, rfl, HN2, HN, HGB2, HON2.out⟩
        case measure => simp [RowKit.intOf]; omega
    · obtain rfl : k = Z.length := by omega
      have HF := Lib.hid (frR_own (w := w) (by have h1 := HW.out; rw [HLN.out] at h1; exact h1) (Nat.le_refl _))
      go_wp2
      go_ret2
      exact ⟨hK, some ⟨g, 0, none⟩, c, _, HF.out.2, HF.out.1, .inl ⟨S, T, F, Z, HBT.out, rfl, by rw [HLN.out]; rfl⟩⟩
end Go.Proofs.YtpdpcnblpcalaaaDoor
