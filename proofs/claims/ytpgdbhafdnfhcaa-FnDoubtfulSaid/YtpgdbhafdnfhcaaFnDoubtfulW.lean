/- P57: a doubtful value differs from those near it. -/
import Derived.Test.YtpgdbhafdnfhcaaDrSk
import Derived.Test.YtpgdbhafdnfhcaaDc
import Derived.Test.YtpgdbhafdnfhcaaDd
import Derived.Test.YtpgdbhafdnfhcaaHi
import Derived.Test.YtpgdbhafdnfhcaaNw
import Derived.Test.YtpgdbhafdnfhcaaFr
import Derived.LoopTactic
import Derived.IntWalk
namespace Go.Proofs.Ytpgdbhafdnfhcaa
open Go.RowKit
set_option linter.unusedVariables false

/-- The values of the first k sites that are near. -/
def dwN (ts : List R3) (vs near : List Int) : Nat → List Int
  | 0 => []
  | k + 1 => dwN ts vs near k ++ (if tS (ts.getD k t0) ∈ near ∧ vs.getD k 0 ≠ -9999 then [vs.getD k 0] else [])
theorem dwN_len (ts : List R3) (vs near : List Int) : ∀ k, (dwN ts vs near k).length ≤ k
  | 0 => by simp [dwN]
  | k + 1 => by
    have := dwN_len ts vs near k
    rw [dwN, List.length_append]
    split <;> simp <;> omega
theorem dwN_eq (ts : List R3) (vs near : List Int) : ∀ k, dwN ts vs near k = ((((List.range k).filter fun j => decide (tS (ts.getD j t0) ∈ near)).map fun j => vs.getD j 0).filter fun x => x != -9999)
  | 0 => by simp [dwN]
  | k + 1 => by
    rw [dwN, dwN_eq ts vs near k, List.range_succ, List.filter_append, List.map_append, List.filter_append]
    congr 1
    by_cases h1 : tS (ts.getD k t0) ∈ near
    · by_cases h2 : vs.getD k 0 = -9999
      · rw [if_neg (fun h => h.2 h2)]
        simp only [List.filter_cons, List.filter_nil, decide_eq_true h1, if_true, List.map_cons, List.map_nil, h2]
        simp
      · rw [if_pos ⟨h1, h2⟩]
        simp only [List.filter_cons, List.filter_nil, decide_eq_true h1, if_true, List.map_cons, List.map_nil]
        rw [if_pos (by simpa using h2)]
    · rw [if_neg (fun h => h1 h.1)]
      simp only [List.filter_cons, List.filter_nil, decide_eq_false h1]
      simp
theorem perm_same : ∀ {a b : List Nat}, a.Nodup → b.Nodup → (∀ x, x ∈ a ↔ x ∈ b) → a.Perm b
  | [], b, _, _, h => by
    cases b with
    | nil => exact List.Perm.nil
    | cons x b => have := (h x).2 List.mem_cons_self; simp at this
  | x :: a, b, ha, hb, h => by
    rw [List.nodup_cons] at ha
    have hx : x ∈ b := (h x).1 List.mem_cons_self
    obtain ⟨s, t, rfl⟩ := List.append_of_mem hx
    have hb' : (x :: (s ++ t)).Nodup := (List.perm_middle.nodup_iff).1 hb
    rw [List.nodup_cons] at hb'
    have ih : a.Perm (s ++ t) := perm_same ha.2 hb'.2 fun y => by
      have hy := h y
      simp only [List.mem_cons, List.mem_append] at hy ⊢
      constructor
      · intro hya
        rcases hy.1 (.inr hya) with h1 | h1 | h1
        · exact .inl h1
        · subst h1; exact absurd hya ha.1
        · exact .inr h1
      · intro hst
        have : y = x ∨ y ∈ a := hy.2 (hst.elim .inl fun h1 => .inr (.inr h1))
        rcases this with h1 | h1
        · subst h1; exact absurd (List.mem_append.2 hst) hb'.1
        · exact h1
    exact (List.Perm.cons x ih).trans List.perm_middle.symm
/-- The places of the nearest sites. -/
def nrJ (ts : List R3) (p mm : Nat) : List Nat := ((nrP ts p).take mm).map fun r => plc ts (tS r)
theorem nrJ_at {ts : List R3} {p mm : Nat} (hs : siB ts = true) (hp : p < ts.length) {r : R3} (hr : r ∈ (nrP ts p).take mm) : ∃ q, q < ts.length ∧ ts.getD q t0 = r ∧ plc ts (tS r) = q := by
  obtain ⟨q, hq, _, rfl⟩ := (nrP_mem hp).1 (List.mem_of_mem_take hr)
  exact ⟨q, hq, rfl, plc_self hs hq⟩
theorem nrJ_nodup {ts : List R3} {p mm : Nat} (hs : siB ts = true) (hp : p < ts.length) : (nrJ ts p mm).Nodup := by
  unfold nrJ
  rw [List.nodup_iff_pairwise_ne, List.pairwise_iff_getElem]
  intro i j hi hj hij
  rw [List.length_map] at hi hj
  rw [List.getElem_map, List.getElem_map]
  obtain ⟨q, hq, e1, e2⟩ := nrJ_at hs hp (List.getElem_mem hi)
  obtain ⟨q', hq', e1', e2'⟩ := nrJ_at hs hp (List.getElem_mem hj)
  rw [e2, e2']
  intro he
  subst he
  have hi' := hi
  have hj' := hj
  rw [List.length_take] at hi' hj'
  refine nrP_nodup hs hp (i := i) (j := j) hij (by omega) ?_
  have f1 : (nrP ts p).getD i t0 = ((nrP ts p).take mm)[i] := by rw [List.getElem_take]; simp [List.getD_eq_getElem?_getD, (show i < (nrP ts p).length by omega)]
  have f2 : (nrP ts p).getD j t0 = ((nrP ts p).take mm)[j] := by rw [List.getElem_take]; simp [List.getD_eq_getElem?_getD, (show j < (nrP ts p).length by omega)]
  rw [f1, f2, ← e1, ← e1']
theorem nrJ_mem {ts : List R3} {p mm : Nat} (hs : siB ts = true) (hp : p < ts.length) (j : Nat) : j ∈ nrJ ts p mm ↔ j < ts.length ∧ tS (ts.getD j t0) ∈ ((nrP ts p).take mm).map tS := by
  unfold nrJ
  rw [List.mem_map, List.mem_map]
  constructor
  · rintro ⟨r, hr, rfl⟩
    obtain ⟨q, hq, e1, e2⟩ := nrJ_at hs hp hr
    rw [e2]
    exact ⟨hq, r, hr, by rw [e1]⟩
  · rintro ⟨hj, r, hr, he⟩
    obtain ⟨q, hq, e1, e2⟩ := nrJ_at hs hp hr
    refine ⟨r, hr, ?_⟩
    rw [e2]
    rw [← e1] at he
    exact si_inj hs hq hj he
/-- What the law gathers is what the program takes the median of. -/
theorem dw_perm {ts : List R3} {vs : List Int} {p mm : Nat} (hs : siB ts = true) (hp : p < ts.length) : (dwN ts vs (((nrP ts p).take mm).map tS) ts.length).Perm (knl (nvL ts vs p mm)) := by
  rw [dwN_eq]
  have e : nvL ts vs p mm = (nrJ ts p mm).map fun j => vs.getD j 0 := by
    rw [nvL, nrJ, List.map_map, List.map_map]; rfl
  rw [knl, e]
  refine ((perm_same ?_ (nrJ_nodup hs hp) fun j => ?_).map _).filter _
  · exact (List.nodup_range).filter _
  · rw [nrJ_mem hs hp, List.mem_filter, List.mem_range, decide_eq_true_eq]
theorem dw_knl (ts : List R3) (vs near : List Int) (k : Nat) : knl (dwN ts vs near k) = dwN ts vs near k := by
  rw [dwN_eq, knl, List.filter_filter]
  simp
theorem dw_mem {ts : List R3} {vs near : List Int} {x : Int} : ∀ {k : Nat}, k ≤ vs.length → x ∈ dwN ts vs near k → x ∈ vs
  | 0, _, h => by simp [dwN] at h
  | k + 1, hk, h => by
    rw [dwN, List.mem_append] at h
    rcases h with h | h
    · exact dw_mem (by omega) h
    · split at h
      · rw [List.mem_singleton.1 h]; exact getD_mem (by omega)
      · simp at h
/-- What the law says of site p. -/
def dwB (R : List Int) (v most : Int) : Bool := decide (2 ≤ R.length) && (v != -9999) && decide (most < dist v (mdL R))
theorem dwB_dbB {ts : List R3} {vs : List Int} {p mm : Nat} {most : Int} (hs : siB ts = true) (hp : p < ts.length) : dwB (dwN ts vs (((nrP ts p).take mm).map tS) ts.length) (vs.getD p 0) most = dbB ts vs mm most p := by
  have hP := dw_perm (vs := vs) (mm := mm) hs hp
  unfold dwB dbB jdB jdV jdB
  rw [hP.length_eq, mdL_perm hP]
  by_cases h : 2 ≤ (knl (nvL ts vs p mm)).length
  · rw [decide_eq_true h, if_pos rfl]
  · rw [decide_eq_false h]; rfl
theorem db_mem {ts : List R3} {vs : List Int} {mm : Nat} {most : Int} (hs : siB ts = true) {p : Nat} (hp : p < ts.length) : ∀ k, k ≤ ts.length → (tS (ts.getD p t0) ∈ dbN ts vs mm most k ↔ p < k ∧ dbB ts vs mm most p = true)
  | 0, _ => by simp [dbN]
  | k + 1, hk => by
    rw [dbN, List.mem_append, db_mem hs hp k (by omega)]
    constructor
    · rintro (h | h)
      · exact ⟨by omega, h.2⟩
      · split at h
        · rename_i hb
          have := si_inj hs hp (show k < ts.length by omega) (List.mem_singleton.1 h)
          subst this
          exact ⟨by omega, hb⟩
        · simp at h
    · rintro ⟨h1, h2⟩
      by_cases he : p < k
      · exact .inl ⟨he, h2⟩
      · obtain rfl : p = k := by omega
        right; rw [if_pos h2]; exact List.mem_singleton.2 rfl
/-- A doubtful one differs from the median of what the law gathers. -/
theorem dw_says {ts : List R3} {vs : List Int} {many most : Int} (h : dOk ts vs many most = true) {p : Nat} (hp : p < ts.length) :
    decide (tS (ts.getD p t0) ∈ dbL ts vs many most) = dwB (dwN ts vs (nrL ts (tS (ts.getD p t0)) many) ts.length) (vs.getD p 0) most := by
  obtain ⟨hs, hq, hl, ⟨m0, m6⟩, _⟩ := dOk_facts h
  have hok : nrOk ts (tS (ts.getD p t0)) many = true := by
    rw [nrOk, hs, plc_self hs hp, decide_eq_true hp]; simp [inB]; omega
  rw [nrL_yes hok, plc_self hs hp, dwB_dbB hs hp, dbL_yes h, Bool.eq_iff_iff, decide_eq_true_eq, db_mem hs hp _ (Nat.le_refl _)]
  exact ⟨fun h => h.2, fun h => ⟨hp, h⟩⟩
theorem dw_mo {ts : List R3} {vs near : List Int} (hq : ∀ x ∈ vs, qB x = true) (hl : vs.length = ts.length) (h6 : ts.length ≤ 6) (h2 : 2 ≤ (dwN ts vs near ts.length).length) : moB (dwN ts vs near ts.length) = true ∧ moV (dwN ts vs near ts.length) = mdL (dwN ts vs near ts.length) := by
  have hlen := dwN_len ts vs near ts.length
  have h1 : moB (dwN ts vs near ts.length) = true := by
    rw [moB, dw_knl, decide_eq_true (show 0 < (dwN ts vs near ts.length).length by omega), Bool.and_true]
    refine sq_all ?_ ⟨by omega, by omega⟩
    rw [List.all_eq_true]
    exact fun x hx => hq x (dw_mem (by omega) hx)
  exact ⟨h1, by rw [moV_yes h1, dw_knl]⟩
set_option maxRecDepth 100000 in
set_option maxHeartbeats 6400000 in
theorem walk_FnDoubtful (a0 : Option Addr) (len0 cap0 : Nat) (z0 : List Int) (w : World) (w0 : IsRow .u8 w a0 len0 cap0 z0) :
    Calls Try.prog 11 #[.slice a0 len0 cap0] w fun e w' => e = .returned (.bool true) ∧ Below w.heap.size w w' := by
  have ha := code_of_row w0
  obtain ⟨hl0, hm0⟩ := ha.1
  unfold maxLen at hm0
  clear w0
  by_cases h : len0 ≤ 1048576
  case' neg =>
    have hd : decide (1048576 < (len0 : Int)) = true := by simp; omega
    go_enter Try.func11, Try.ntmps11
    go_wp2
    go_ret
    exact ⟨rfl, Below.refl _ _⟩
  have hd : decide (1048576 < (len0 : Int)) = false := by simp; omega
  go_enter Try.func11, Try.ntmps11
  obtain ⟨i0, hi0, hz0, hz1, hz2⟩ := info_parts infoInt'
  go_wp2_with fail
  refine (drawDoubtfulOf a0 len0 cap0 _ ha).mono ?_
  rintro e w1 ⟨g0, c0, ts, b, cv, vs, many, most, rfl, hl7, -, hS1, hv7, -, -, hV1, ⟨mn, mx⟩, ⟨sn, sx⟩, k1⟩
  clear ha
  have hz := dbL_len ts vs many most
  go_wp2_with fail
  refine (db_impl _ c0 ts _ cv vs many most _ hS1 (by omega) hV1 (by omega)).mono ?_
  rintro e w2 ⟨p, q, rfl, -, hF2, k2⟩
  go_wp2_with fail
  refine (db_spec _ c0 ts _ cv vs many most _ (hS1.keep k2) (by omega) (hV1.keep k2) (by omega) (by omega)).mono ?_
  rintro e w3 ⟨g3, q3, rfl, -, hW3, hg3, hl3, k3⟩
  have K3 : Keep w w3 := (k1.trans k2).trans k3
  have hO := hF2.ls.keep k3
  have hS3 := (hS1.keep k2).keep k3
  have hV3 := (hV1.keep k2).keep k3
  have HSE := Lib.hid (sI_eq p (some ⟨g3, 0, none⟩) q q3 (dbL ts vs many most) w3 hO hW3.ls (by omega))
  have HOKF : Hid (∀ h : dOk ts vs many most = true, (∀ x ∈ vs, qB x = true) ∧ vs.length = ts.length ∧ ts.length ≤ 6) := Lib.hid (fun h => by
    obtain ⟨h1, h2, h3, _, _⟩ := dOk_facts h
    exact ⟨fun x hx => List.all_eq_true.1 (sq_facts h2).1 x hx, h3, si_len h1⟩)
  clear hF2 hW3 hS1 hV1 k1 k2 k3
  go_wp2_with fail
  refine HSE.out.mono ?_
  rintro e w4 ⟨rfl, k4⟩
  have K4 : Keep w w4 := K3.trans k4
  by_cases h0 : dbL ts vs many most = []
  · have hz0' : (dbL ts vs many most).length ≤ 0 := Nat.le_of_eq (congrArg List.length h0)
    clear HSE hO h0
    generalize dbL ts vs many most = L at *
    have hn0 : ¬ 0 < (L.length : Int) := by omega
    go_wp2_with fail
    go_loop [9] (fun i => i = .int .i64 0) (fun _ => 0)
    case atStart => rfl
    case round =>
      subst hrel
      by_cases x1 : 0 < (ts.length : Int)
      · by_cases x2 : 0 < (vs.length : Int)
        · go_wp2
          go_ret
          exact ⟨rfl, K4⟩
        · go_wp2
          go_ret
          exact ⟨rfl, K4⟩
      · go_wp2
        go_ret
        exact ⟨rfl, K4⟩
  have hok : dOk ts vs many most = true := by
    cases h : dOk ts vs many most
    · exact absurd (dbL_no h) h0
    · rfl
  have hL1 : 0 < ((dbL ts vs many most).length : Int) := by have := List.length_pos_iff.2 h0; omega
  obtain ⟨hqv, hlv, hl6⟩ := HOKF.out hok
  have HQV := Lib.hid hqv
  have HLV := Lib.hid hlv
  have HSAY := Lib.hid (fun p hp => dw_says (p := p) hok hp)
  have HO := Lib.hid (hO.keep k4)
  have HS := Lib.hid (hS3.keep k4)
  have HV := Lib.hid (hV3.keep k4)
  have HNR := Lib.hid (fun st W (k : Keep w4 W) => nr_impl _ c0 ts st many W (HS.out.keep k) (by omega))
  have HMO := Lib.hid (fun (near : List Int) (h2 : 2 ≤ (dwN ts vs near ts.length).length) => dw_mo (near := near) hqv hlv hl6 h2)
  have HML := Lib.hid (fun (near : List Int) (h2 : 2 ≤ (dwN ts vs near ts.length).length) => qB_wide (hqv _ (dw_mem (k := ts.length) (near := near) (by omega) (mdL_mem (L := dwN ts vs near ts.length) (by omega)))))
  have hvl1 : vs.length ≤ ts.length := by omega
  have hvl2 : ts.length ≤ vs.length := by omega
  clear h0 hok hO hS3 hV3 HOKF HSE hqv hlv
  generalize dbL ts vs many most = L at *
  go_wp2_with fail
  go_loopw [9] (fun i wr => ∃ k : Nat, k ≤ ts.length ∧ i = .int .i64 k ∧ Keep w4 wr) (fun i _ => ts.length - (intOf i).toNat)
  case atStart => exact ⟨0, by omega, rfl, Keep.refl _⟩
  case round =>
    obtain ⟨k, hk, rfl, hK⟩ := hrel
    by_cases hlt : k < ts.length
    case' neg =>
      have hn1 : ¬ (k : Int) < (ts.length : Int) := by omega
      go_wp2
      go_ret
      exact ⟨rfl, K4.trans hK⟩
    have hn1 : (k : Int) < (ts.length : Int) := by omega
    have hn2 : (k : Int) < (vs.length : Int) := by omega
    have hkz : (0 : Int) ≤ (k : Int) := by omega
    obtain ⟨bt, ot, het, -, ⟨t0c, -, -⟩⟩ := (HS.out.keep hK).at_ hlt
    injection het with het
    injection het with het1 het2 _
    subst het1
    subst het2
    rw [Nat.zero_add] at t0c
    have HSK := Lib.hid (HSAY.out k hlt)
    obtain ⟨st, hst⟩ : ∃ st, tS (ts.getD k t0) = st := ⟨_, rfl⟩
    rw [hst] at t0c HSK
    clear hst
    have HN1 := Lib.hid (HNR.out st wr hK)
    have HNL := Lib.hid (nrL_len ts st many)
    have HMO1 := Lib.hid (HMO.out (nrL ts st many))
    have HML1 := Lib.hid (HML.out (nrL ts st many))
    generalize nrL ts st many = near at *
    go_wp2_with fail
    refine HN1.out.mono ?_
    rintro e w6 ⟨pn, qn, rfl, -, hFn, k6⟩
    have HLN := Lib.hid hFn.ls
    have K6 := hK.trans k6
    have hlen := HNL.out
    have HOf : Hid (OwnI (w6.alloc (.cells #[] 3)) w6.heap.size (.slice (some ⟨w6.heap.size, 0, none⟩) 0 0) []) := Lib.hid (World.ownsRow_made w6 #[] 0 (Nat.le_refl _) (by unfold maxLen; omega) rfl)
    clear hFn HN1
    go_wp2_with fail
    go_loopw [11, 12] (fun v i wr => ∃ (j x c : Nat), j ≤ ts.length ∧ i = .int .i64 j ∧ v = .slice (some ⟨x, 0, none⟩) (dwN ts vs near j).length c ∧ Hid (OwnI wr w6.heap.size (.slice (some ⟨x, 0, none⟩) (dwN ts vs near j).length c) (dwN ts vs near j)) ∧ Keep w6 wr) (fun _ i _ => ts.length - (intOf i).toNat)
    case atStart => exact ⟨0, w6.heap.size, 0, by omega, rfl, rfl, HOf, (Keep.refl w6).alloc _⟩
    case round =>
      obtain ⟨j, x, c, hj, rfl, rfl, HOw, hKj⟩ := hrel
      clear HOf
      have hzj := hKj.size
      by_cases hjt : j < ts.length
      · obtain ⟨bt2, ot2, het, -, ⟨s0c, -, -⟩⟩ := (HS.out.keep (K6.trans hKj)).at_ hjt
        injection het with het
        injection het with het1 het2 _
        subst het1
        subst het2
        rw [Nat.zero_add] at s0c
        obtain ⟨bv, ov, rfl, -, vc⟩ := (HV.out.keep (K6.trans hKj)).at_ (show j < vs.length by omega)
        have HD : Hid (dwN ts vs near (j + 1) = dwN ts vs near j ++ (if tS (ts.getD j t0) ∈ near ∧ vs.getD j 0 ≠ -9999 then [vs.getD j 0] else [])) := Lib.hid rfl
        have hdl := dwN_len ts vs near j
        obtain ⟨R2, hR2⟩ : ∃ R2, dwN ts vs near (j + 1) = R2 := ⟨_, rfl⟩
        have HR2 := Lib.hid hR2
        rw [hR2] at HD
        generalize tS (ts.getD j t0) = s at s0c HD
        generalize vs.getD j 0 = y at vc HD
        generalize dwN ts vs near j = R at *
        have j0 : (0 : Int) ≤ (j : Int) := by omega
        have j1 : (j : Int) < (ts.length : Int) := by omega
        have j2 : (j : Int) < (vs.length : Int) := by omega
        have HH := Lib.hid (hasI_any pn qn near s wr (HLN.out.keep hKj) (by omega))
        clear hR2
        by_cases hs : s ∈ near
        · rw [decide_eq_true hs] at HH
          by_cases hy : y = -9999
          · subst hy
            have HR3 : Hid (R2 = R) := Lib.hid (by rw [HD.out, if_neg (fun h => h.2 rfl), List.append_nil])
            clear HD hs
            go_wp2_with fail
            refine HH.out.mono ?_
            rintro e w7 ⟨rfl, rfl⟩
            go_wp2
            go_roundw
            case rel => exact ⟨j + 1, x, c, by omega, by go_num, by rw [HR2.out, HR3.out], by rw [HR2.out, HR3.out]; exact HOw, hKj⟩
            case measure => simp [intOf]; omega
          · have hyb : (y != -9999) = true := bne_iff_ne.2 hy
            have HR3 : Hid (R2 = R ++ [y]) := Lib.hid (by rw [HD.out, if_pos ⟨hs, hy⟩])
            have hown : wr.ownsRow w6.heap.size 3 1 (.slice (some ⟨x, 0, none⟩) R.length c) R.length (R.map (Value.int .i64)) := HOw.out
            obtain ⟨l, hl⟩ : ∃ l, R.length = l := ⟨_, rfl⟩
            have HLL := Lib.hid hl
            rw [hl] at hown hdl ⊢
            clear HD hs hy hl HOw
            go_wp2_with fail
            refine HH.out.mono ?_
            rintro e w7 ⟨rfl, rfl⟩
            go_wp2_with (at_builtin; refine wpList_append_own _ rfl _ _ 43 rfl w6.heap.size 3 i0 (.int .i64 0) 1 8 Try.underlying43 hi0 hz0 hz1 hz2 rfl (by decide) _ _ _ rfl (hown.alloc _) ⟨wr.heap.size, 0, none⟩ 1 1 [.int .i64 y] rfl rfl ?c1a ?c2a ?c3a ?c4a ?c5a ?_)
            try case c1a =>
              intro j u hj
              match j, hj with
              | 0, hj => simp at hj; subst hj; simp [Addr.add]
            case c2a => first | rfl | (intro u hu; simp at hu; subst hu; rfl)
            case c3a => unfold maxLen; omega
            case c4a => omega
            case c5a => first | omega | (simp; omega)
            intro v' w9 hown' hgrow hnil
            have HK2 : Hid (Keep w6 w9) := Lib.hid (Below.grown (hKj.alloc (.cells #[.int .i64 y] 3)) hgrow (hKj.alloc (.cells #[.int .i64 y] 3)).size (fun r hr => (hown.lt r hr).1))
            obtain ⟨g', c', rfl, hbg, hlg⟩ := hown'.form (by omega)
            have HN9 : Hid (OwnI w9 w6.heap.size (.slice (some ⟨g', 0, none⟩) R2.length c') R2) := Lib.hid (by unfold OwnI; rw [HR3.out, List.length_append, List.length_singleton, HLL.out]; simpa using hown')
            clear hown' hgrow hnil hown
            go_wp2
            go_roundw
            case rel => exact ⟨j + 1, g', c', by omega, by go_num, by rw [HR2.out, HR3.out, List.length_append, List.length_singleton, HLL.out], by rw [HR2.out]; exact HN9, HK2.out⟩
            case measure => simp [intOf]; omega
        · rw [decide_eq_false hs] at HH
          have HR3 : Hid (R2 = R) := Lib.hid (by rw [HD.out, if_neg (fun h => hs h.1), List.append_nil])
          clear HD hs
          go_wp2_with fail
          refine HH.out.mono ?_
          rintro e w7 ⟨rfl, rfl⟩
          go_wp2
          go_roundw
          case rel => exact ⟨j + 1, x, c, by omega, by go_num, by rw [HR2.out, HR3.out], by rw [HR2.out, HR3.out]; exact HOw, hKj⟩
          case measure => simp [intOf]; omega
      · obtain rfl : j = ts.length := by omega
        have hdl := dwN_len ts vs near ts.length
        generalize dwN ts vs near ts.length = R at *
        obtain ⟨_, _, hsl, hcx, hLR⟩ := HOw.out.lsc
        injection hsl with e1 e2 e3
        clear e2
        subst e1; subst e3
        have HM := Lib.hid (mo_impl (some ⟨x, 0, none⟩) c R wr hLR (by omega))
        have KJ := K6.trans hKj
        obtain ⟨bv, ov, rfl, -, vc⟩ := (HV.out.keep KJ).at_ (show k < vs.length by omega)
        have s0c := (k6.trans hKj).cell t0c
        have hqy := HQV.out _ (getD_mem (show k < vs.length by omega))
        obtain ⟨y0, y1⟩ := qB_wide hqy
        clear hqy hcx hLR t0c HNL HLN HOw
        have HSK2 : Hid (decide (st ∈ L) = dwB R (vs.getD k 0) most) := HSK
        have HIN := Lib.hid (fun W (kk : Keep w4 W) => hasI_any p q L st W (HO.out.keep kk) (by omega))
        rw [HSK2.out] at HIN
        have KJ9 := Lib.hid (K4.trans KJ)
        generalize vs.getD k 0 = y at *
        have HDW : Hid (dwB R y most = (decide (2 ≤ R.length) && (y != -9999) && decide (most < dist y (mdL R)))) := Lib.hid rfl
        clear HSK HSK2
        by_cases h2 : 2 ≤ R.length
        · obtain ⟨e1, e2⟩ := HMO1.out h2
          obtain ⟨m0, m1⟩ := HML1.out h2
          rw [e1, e2] at HM
          have d2 : decide (2 ≤ (R.length : Int)) = true := decide_eq_true (by omega)
          have HDW2 : Hid (dwB R y most = ((y != -9999) && decide (most < dist y (mdL R)))) := Lib.hid (by rw [HDW.out, decide_eq_true h2, Bool.true_and])
          generalize mdL R = m at *
          clear e1 e2 HMO1 HML1 HDW
          have hs1 : IntKind.i64.wrap (y - m) = y - m := IntWalk.i64_in _ (by omega)
          have hs2 : IntKind.i64.wrap (m - y) = m - y := IntWalk.i64_in _ (by omega)
          by_cases hy : y = -9999
          · subst hy
            have HF : Hid (dwB R (-9999) most = false) := Lib.hid (by rw [HDW2.out]; rfl)
            rw [HF.out] at HIN
            go_wp2_with fail
            refine HM.out.mono ?_
            rintro e w9 ⟨rfl, k9⟩
            have vc9 := k9.cell vc
            have sc9 := k9.cell s0c
            go_wp2_with fail
            refine (HIN.out _ (KJ.trans k9)).mono ?_
            rintro e w10 ⟨rfl, rfl⟩
            go_wp2
            go_roundw
            case rel => exact ⟨k + 1, by omega, by go_num, KJ.trans k9⟩
            case measure => simp [intOf]; omega
          · have hyb : (y != -9999) = true := bne_iff_ne.2 hy
            have hcase : (most < y - m ∧ dwB R y most = true) ∨ (¬ most < y - m ∧ most < m - y ∧ dwB R y most = true) ∨ (¬ most < y - m ∧ ¬ most < m - y ∧ dwB R y most = false) := by
              rw [HDW2.out, hyb, Bool.true_and]
              unfold dist
              by_cases a1 : most < y - m
              · exact .inl ⟨a1, decide_eq_true (by split <;> omega)⟩
              · by_cases a2 : most < m - y
                · exact .inr (.inl ⟨a1, a2, decide_eq_true (by split <;> omega)⟩)
                · exact .inr (.inr ⟨a1, a2, decide_eq_false (by split <;> omega)⟩)
            clear hy
            rcases hcase with ⟨a1, a3⟩ | ⟨a1, a2, a3⟩ | ⟨a1, a2, a3⟩
            all_goals
              rw [a3] at HIN
              clear a3
              go_wp2_with fail
              refine HM.out.mono ?_
              rintro e w9 ⟨rfl, k9⟩
              have vc9 := k9.cell vc
              have sc9 := k9.cell s0c
              go_wp2_with fail
              refine (HIN.out _ (KJ.trans k9)).mono ?_
              rintro e w10 ⟨rfl, rfl⟩
              go_wp2
              go_roundw
              case rel => exact ⟨k + 1, by omega, by go_num, KJ.trans k9⟩
              case measure => simp [intOf]; omega
        · have d2 : decide (2 ≤ (R.length : Int)) = false := decide_eq_false (by omega)
          have HF : Hid (dwB R y most = false) := Lib.hid (by rw [HDW.out, decide_eq_false h2]; rfl)
          rw [HF.out] at HIN
          generalize moV R = m at *
          clear HMO1 HML1 h2 HDW
          rcases Bool.eq_false_or_eq_true (moB R) with h9 | h9
          all_goals
            rw [h9] at HM
            clear h9
            go_wp2_with fail
            refine HM.out.mono ?_
            rintro e w9 ⟨rfl, k9⟩
            have vc9 := k9.cell vc
            have sc9 := k9.cell s0c
            go_wp2_with fail
            refine (HIN.out _ (KJ.trans k9)).mono ?_
            rintro e w10 ⟨rfl, rfl⟩
            go_wp2
            go_roundw
            case rel => exact ⟨k + 1, by omega, by go_num, KJ.trans k9⟩
            case measure => simp [intOf]; omega

end Go.Proofs.Ytpgdbhafdnfhcaa
