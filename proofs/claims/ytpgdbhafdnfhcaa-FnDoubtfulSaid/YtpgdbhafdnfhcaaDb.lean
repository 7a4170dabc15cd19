/- The median of the values near a station. -/
import Derived.Test.YtpgdbhafdnfhcaaNw
import Derived.Test.YtpgdbhafdnfhcaaMd
import Derived.Test.YtpgdbhafdnfhcaaDrSq
namespace Go.Proofs.Ytpgdbhafdnfhcaa
open Go.RowKit
set_option linter.unusedVariables false

/-- The values of the nearest sites. -/
def nvL (ts : List R3) (vs : List Int) (p mm : Nat) : List Int := (((nrP ts p).take mm).map tS).map fun o => vs.getD (plc ts o) 0
theorem nvL_of {ts : List R3} {vs : List Int} {st : Int} {mm : Nat} (h : nrOk ts st (mm : Int) = true) : nvL ts vs (plc ts st) mm = (nrL ts st (mm : Int)).map fun o => vs.getD (plc ts o) 0 := by
  rw [nvL, nrL_yes h, Int.toNat_natCast]
theorem nvL_len (ts : List R3) (vs : List Int) (p mm : Nat) : (nvL ts vs p mm).length ≤ mm := by
  rw [nvL, List.length_map, List.length_map, List.length_take]; omega
theorem nvL_valid {ts : List R3} {vs : List Int} {p mm : Nat} (hs : siB ts = true) (hp : p < ts.length) (hm : mm ≤ 6) (hl : vs.length = ts.length) (hv : ∀ x ∈ vs, qB x = true) (h1 : 1 ≤ (nvL ts vs p mm).length) : sqB (nvL ts vs p mm) = true := by
  have h2 := nvL_len ts vs p mm
  refine sq_all ?_ ⟨h1, by omega⟩
  rw [List.all_eq_true]
  intro x hx
  rw [nvL, List.map_map, List.mem_map] at hx
  obtain ⟨r, hr, rfl⟩ := hx
  obtain ⟨i, hi, _, rfl⟩ := (nrP_mem hp).1 (List.mem_of_mem_take hr)
  refine hv _ ?_
  show vs.getD (plc ts (tS (ts.getD i t0))) 0 ∈ vs
  rw [plc_self hs hi]
  exact getD_mem (by omega)
/-- Whether site p is judged, and by which value. -/
def jdB (N : List Int) : Bool := decide (2 ≤ (knl N).length)
def jdV (N : List Int) : Int := if jdB N then mdL (knl N) else 0
set_option maxRecDepth 100000 in
set_option maxHeartbeats 4000000 in
theorem mnear (a : Option Addr) (cap : Nat) (ts : List R3) (b : Option Addr) (cb : Nat) (vs : List Int) (st : Int) (mm : Nat) (w : World) (h : Ss w a ts) (hv : Ls w b vs) (hlv : vs.length = ts.length) (hok : nrOk ts st (mm : Int) = true) (hq : ∀ x ∈ vs, qB x = true) :
    Calls Try.prog 87 #[.slice a ts.length cap, .slice b vs.length cb, .int .i64 st, .int .i64 (mm : Int)] w fun e w' => e = .returned (.tuple #[.int .i64 (jdV (nvL ts vs (plc ts st) mm)), .bool (jdB (nvL ts vs (plc ts st) mm))]) ∧ Keep w w' := by
  obtain ⟨i0, hi, hz0, hz1, hz2⟩ := info_parts infoInt'
  obtain ⟨hs, hp, _, m6⟩ := nrOk_facts hok
  have hl6 := si_len hs
  have HOK := Lib.hid hok
  have HS := Lib.hid hs
  have HNV := Lib.hid (nvL_of (vs := vs) hok)
  have HVL := Lib.hid (fun h1 => nvL_valid (mm := mm) hs hp (by omega) hlv hq h1)
  have hlz := nrL_len ts st (mm : Int)
  have HLV := Lib.hid hlv
  have hlv1 : ts.length ≤ vs.length := by omega
  have HH := Lib.hid h
  have HV := Lib.hid hv
  have HJ : Hid (∀ N : List Int, jdB N = decide (2 ≤ (knl N).length)) := Lib.hid fun _ => rfl
  have HJV : Hid (∀ N : List Int, jdV N = if jdB N then mdL (knl N) else 0) := Lib.hid fun _ => rfl
  have HNR := Lib.hid (nr_impl a cap ts st (mm : Int) w h (by omega))
  have HPA := Lib.hid (fun W (k : Keep w W) o => place_any a cap ts o W (h.keep k) (by omega))
  have HNA := Lib.hid (fun i hi => nr_at (i := i) hok hi)
  clear hok hs hlv hq h hv
  generalize nvL ts vs (plc ts st) mm = N at *
  go_enter Try.func87, Try.ntmps87
  go_wp2_with fail
  refine HNR.out.mono ?_
  rintro e w1 ⟨p1, q1, rfl, hpq, hF, k1⟩
  have HO := Lib.hid hF.ls
  have HK1 := Lib.hid k1
  obtain ⟨f, hf⟩ : ∃ f : Int → Int, (fun o => vs.getD (plc ts o) 0) = f := ⟨_, rfl⟩
  have HFF : Hid (∀ o, f o = vs.getD (plc ts o) 0) := Lib.hid (fun o => by rw [← hf])
  rw [hf] at HNV
  clear hf hF HNR k1
  generalize nrL ts st (mm : Int) = L at *
  go_wp2_with fail
  go_loopw [10, 18] (fun u i wr => ∃ (k : Nat) (x : Option Addr) (cx : Nat), k ≤ L.length ∧ i = .int .i64 k ∧ u = .slice x k cx ∧ k ≤ cx ∧ Hid (OwnI wr w1.heap.size (.slice x k cx) ((L.take k).map f)) ∧ Keep w1 wr) (fun _ i _ => L.length - (intOf i).toNat)
  case atStart => exact ⟨0, none, 0, by omega, rfl, rfl, by omega, Lib.hid (World.ownsRow_nil _ _ _ _), Keep.refl _⟩
  case round =>
    obtain ⟨k, x, cx, hk, rfl, rfl, hkc, HOw, hK⟩ := hrel
    have hKw := HK1.out.trans hK
    by_cases hlt : k < L.length
    case' neg =>
      obtain rfl : k = L.length := by omega
      have hN : Hid ((L.take L.length).map f = N) := Lib.hid (by rw [List.take_length]; exact HNV.out.symm)
      rw [hN.out] at HOw
      have HNL : Hid (N.length = L.length) := Lib.hid (by rw [HNV.out, List.length_map])
      obtain ⟨x', cx', hv', hcx', hLs⟩ := HOw.out.lsc
      injection hv' with e1 e2 e3
      clear e2
      subst e1; subst e3
      have HSK := Lib.hid (sk_impl x cx N wr hLs (by rw [HNL.out]; omega))
      have HMO := Lib.hid (mo_impl x cx N wr hLs (by rw [HNL.out]; omega))
      rw [HNL.out] at HSK HMO
      by_cases hj : 2 ≤ (knl N).length
      · have hkl : (knl N).length ≤ N.length := List.length_filter_le _ _
        have hsq := HVL.out (by omega)
        have hB : moB N = true := by rw [moB, hsq]; simp only [Bool.true_and]; exact decide_eq_true (by omega)
        have HJ1 : Hid (jdB N = true) := Lib.hid (by rw [HJ.out]; exact decide_eq_true hj)
        have HJ2 : Hid (jdV N = mdL (knl N)) := Lib.hid (by rw [HJV.out, HJ1.out]; rfl)
        rw [sk_yes hsq, knN_all] at HSK
        rw [hB, moV_yes hB] at HMO
        have hj2 : ¬ ((knl N).length : Int) < 2 := by omega
        clear hB hsq hcx'
        generalize mdL (knl N) = md at *
        generalize (knl N).length = kl at *
        go_wp2_with fail
        refine HSK.out.mono ?_
        rintro e w2 ⟨rfl, rfl⟩
        go_wp2_with fail
        refine HMO.out.mono ?_
        rintro e w3 ⟨rfl, k3⟩
        go_wp2
        go_ret2
        exact ⟨retIB HJ2.out.symm HJ1.out.symm, hKw.trans k3⟩
      · have HJ1 : Hid (jdB N = false) := Lib.hid (by rw [HJ.out]; exact decide_eq_false hj)
        have HJ2 : Hid (jdV N = 0) := Lib.hid (by rw [HJV.out, HJ1.out]; rfl)
        have hsk : sk N < 2 := by
          rcases Bool.eq_false_or_eq_true (sqB N) with h9 | h9
          · rw [sk_yes h9, knN_all]; omega
          · rw [sk_no h9]; omega
        clear hj hcx'
        generalize sk N = kl at *
        go_wp2_with fail
        refine HSK.out.mono ?_
        rintro e w2 ⟨rfl, rfl⟩
        go_wp2
        go_ret2
        exact ⟨retIB HJ2.out.symm HJ1.out.symm, hKw⟩
    obtain ⟨pb, po, rfl, _, ck⟩ := (HO.out.keep hK).at_ hlt
    obtain ⟨q, hq, -, -, -, hpl, -, -⟩ := HNA.out k hlt
    have HFO := Lib.hid (HFF.out (L.getD k 0))
    have HPI : Hid (plI ts (L.getD k 0) = (q : Int)) := Lib.hid (by rw [plI, hpl, if_pos hq])
    rw [hpl] at HFO
    have HTK : Hid ((L.take (k + 1)).map f = (L.take k).map f ++ [f (L.getD k 0)]) := Lib.hid (by
      rw [List.take_succ_eq_append_getElem hlt, List.map_append]
      simp [List.getD_eq_getElem?_getD, hlt])
    rw [HFO.out] at HTK
    have HPK := Lib.hid (HPA.out wr hKw (L.getD k 0))
    rw [HPI.out] at HPK
    obtain ⟨vb, vo, rfl, _, cv0⟩ := (HV.out.keep hKw).all (by omega)
    have hqv : q < vs.length := by omega
    have hc0 := Lib.hid cv0
    have q0 : (0 : Int) ≤ (q : Int) := by omega
    have q1' : (q : Int) < (vs.length : Int) := by omega
    clear hpl HFO HPI cv0
    generalize L.getD k 0 = o at *
    go_wp2_with fail
    refine HPK.out.mono ?_
    rintro e w2 ⟨rfl, k2⟩
    have cv := k2.cell (hc0.out q hqv)
    have HO2 := Lib.hid (HOw.out.keep k2)
    have hK2 := hK.trans k2
    obtain ⟨LL, hLL⟩ : ∃ LL, (L.take k).map f = LL := ⟨_, rfl⟩
    have HLL : Hid (LL.length = k) := Lib.hid (by rw [← hLL, List.length_map, List.length_take]; omega)
    rw [hLL] at HO2 HTK
    clear hLL HOw
    have hown : w2.ownsRow w1.heap.size 3 1 (.slice x k cx) k (LL.map (Value.int .i64)) := by
      have h9 : w2.ownsRow w1.heap.size 3 1 (.slice x k cx) LL.length (LL.map (Value.int .i64)) := HO2.out
      rwa [HLL.out] at h9
    generalize vs.getD q 0 = v at *
    have hbs := hK2.size
    clear HO2
    go_wp2_with (at_builtin; refine wpList_append_own _ rfl _ _ 43 rfl w1.heap.size 3 i0 (.int .i64 0) 1 8 Try.underlying43 hi hz0 hz1 hz2 rfl (by decide) _ _ _ rfl (hown.alloc _) ⟨w2.heap.size, 0, none⟩ 1 1 [.int .i64 v] rfl rfl ?c1a ?c2a ?c3a ?c4a ?c5a ?_)
    case c1a =>
      intro j u hj
      match j, hj with
      | 0, hj => simp at hj; subst hj; simp [Addr.add]
    case c2a => first | rfl | (intro u hu; simp at hu; subst hu; rfl)
    case c3a => unfold maxLen; omega
    case c4a => omega
    case c5a => first | omega | (simp; omega)
    intro v' w6 hown' hgrow hnil
    have hrow : ∀ g', (Value.slice x k cx).ownBlock = some g' → w1.heap.size ≤ g' := fun g' hg => (hown.lt g' hg).1
    obtain ⟨x', cx', rfl, hbx, hlx⟩ := hown'.form (by omega)
    have hcx := own_capI hown'
    have HO6 : Hid (OwnI w6 w1.heap.size (.slice (some ⟨x', 0, none⟩) (k + 1) cx') ((L.take (k + 1)).map f)) := Lib.hid (by
      unfold OwnI
      rw [HTK.out, List.length_append, HLL.out, List.map_append]
      exact hown')
    have HK6 := Lib.hid ((hK2.alloc (.cells #[.int .i64 v] 3)).grown2 hgrow hrow)
    clear hown' hgrow hnil hown hrow
    go_wp2
    go_roundw
    case rel => exact ⟨k + 1, _, cx', by omega, by go_num, rfl, hcx, HO6, HK6.out⟩
    case measure => simp [intOf]; omega
end Go.Proofs.Ytpgdbhafdnfhcaa
