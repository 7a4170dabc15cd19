/- What the laws of neighbours call; facts of the nearest sites. -/
import Derived.Test.YtpgdbhafdnfhcaaMks
import Derived.Test.YtpgdbhafdnfhcaaHi
import Derived.Test.YtpgdbhafdnfhcaaLw
import Derived.LoopTactic
namespace Go.Proofs.Ytpgdbhafdnfhcaa
open Go.RowKit
set_option linter.unusedVariables false

set_option maxRecDepth 100000 in
set_option maxHeartbeats 1000000 in
theorem siteOf_any (a : Option Addr) (cap : Nat) (ts : List R3) (st : Int) (w : World) (h : Ss w a ts) (hm : ts.length ≤ 1048576) :
    Calls Try.prog 47 #[.slice a ts.length cap, .int .i64 st] w fun e w' => e = .returned (ag (ts.getD (plc ts st) t0)) ∧ Keep w w' := by
  have hA := h.alloc (.cells #[.int .i64 0, .int .i64 0, .int .i64 0] 62)
  go_enter Try.func47, Try.ntmps47
  go_wp2_with fail
  go_loop [5] (fun i => ∃ k : Nat, k ≤ ts.length ∧ i = .int .i64 k ∧ Hid (∀ j, j < k → tS (ts.getD j t0) ≠ st)) (fun i => ts.length - (intOf i).toNat)
  case atStart => exact ⟨0, by omega, rfl, Lib.hid (fun j hj => absurd hj (by omega))⟩
  case round =>
    obtain ⟨k, hk, rfl, HA⟩ := hrel
    by_cases hlt : k < ts.length
    · obtain ⟨b, off, rfl, hb, ⟨c0, c1, c2⟩⟩ := hA.at_ hlt
      by_cases hx : tS (ts.getD k t0) = st
      · have HF : Hid (plc ts st = k) := Lib.hid (plc_eq hlt hx HA.out)
        have HE : Hid (Ending.returned (.agg #[.int .i64 (tS (ts.getD k t0)), .int .i64 (tX (ts.getD k t0)), .int .i64 (tY (ts.getD k t0))]) = .returned (ag (ts.getD (plc ts st) t0))) := Lib.hid (by rw [HF.out])
        have hxe : (tS (ts.getD k t0) == st) = true := beq_iff_eq.2 hx
        clear hx HF
        generalize tS (ts.getD k t0) = s at *
        generalize tX (ts.getD k t0) = x at *
        generalize tY (ts.getD k t0) = y at *
        go_wp2
        refine bodyPost_ret (v := .agg #[.int .i64 s, .int .i64 x, .int .i64 y]) (by simp [results, Try.results47, go_sem]) rfl ⟨HE.out, ?_⟩
        repeat (first | exact Below.refl _ _ | refine Below.setCell ?_ (by simp <;> omega) _ | refine Below.alloc ?_ (by simp <;> omega) _)
      · have HS : Hid (∀ j, j < k + 1 → tS (ts.getD j t0) ≠ st) := Lib.hid (fun j hj => by
          by_cases e : j < k
          · exact HA.out j e
          · obtain rfl : j = k := by omega
            exact hx)
        have hxe : (tS (ts.getD k t0) == st) = false := beq_eq_false_iff_ne.2 hx
        generalize tS (ts.getD k t0) = s at *
        clear hx
        go_wp2
        go_round
        case rel => exact ⟨k + 1, by omega, by go_num, HS⟩
        case measure => simp [intOf]; omega
    · have HF : Hid (plc ts st = ts.length) := Lib.hid (plc_none (fun i hi => HA.out i (by omega)))
      have e0 : ts.getD ts.length t0 = t0 := by simp [List.getD_eq_getElem?_getD]
      have HE : Hid (Ending.returned (.agg #[.int .i64 0, .int .i64 0, .int .i64 0]) = .returned (ag (ts.getD (plc ts st) t0))) := Lib.hid (by rw [HF.out, e0]; rfl)
      clear HF e0
      go_wp2
      refine bodyPost_ret (v := .agg #[.int .i64 0, .int .i64 0, .int .i64 0]) (by simp [results, Try.results47, go_sem]) rfl ⟨HE.out, ?_⟩
      repeat (first | exact Below.refl _ _ | refine Below.setCell ?_ (by simp <;> omega) _ | refine Below.alloc ?_ (by simp <;> omega) _)
set_option maxRecDepth 100000 in
set_option maxHeartbeats 1000000 in
theorem wfar (c r : R3) (hc : tB c = true) (hr : tB r = true) (w : World) :
    Calls Try.prog 48 #[ag c, ag r] w fun e w' => e = .returned (.int .i64 (far c r)) ∧ Keep w w' := by
  have h1 := tB_bd hc
  have h2 := tB_bd hr
  have HF : Hid (far c r = (tX c - tX r) * (tX c - tX r) + (tY c - tY r) * (tY c - tY r)) := Lib.hid rfl
  unfold ag
  generalize tS c = s at *
  generalize tS r = s' at *
  generalize tX c = x at *
  generalize tX r = x' at *
  generalize tY c = y at *
  generalize tY r = y' at *
  obtain ⟨d, hd⟩ : ∃ d, x - x' = d := ⟨_, rfl⟩
  obtain ⟨f, hf⟩ : ∃ f, y - y' = f := ⟨_, rfl⟩
  rw [hd, hf] at HF
  have b1 := sq_bd (d := d) (by omega) (by omega)
  have b2 := sq_bd (d := f) (by omega) (by omega)
  obtain ⟨p, hp⟩ : ∃ p, d * d = p := ⟨_, rfl⟩
  obtain ⟨q, hq⟩ : ∃ q, f * f = q := ⟨_, rfl⟩
  rw [hp] at b1 HF
  rw [hq] at b2 HF
  have v1 : wrap64 d = d := IntWalk.wrap64_in _ ⟨by omega, by omega⟩
  have v2 : wrap64 f = f := IntWalk.wrap64_in _ ⟨by omega, by omega⟩
  have v3 : wrap64 p = p := IntWalk.wrap64_in _ ⟨by omega, by omega⟩
  have v4 : wrap64 q = q := IntWalk.wrap64_in _ ⟨by omega, by omega⟩
  have v5 : wrap64 (p + q) = p + q := IntWalk.wrap64_in _ ⟨by omega, by omega⟩
  clear h1 h2 hc hr
  go_enter Try.func48, Try.ntmps48
  go_wp2
  go_ret
  refine ⟨retI (by first | exact HF.out.symm | (rw [v1, v2, hp, hq, v3, v4, v5]; exact HF.out.symm) | (simp only [v1, v2, hp, hq, v3, v4, v5]; exact HF.out.symm)), ?_⟩
  exact ((Keep.refl w).alloc _).alloc _
/-- The i-th nearest one. -/
theorem nr_at {ts : List R3} {st many : Int} (h : nrOk ts st many = true) {i : Nat} (hi : i < (nrL ts st many).length) :
    ∃ q, q < ts.length ∧ q ≠ plc ts st ∧ (nrP ts (plc ts st)).getD i t0 = ts.getD q t0 ∧ (nrL ts st many).getD i 0 = tS (ts.getD q t0) ∧ plc ts ((nrL ts st many).getD i 0) = q ∧ i < (nrP ts (plc ts st)).length ∧ (i : Int) < many := by
  obtain ⟨hs, hp, m0, m6⟩ := nrOk_facts h
  have hi2 := hi
  rw [nrL_yes h, List.length_map, List.length_take] at hi2
  have hil : i < (nrP ts (plc ts st)).length := by omega
  have e1 : (nrP ts (plc ts st)).getD i t0 = (nrP ts (plc ts st))[i] := by simp [List.getD_eq_getElem?_getD, hil]
  obtain ⟨q, hq, hqp, he⟩ := (nrP_mem hp).1 (List.getElem_mem hil)
  have e2 : (nrL ts st many).getD i 0 = tS (ts.getD q t0) := by
    rw [nrL_yes h, List.getD_eq_getElem?_getD, List.getElem?_map, List.getElem?_take_of_lt (by omega), List.getElem?_eq_getElem hil, he]
    rfl
  exact ⟨q, hq, hqp, by rw [e1, he], e2, by rw [e2, plc_self hs hq], hil, by omega⟩
theorem nr_far {ts : List R3} {p : Nat} (h : siB ts = true) (hp : p < ts.length) {i : Nat} (hi : i + 1 < (nrP ts p).length) : ¬ far ((nrP ts p).getD i t0) (ts.getD p t0) > far ((nrP ts p).getD (i + 1) t0) (ts.getD p t0) := by
  have key : ∀ (k : R3 → Int) (S : List R3), S.Pairwise (fun a b => k a ≤ k b) → i + 1 < S.length → k (S.getD i t0) ≤ k (S.getD (i + 1) t0) := fun k S hpw hl => by
    have h2 := (List.pairwise_iff_getElem.1 hpw) i (i + 1) (by omega) hl (by omega)
    simpa [List.getD_eq_getElem?_getD, hl, (show i < S.length by omega)] using h2
  have h1 : kf (ts.getD p t0) ((nrP ts p).getD i t0) ≤ kf (ts.getD p t0) ((nrP ts p).getD (i + 1) t0) := key _ _ (srt_pw (kf (ts.getD p t0)) (ts.take p ++ ts.drop (p + 1))) hi
  have hT : ∀ j, j < (nrP ts p).length → tB ((nrP ts p).getD j t0) = true := fun j hj => by
    obtain ⟨q, hq, _, he⟩ := (nrP_mem hp).1 (tgetD_mem hj)
    rw [← he]; exact si_tB h hq
  have b1 := tB_bd (hT i (by omega))
  have b2 := tB_bd (hT (i + 1) hi)
  rw [far_sym _ (ts.getD p t0), far_sym _ (ts.getD p t0)]
  unfold kf at h1
  omega
/-- No station is there twice. -/
theorem nr_once {ts : List R3} {st many : Int} (h : nrOk ts st many = true) {i : Nat} (hi : i < (nrL ts st many).length) : (nrL ts st many).getD i 0 ∉ (nrL ts st many).take i := by
  obtain ⟨hs, hp, _, _⟩ := nrOk_facts h
  intro hm
  obtain ⟨j, hj, he⟩ := List.getElem_of_mem hm
  rw [List.length_take] at hj
  rw [List.getElem_take] at he
  obtain ⟨q, hq, hqp, e1, e2, _, hil, _⟩ := nr_at h hi
  obtain ⟨q', hq', hqp', e1', e2', _, hil', _⟩ := nr_at h (show j < (nrL ts st many).length by omega)
  have e3 : (nrL ts st many).getD j 0 = (nrL ts st many)[j] := by simp [List.getD_eq_getElem?_getD, (show j < (nrL ts st many).length by omega)]
  rw [← e3, e2, e2'] at he
  have hqq := si_inj hs hq' hq he
  have := nrP_nodup hs hp (i := j) (j := i) (by omega) hil
  apply this
  rw [e1, e1', hqq]
end Go.Proofs.Ytpgdbhafdnfhcaa
