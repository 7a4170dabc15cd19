/- NearestOf of the program. -/
import Derived.Test.YtpgdbhafdnfhcaaNu
import Derived.Test.YtpgdbhafdnfhcaaNm
import Derived.Test.YtpgdbhafdnfhcaaSe
import Derived.LoopTactic
namespace Go.Proofs.Ytpgdbhafdnfhcaa
open Go.RowKit
set_option linter.unusedVariables false

/-- The place of a station, or -1. -/
def plI (ts : List R3) (st : Int) : Int := if plc ts st < ts.length then (plc ts st : Int) else -1
theorem plI_at {ts : List R3} {st : Int} {i : Nat} (hi : i < ts.length) (h : tS (ts.getD i t0) = st) (hb : ∀ j, j < i → tS (ts.getD j t0) ≠ st) : plI ts st = (i : Int) := by
  rw [plI, plc_eq hi h hb, if_pos hi]
theorem plI_none {ts : List R3} {st : Int} (h : ∀ i, i < ts.length → tS (ts.getD i t0) ≠ st) : plI ts st = -1 := by
  rw [plI, plc_none h, if_neg (by omega)]
/-- A new slice of integers, or none. -/
def NPost (L : List Int) (w : World) (e : Ending) (w' : World) : Prop := ∃ (a : Option Addr) (c : Nat), e = .returned (.slice a L.length c) ∧ L.length ≤ c ∧ Fresh w w' a L ∧ Keep w w'
theorem npost_no {L : List Int} {w w' : World} (h : L = []) (k : Keep w w') : NPost L w (.returned (.slice none 0 0)) w' := by
  subst h; exact ⟨none, 0, rfl, by simp, .inl rfl, k⟩
theorem npost_own {L : List Int} {w w' : World} {base n c : Nat} {x : Option Addr} (h : OwnI w' base (.slice x n c) L) (hn : n = L.length) (hc : n ≤ c) (hb : w.heap.size ≤ base) (k : Keep w w') : NPost L w (.returned (.slice x n c)) w' := by
  subst hn
  refine ⟨x, c, rfl, hc, ?_, k⟩
  by_cases h0 : L = []
  · exact .inl h0
  · have hp : 0 < L.length := List.length_pos_iff.2 h0
    obtain ⟨g, cap, hv, hg, hl, hW⟩ := h.at_ hp
    injection hv with hv _ _
    subst hv
    exact .inr ⟨g, rfl, by omega, hl, hW⟩
theorem pl1_any (st s x y : Int) (B : Nat) (w : World) (h : w.cell? ⟨B, 0, none⟩ = some (.int .i64 st)) :
    Calls Try.prog 122 #[.agg #[.int .i64 s, .int .i64 x, .int .i64 y], .pointer (some ⟨B, 0, none⟩)] w fun e w' => e = .returned (.bool (s == st)) ∧ Keep w w' := by
  have hB := World.block_lt_of_cell? w _ h
  go_enter Try.func122, Try.ntmps122
  go_wp2
  go_ret
  exact ⟨rfl, (Keep.refl w).alloc _⟩
set_option maxRecDepth 100000 in
set_option maxHeartbeats 1000000 in
theorem ixS_any (a : Option Addr) (cap B : Nat) (ts : List R3) (st : Int) (w : World) (h : Ss w a ts) (hm : ts.length ≤ 1048576) (hc : w.cell? ⟨B, 0, none⟩ = some (.int .i64 st)) :
    Calls Try.prog 121 #[.slice a ts.length cap, .func (.func 122) #[] #[.pointer (some ⟨B, 0, none⟩)]] w fun e w' => e = .returned (.int .i64 (plI ts st)) ∧ Keep w w' := by
  go_enter Try.func121, Try.ntmps121
  go_wp2_with fail
  go_loopw [8] (fun i wr => ∃ k : Nat, k ≤ ts.length ∧ i = .int .i64 k ∧ Hid (∀ j, j < k → tS (ts.getD j t0) ≠ st) ∧ Keep w wr) (fun i _ => ts.length - (intOf i).toNat)
  case atStart => exact ⟨0, by omega, rfl, Lib.hid (fun j hj => absurd hj (by omega)), Keep.refl w⟩
  case round =>
    obtain ⟨k, hk, rfl, HA, hK⟩ := hrel
    by_cases hlt : k < ts.length
    · obtain ⟨b, off, rfl, hb, ⟨c0, c1, c2⟩⟩ := (h.keep hK).at_ hlt
      have hcr := hK.cell hc
      by_cases hx : tS (ts.getD k t0) = st
      · have HF := Lib.hid (plI_at hlt hx HA.out)
        have hxe : (tS (ts.getD k t0) == st) = true := beq_iff_eq.2 hx
        generalize tS (ts.getD k t0) = s at *
        generalize tX (ts.getD k t0) = x at *
        generalize tY (ts.getD k t0) = y at *
        have HP := Lib.hid (pl1_any st s x y B wr hcr)
        rw [hxe] at HP
        clear hx hxe
        go_wp2_with fail
        refine HP.out.mono ?_
        rintro e w1 ⟨rfl, k1⟩
        go_wp2
        go_ret
        exact ⟨retI HF.out.symm, hK.trans k1⟩
      · have HS : Hid (∀ j, j < k + 1 → tS (ts.getD j t0) ≠ st) := Lib.hid (fun j hj => by
          by_cases e : j < k
          · exact HA.out j e
          · obtain rfl : j = k := by omega
            exact hx)
        have hxe : (tS (ts.getD k t0) == st) = false := beq_eq_false_iff_ne.2 hx
        generalize tS (ts.getD k t0) = s at *
        generalize tX (ts.getD k t0) = x at *
        generalize tY (ts.getD k t0) = y at *
        have HP := Lib.hid (pl1_any st s x y B wr hcr)
        rw [hxe] at HP
        clear hx hxe
        go_wp2_with fail
        refine HP.out.mono ?_
        rintro e w1 ⟨rfl, k1⟩
        go_wp2
        go_roundw
        case rel => exact ⟨k + 1, by omega, by go_num, HS, hK.trans k1⟩
        case measure => simp [intOf]; omega
    · have HF := Lib.hid (plI_none (ts := ts) (st := st) (fun i hi => HA.out i (by omega)))
      go_wp2
      go_ret
      exact ⟨retI HF.out.symm, hK⟩
theorem place_any (a : Option Addr) (cap : Nat) (ts : List R3) (st : Int) (w : World) (h : Ss w a ts) (hm : ts.length ≤ 1048576) :
    Calls Try.prog 93 #[.slice a ts.length cap, .int .i64 st] w fun e w' => e = .returned (.int .i64 (plI ts st)) ∧ Keep w w' := by
  have k0 := (Keep.refl w).alloc (.cells #[.int .i64 st] 3)
  have HX := Lib.hid (ixS_any a cap w.heap.size ts st (w.alloc (.cells #[.int .i64 st] 3)) (h.keep k0) hm (by go_simp))
  go_enter Try.func93, Try.ntmps93
  go_wp2_with fail
  refine HX.out.mono ?_
  rintro e w1 ⟨rfl, k1⟩
  go_wp2
  go_ret
  exact ⟨rfl, k0.trans k1⟩
theorem many_any (m : Int) (w : World) : Calls Try.prog 86 #[.int .i64 m] w fun e w' => e = .returned (.bool (inB m 0 6)) ∧ w = w' := by
  by_cases h1 : 0 ≤ m
  · by_cases h2 : m ≤ 6
    · have HF : Hid (inB m 0 6 = true) := Lib.hid (by simp [inB]; omega)
      go_enter Try.func86, Try.ntmps86
      go_wp2
      go_ret
      exact ⟨retB HF.out.symm, rfl⟩
    · have HF : Hid (inB m 0 6 = false) := Lib.hid (by simp [inB]; omega)
      go_enter Try.func86, Try.ntmps86
      go_wp2
      go_ret
      exact ⟨retB HF.out.symm, rfl⟩
  · have HF : Hid (inB m 0 6 = false) := Lib.hid (by simp [inB]; omega)
    go_enter Try.func86, Try.ntmps86
    go_wp2
    go_ret
    exact ⟨retB HF.out.symm, rfl⟩
end Go.Proofs.Ytpgdbhafdnfhcaa
