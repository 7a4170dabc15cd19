/- The model's places of the nearest sites. -/
import Derived.Test.YtpgdbhafdnfhcaaNi
import Derived.Test.YtpgdbhafdnfhcaaLw
import Derived.Laws.MakeOwn
import Derived.Lib.BufferMore
namespace Go.Proofs.Ytpgdbhafdnfhcaa
open Go.RowKit
set_option linter.unusedVariables false

set_option maxHeartbeats 1000000 in
theorem lplace_any (a : Option Addr) (cap : Nat) (ts : List R3) (st : Int) (w : World) (h : Ss w a ts) (hm : ts.length ≤ 1048576) :
    Calls Try.prog 100 #[.slice a ts.length cap, .int .i64 st] w fun e w' => e = .returned (.int .i64 (plI ts st)) ∧ w = w' := by
  go_enter Try.func100, Try.ntmps100
  go_wp2_with fail
  go_loop [5] (fun i => ∃ k : Nat, k ≤ ts.length ∧ i = .int .i64 k ∧ Hid (∀ j, j < k → tS (ts.getD j t0) ≠ st)) (fun i => ts.length - (intOf i).toNat)
  case atStart => exact ⟨0, by omega, rfl, Lib.hid (fun j hj => absurd hj (by omega))⟩
  case round =>
    obtain ⟨k, hk, rfl, HA⟩ := hrel
    by_cases hlt : k < ts.length
    · obtain ⟨b, off, rfl, hb, ⟨c0, _, _⟩⟩ := h.at_ hlt
      by_cases hx : tS (ts.getD k t0) = st
      · have HF := Lib.hid (plI_at hlt hx HA.out)
        have hxe : (tS (ts.getD k t0) == st) = true := beq_iff_eq.2 hx
        generalize tS (ts.getD k t0) = s at *
        clear hx
        go_wp2
        go_ret
        exact ⟨retI HF.out.symm, rfl⟩
      · have HS : Hid (∀ j, j < k + 1 → tS (ts.getD j t0) ≠ st) := Lib.hid (fun j hj => by
          by_cases e : j < k
          · exact HA.out j e
          · obtain rfl : j = k := by omega
            exact hx)
        have hxe : (tS (ts.getD k t0) == st) = false := beq_eq_false_iff_ne.2 hx
        generalize tS (ts.getD k t0) = s at *
        clear hx
        go_wp2
        go_round
        case rel => exact ⟨k + 1, by omega, by go_num, HS⟩
        case measure => simp [intOf]; omega
    · have HF := Lib.hid (plI_none (ts := ts) (st := st) (fun i hi => HA.out i (by omega)))
      go_wp2
      go_ret
      exact ⟨retI HF.out.symm, rfl⟩
set_option maxRecDepth 100000 in
set_option maxHeartbeats 1000000 in
theorem lfar (c r : R3) (hc : tB c = true) (hr : tB r = true) (w : World) :
    Calls Try.prog 120 #[ag c, ag r] w fun e w' => e = .returned (.int .i64 (far c r)) ∧ Keep w w' := by
  have h1 := tB_bd hc
  have h2 := tB_bd hr
  have HF : Hid (far c r = (tX c - tX r) * (tX c - tX r) + (tY c - tY r) * (tY c - tY r)) := Lib.hid rfl
  unfold ag
  generalize tS c = s at *
  generalize tS r = s' at *
  generalize tX c = x at *
  generalize tX r = x' at *
  generalize tY c = y at *
  generalize tY r = y' at *
  obtain ⟨d, hd⟩ : ∃ d, x - x' = d := ⟨_, rfl⟩
  obtain ⟨f, hf⟩ : ∃ f, y - y' = f := ⟨_, rfl⟩
  rw [hd, hf] at HF
  have b1 := sq_bd (d := d) (by omega) (by omega)
  have b2 := sq_bd (d := f) (by omega) (by omega)
  obtain ⟨p, hp⟩ : ∃ p, d * d = p := ⟨_, rfl⟩
  obtain ⟨q, hq⟩ : ∃ q, f * f = q := ⟨_, rfl⟩
  rw [hp] at b1 HF
  rw [hq] at b2 HF
  have v1 : wrap64 d = d := IntWalk.wrap64_in _ ⟨by omega, by omega⟩
  have v2 : wrap64 f = f := IntWalk.wrap64_in _ ⟨by omega, by omega⟩
  have v3 : wrap64 p = p := IntWalk.wrap64_in _ ⟨by omega, by omega⟩
  have v4 : wrap64 q = q := IntWalk.wrap64_in _ ⟨by omega, by omega⟩
  have v5 : wrap64 (p + q) = p + q := IntWalk.wrap64_in _ ⟨by omega, by omega⟩
  clear h1 h2 hc hr
  go_enter Try.func120, Try.ntmps120
  go_wp2
  go_ret
  refine ⟨retI (by first | exact HF.out.symm | (rw [v1, v2, hp, hq, v3, v4, v5]; exact HF.out.symm) | (simp only [v1, v2, hp, hq, v3, v4, v5]; exact HF.out.symm)), ?_⟩
  exact ((Keep.refl w).alloc _).alloc _
theorem own_capI2 {w : World} {base g n c : Nat} {e : TypeId} {vs : List Value} (h : w.ownsRow base e 1 (.slice (some ⟨g, 0, none⟩) n c) n vs) : n ≤ c := by
  rcases id h.2 with ⟨hn, _⟩ | ⟨g', cap', cur, hn, _, hc, _⟩
  · cases hn
  · injection hn with _ _ hn; subst hn; omega
/-- Block U holds the marks f of n sites. -/
def Us (w : World) (U n : Nat) (f : Nat → Bool) : Prop := ∃ cs, w.heap[U]? = some (Obj.cells cs 4 (0, 0)) ∧ ∀ j, j < n → cs[j]? = some (.bool (f j))
theorem Us.cell {w : World} {U n : Nat} {f : Nat → Bool} (h : Us w U n f) {j : Nat} (hj : j < n) : w.cell? ⟨U, j, none⟩ = some (.bool (f j)) ∧ w.frozen? ⟨U, j, none⟩ = false := by
  obtain ⟨cs, hb, hc⟩ := h
  exact ⟨by simp [World.cell?, hb, hc j hj], by simp [World.frozen?, hb]⟩
theorem Us.lt {w : World} {U n : Nat} {f : Nat → Bool} (h : Us w U n f) : U < w.heap.size := by
  obtain ⟨cs, hb, _⟩ := h
  exact (Array.getElem?_eq_some_iff.1 hb).1
theorem Us.keep {w w' : World} {U n : Nat} {f : Nat → Bool} (h : Us w U n f) (k : Keep w w') : Us w' U n f := by
  have hl := h.lt
  obtain ⟨cs, hb, hc⟩ := h
  exact ⟨cs, by rw [Below.block k U hl]; exact hb, hc⟩
theorem Us.set {w : World} {U n : Nat} {f : Nat → Bool} (h : Us w U n f) {b : Nat} (hb : b < n) : Us (w.setCell ⟨U, b, none⟩ (.bool true)) U n (fun j => f j || decide (j = b)) := by
  obtain ⟨cs, hbl, hc⟩ := h
  refine ⟨_, Lib.heap_setCell_same (i := b) hbl (.bool true), fun j hj => ?_⟩
  have h1 := hc j hj
  by_cases e : j = b
  · subst e
    have hs : j < cs.size := (Array.getElem?_eq_some_iff.1 h1).1
    simp [hs]
  · have e2 : b ≠ j := fun h => e h.symm
    simp [e2, e, h1]
theorem Us.congr {w : World} {U n : Nat} {f g : Nat → Bool} (h : Us w U n f) (he : ∀ j, j < n → f j = g j) : Us w U n g := by
  obtain ⟨cs, hb, hc⟩ := h
  exact ⟨cs, hb, fun j hj => by rw [hc j hj, he j hj]⟩
theorem Us.grown {w w' : World} {U n m base : Nat} {f : Nat → Bool} {v : Value} {xs : List Value} (h : Us w U n f) (ho : w.ownsRow base 3 1 v m xs) (hg : w.grownBy w' v.ownBlock) : Us w' U n f := by
  have hl := h.lt
  obtain ⟨cs, hb, hc⟩ := h
  refine ⟨cs, ?_, hc⟩
  rw [hg.block U hl ?_]
  · exact hb
  · intro e
    rcases ho.2 with ⟨rfl, _⟩ | ⟨g, cap, cur, rfl, _, hgg, _⟩
    · cases e
    · injection e with e
      have e : U = g := e
      subst e
      rw [hb] at hgg
      injection hgg with hgg
      injection hgg with _ h2 _
      cases h2
theorem infoBool : (Try.prog.info? 4).map (fun i => (i.zero, i.size, i.bytes)) = some (some (.bool false), 1, 1) := by kernel_rfl
theorem run_make_bools (n : Nat) (hn : n ≤ 1048576) (w : World) :
    (Instr.makeSlice 135 (.int .i64 (n : Int)) (.int .i64 (n : Int))).run Try.prog w = .ok (.slice (some ⟨w.heap.size, 0, none⟩) n n) (w.alloc (.cells (madeCells #[.bool false] n) 4)) := by
  obtain ⟨i, hi, hz, hs, hb⟩ := info_parts infoBool
  have hr := run_make (P := Try.prog) w 135 4 i _ Try.underlying135 hi hz .i64 .i64 n n (by omega) (by omega) (by rw [hb]; omega) (by omega)
  simp only [Int.toNat_natCast, hs, Nat.mul_one] at hr
  exact hr
theorem madeB_at (n j : Nat) (hj : j < n) : (madeCells #[Value.bool false] n)[j]? = some (.bool false) := by
  unfold madeCells; simp [hj, Nat.mod_one]
theorem Us.made (w : World) (n : Nat) : Us (w.alloc (.cells (madeCells #[.bool false] n) 4)) w.heap.size n (fun _ => false) :=
  ⟨_, heap_alloc_new _ _, fun j hj => madeB_at n j hj⟩
def ints (PL : List Nat) : List Int := PL.map fun q : Nat => (q : Int)
theorem ints_len (PL : List Nat) : (ints PL).length = PL.length := by simp [ints]
theorem ints_snoc (PL : List Nat) (q : Nat) : ints (PL ++ [q]) = ints PL ++ [(q : Int)] := by simp [ints]
/-- What the model has picked. -/
structure Pk (ts : List R3) (p n : Nat) (PL : List Nat) : Prop where
  len : PL.length = n
  lt : ∀ q ∈ PL, q < ts.length
  map : PL.map (fun q => ts.getD q t0) = (nrP ts p).take n
theorem pk_mem {ts : List R3} {p n : Nat} {PL : List Nat} (hs : siB ts = true) (hp : p < ts.length) (h : Pk ts p n PL) {i : Nat} (hi : i < ts.length) : i ∈ PL ↔ ts.getD i t0 ∈ (nrP ts p).take n := by
  rw [← h.map, List.mem_map]
  constructor
  · intro hx; exact ⟨i, hx, rfl⟩
  · rintro ⟨q, hq, he⟩
    have h2 : q = i := si_inj hs (h.lt q hq) hi (by rw [he])
    rw [← h2]; exact hq
/-- A site that is left. -/
theorem pk_left {ts : List R3} {p n : Nat} {PL : List Nat} (hs : siB ts = true) (hp : p < ts.length) (h : Pk ts p n PL) {i : Nat} (hi : i < ts.length) (hne : i ≠ p) (hni : i ∉ PL) : ts.getD i t0 ∈ (nrP ts p).drop n := by
  have h1 : ts.getD i t0 ∈ nrP ts p := (nrP_mem hp).2 ⟨i, hi, hne, rfl⟩
  rw [← List.take_append_drop n (nrP ts p), List.mem_append] at h1
  rcases h1 with h1 | h1
  · exact absurd ((pk_mem hs hp h hi).2 h1) hni
  · exact h1
theorem pk_of_left {ts : List R3} {p n : Nat} {PL : List Nat} (hs : siB ts = true) (hp : p < ts.length) (h : Pk ts p n PL) {r : R3} (hr : r ∈ (nrP ts p).drop n) : ∃ i, i < ts.length ∧ i ≠ p ∧ i ∉ PL ∧ ts.getD i t0 = r := by
  obtain ⟨i, hi, hne, he⟩ := (nrP_mem hp).1 (List.mem_of_mem_drop hr)
  refine ⟨i, hi, hne, fun hx => ?_, he⟩
  have h1 := (pk_mem hs hp h hi).1 hx
  rw [he] at h1
  obtain ⟨a, ha, e1⟩ := List.getElem_of_mem h1
  obtain ⟨b, hb, e2⟩ := List.getElem_of_mem hr
  rw [List.length_take] at ha
  rw [List.length_drop] at hb
  rw [List.getElem_take] at e1
  rw [List.getElem_drop] at e2
  have := nrP_nodup hs hp (i := a) (j := n + b) (by omega) (by omega)
  apply this
  simp only [List.getD_eq_getElem?_getD]
  rw [List.getElem?_eq_getElem (by omega), List.getElem?_eq_getElem (by omega), e1, e2]
/-- The best one of those that are left is the next one. -/
theorem pk_next {ts : List R3} {p n b : Nat} {PL : List Nat} (hs : siB ts = true) (hp : p < ts.length) (h : Pk ts p n PL) (hn : n < (nrP ts p).length) (hb : b < ts.length) (hbp : b ≠ p) (hbn : b ∉ PL)
    (hmin : ∀ u, u < ts.length → u ≠ p → u ∉ PL → kf (ts.getD p t0) (ts.getD b t0) ≤ kf (ts.getD p t0) (ts.getD u t0)) : Pk ts p (n + 1) (PL ++ [b]) := by
  have he : ts.getD b t0 = (nrP ts p).getD n t0 := by
    have h1 := pk_left hs hp h hb hbp hbn
    have hl := hn
    unfold nrP at h1 hl ⊢
    refine next_is (kf_inj hs hp _) hl (List.Perm.refl _) h1 (fun s hs2 => ?_)
    obtain ⟨u, hu, hup, hun, rfl⟩ := pk_of_left hs hp h hs2
    exact hmin u hu hup hun
  refine ⟨by rw [List.length_append, h.len]; rfl, fun q hq => ?_, ?_⟩
  · rw [List.mem_append, List.mem_singleton] at hq
    rcases hq with hq | rfl
    · exact h.lt q hq
    · exact hb
  · rw [List.map_append, h.map, List.take_succ_eq_append_getElem hn]
    simp only [List.map_cons, List.map_nil, he]
    simp [List.getD_eq_getElem?_getD, hn]
/-- The first i sites hold no better one than b; b is among them, or none is left of them. -/
def bestI (ts : List R3) (p : Nat) (PL : List Nat) (i : Nat) (b : Int) : Prop :=
  (b = -1 ∧ ∀ u, u < i → u ≠ p → u ∈ PL) ∨ ∃ q : Nat, b = (q : Int) ∧ q < i ∧ q ≠ p ∧ q ∉ PL ∧ ∀ u, u < i → u ≠ p → u ∉ PL → kf (ts.getD p t0) (ts.getD q t0) ≤ kf (ts.getD p t0) (ts.getD u t0)
theorem best_used {ts : List R3} {p i : Nat} {PL : List Nat} {b : Int} (h : bestI ts p PL i b) (hu : i = p ∨ i ∈ PL) : bestI ts p PL (i + 1) b := by
  rcases h with ⟨hb, h⟩ | ⟨q, hb, hq, hqp, hqn, h⟩
  · refine .inl ⟨hb, fun u hui hup => ?_⟩
    by_cases e : u < i
    · exact h u e hup
    · obtain rfl : u = i := by omega
      rcases hu with hu | hu
      · exact absurd hu hup
      · exact hu
  · refine .inr ⟨q, hb, by omega, hqp, hqn, fun u hui hup hun => ?_⟩
    by_cases e : u < i
    · exact h u e hup hun
    · obtain rfl : u = i := by omega
      rcases hu with hu | hu
      · exact absurd hu hup
      · exact absurd hu hun
theorem best_first {ts : List R3} {p i : Nat} {PL : List Nat} (h : bestI ts p PL i (-1)) (hup : i ≠ p) (hun : i ∉ PL) : bestI ts p PL (i + 1) (i : Int) := by
  rcases h with ⟨_, h⟩ | ⟨q, hb, _⟩
  · refine .inr ⟨i, rfl, by omega, hup, hun, fun u hui hup' hun' => ?_⟩
    by_cases e : u < i
    · exact absurd (h u e hup') hun'
    · obtain rfl : u = i := by omega
      exact Int.le_refl _
  · omega
theorem best_take {ts : List R3} {p i q : Nat} {PL : List Nat} (hs : siB ts = true) (hi : i < ts.length) (h : bestI ts p PL i (q : Int)) (hup : i ≠ p) (hun : i ∉ PL) (hlt : far (ts.getD i t0) (ts.getD p t0) < far (ts.getD q t0) (ts.getD p t0)) : bestI ts p PL (i + 1) (i : Int) := by
  rcases h with ⟨hb, _⟩ | ⟨q', hb, hq, hqp, hqn, h⟩
  · omega
  · obtain rfl : q' = q := by omega
    have hk : kf (ts.getD p t0) (ts.getD i t0) < kf (ts.getD p t0) (ts.getD q' t0) := by
      rw [kf_lt (si_tB hs hi) (si_tB hs (by omega)), far_sym _ (ts.getD i t0), far_sym _ (ts.getD q' t0)]
      exact .inl hlt
    refine .inr ⟨i, rfl, by omega, hup, hun, fun u hui hup' hun' => ?_⟩
    by_cases e : u < i
    · have := h u e hup' hun'; omega
    · obtain rfl : u = i := by omega
      exact Int.le_refl _
theorem best_leave {ts : List R3} {p i q : Nat} {PL : List Nat} (hs : siB ts = true) (hi : i < ts.length) (h : bestI ts p PL i (q : Int)) (hlt : ¬ far (ts.getD i t0) (ts.getD p t0) < far (ts.getD q t0) (ts.getD p t0)) : bestI ts p PL (i + 1) (q : Int) := by
  rcases h with ⟨hb, _⟩ | ⟨q', hb, hq, hqp, hqn, h⟩
  · omega
  · obtain rfl : q' = q := by omega
    refine .inr ⟨q', hb, by omega, hqp, hqn, fun u hui hup' hun' => ?_⟩
    by_cases e : u < i
    · exact h u e hup' hun'
    · obtain rfl : u = i := by omega
      have h2 := si_lt hs hq hi
      have h3 : ¬ kf (ts.getD p t0) (ts.getD u t0) < kf (ts.getD p t0) (ts.getD q' t0) := by
        rw [kf_lt (si_tB hs hi) (si_tB hs (by omega)), far_sym _ (ts.getD u t0), far_sym _ (ts.getD q' t0)]
        omega
      omega
/-- There is one left. -/
theorem best_end {ts : List R3} {p n : Nat} {PL : List Nat} {b : Int} (hs : siB ts = true) (hp : p < ts.length) (h : Pk ts p n PL) (hn : n < (nrP ts p).length) (hb : bestI ts p PL ts.length b) :
    ∃ q : Nat, b = (q : Int) ∧ q < ts.length ∧ Pk ts p (n + 1) (PL ++ [q]) ∧ ∀ j, (decide (j = p ∨ j ∈ PL) || decide (j = q)) = decide (j = p ∨ j ∈ PL ++ [q]) := by
  rcases hb with ⟨_, hb⟩ | ⟨q, hbq, hq, hqp, hqn, hb⟩
  · exfalso
    have h1 : (nrP ts p)[n] ∈ (nrP ts p).drop n := by rw [List.drop_eq_getElem_cons hn]; exact List.mem_cons_self
    obtain ⟨i, hi, hip, hin, _⟩ := pk_of_left hs hp h h1
    exact hin (hb i hi hip)
  · refine ⟨q, hbq, hq, pk_next hs hp h hn hq hqp hqn hb, fun j => ?_⟩
    rw [← Bool.decide_or]
    apply decide_eq_decide.2
    rw [List.mem_append, List.mem_singleton, or_assoc]
set_option maxRecDepth 100000 in
set_option maxHeartbeats 8000000 in
theorem lnear_any (a : Option Addr) (cap : Nat) (ts : List R3) (p mm : Nat) (w : World) (h : Ss w a ts) (hs : siB ts = true) (hp : p < ts.length) (hm : mm ≤ 6) :
    Calls Try.prog 90 #[.slice a ts.length cap, .int .i64 (p : Int), .int .i64 (mm : Int)] w fun e w' => ∃ (n : Nat) (PL : List Nat), Pk ts p n PL ∧ (nrP ts p).take n = (nrP ts p).take mm ∧ n ≤ 6 ∧ MadeL (ints PL) w e w' := by
  obtain ⟨i0, hi, hz0, hz1, hz2⟩ := info_parts infoInt'
  have HS := Lib.hid hs
  have hl6 := si_len hs
  have hlp := nrP_len hp
  have HMK := Lib.hid (run_make_bools ts.length (by omega))
  obtain ⟨b, off, rfl, hb, hcells⟩ := h.all (by omega)
  have HC := Lib.hid hcells
  have HTC := Lib.hid (si_tB hs hp)
  have hpl : (p : Int) < (ts.length : Int) := by omega
  have hp0 : (0 : Int) ≤ (p : Int) := by omega
  clear hs hcells h
  have hmk := HMK.out
  have HU0 : Hid (Us ((w.alloc (.cells #[] 3)).alloc (.cells ((madeCells #[.bool false] ts.length).setIfInBounds p (.bool true)) 4)) (w.heap.size + 1) ts.length (fun j => decide (j = p ∨ j ∈ ([] : List Nat)))) := Lib.hid (by
    have e : (w.alloc (.cells #[] 3)).heap.size = w.heap.size + 1 := by simp
    rw [← e]
    refine ⟨_, heap_alloc_new _ _, fun j hj => ?_⟩
    have h1 := madeB_at ts.length j hj
    by_cases e : j = p
    · subst e
      have h2 : j < (madeCells #[Value.bool false] ts.length).size := (Array.getElem?_eq_some_iff.1 h1).1
      simp [h2]
    · have e2 : p ≠ j := fun h => e h.symm
      simp [e2, e, h1])
  have hu0 : ((w.alloc (.cells #[] 3)).alloc (.cells (madeCells #[.bool false] ts.length) 4)).cell? ⟨w.heap.size + 1, p, none⟩ = some (.bool false) := by
    have h1 := Us.made (w.alloc (.cells #[] 3)) ts.length
    have e : (w.alloc (.cells #[] 3)).heap.size = w.heap.size + 1 := by simp
    rw [e] at h1
    exact (h1.cell hp).1
  have hf0 : ((w.alloc (.cells #[] 3)).alloc (.cells (madeCells #[.bool false] ts.length) 4)).frozen? ⟨w.heap.size + 1, p, none⟩ = false := by
    have h1 := Us.made (w.alloc (.cells #[] 3)) ts.length
    have e : (w.alloc (.cells #[] 3)).heap.size = w.heap.size + 1 := by simp
    rw [e] at h1
    exact (h1.cell hp).2
  have HK0 : Hid (Keep w ((w.alloc (.cells #[] 3)).alloc (.cells ((madeCells #[.bool false] ts.length).setIfInBounds p (.bool true)) 4))) := Lib.hid (((Keep.refl w).alloc _).alloc _)
  have HO0 : Hid (OwnI ((w.alloc (.cells #[] 3)).alloc (.cells ((madeCells #[.bool false] ts.length).setIfInBounds p (.bool true)) 4)) w.heap.size (.slice (some ⟨w.heap.size, 0, none⟩) 0 0) (ints ([] : List Nat))) := Lib.hid (by
    have h1 : OwnI (w.alloc (.cells #[] 3)) w.heap.size (.slice (some ⟨w.heap.size, 0, none⟩) 0 0) [] := World.ownsRow_made w #[] 0 (Nat.le_refl _) (by unfold maxLen; omega) rfl
    exact h1.keep ((Keep.refl _).alloc _))
  go_enter Try.func90, Try.ntmps90
  go_wp2_with fail
  go_loopw [7, 9] (fun u i wr => ∃ (n g cc : Nat) (PL : List Nat), i = .int .i64 n ∧ n ≤ mm ∧ n ≤ 6 ∧ u = .slice (some ⟨g, 0, none⟩) n cc ∧ n ≤ cc ∧ Hid (Pk ts p n PL) ∧ Hid (OwnI wr w.heap.size (.slice (some ⟨g, 0, none⟩) n cc) (ints PL)) ∧ Hid (Us wr (w.heap.size + 1) ts.length (fun j => decide (j = p ∨ j ∈ PL))) ∧ Keep w wr) (fun _ i _ => mm - (intOf i).toNat)
  case atStart => exact ⟨0, w.heap.size, 0, [], rfl, by omega, by omega, rfl, by omega, Lib.hid ⟨rfl, fun q hq => by simp at hq, by simp⟩, HO0, HU0, HK0.out⟩
  case round =>
    obtain ⟨n, g, cc, PL, rfl, hn, hn6, rfl, hnc, HPk, HOw, HUs, hK⟩ := hrel
    have hDone : ∀ (hd : mm ≤ n ∨ ts.length ≤ n + 1), Hid (∃ (n2 : Nat) (PL' : List Nat), Pk ts p n2 PL' ∧ (nrP ts p).take n2 = (nrP ts p).take mm ∧ n2 ≤ 6 ∧ MadeL (ints PL') w (.returned (.slice (some ⟨g, 0, none⟩) n cc)) wr) := fun hd => Lib.hid (by
      have hl := HPk.out.len
      refine ⟨n, PL, HPk.out, ?_, hn6, ?_⟩
      · rcases hd with hd | hd
        · rw [show n = mm by omega]
        · rw [List.take_of_length_le (by omega), List.take_of_length_le (by omega)]
      · have h1 := HOw.out
        unfold OwnI at h1
        rw [ints_len, hl] at h1
        exact made_own h1 hK)
    by_cases hgo : n < mm ∧ n + 1 < ts.length
    case' neg =>
      have hgo2 : mm ≤ n ∨ (n < mm ∧ ts.length ≤ n + 1) := by omega
      have HD := hDone (by omega)
      clear hDone hgo
      rcases hgo2 with g1 | ⟨g1, g2⟩
      all_goals
        go_wp2
        go_ret
        obtain ⟨n', PL', h1, h2, h3, h4⟩ := HD.out
        exact ⟨n', PL', h1, h2, h3, h4⟩
    obtain ⟨g1, g2⟩ := hgo
    have hdn : decide ((n : Int) + 1 < (ts.length : Int)) = true := decide_eq_true (by omega)
    clear hDone
    obtain ⟨wo, rfl⟩ : ∃ wo : World, wo = wr := ⟨_, rfl⟩
    go_wp2_with fail
    go_loopw [10, 11] (fun v i wr => ∃ (k : Nat) (x : Int), k ≤ ts.length ∧ i = .int .i64 k ∧ v = .int .i64 x ∧ (-1 ≤ x ∧ x < 100) ∧ Hid (bestI ts p PL k x) ∧ Keep wo wr) (fun _ i _ => ts.length - (intOf i).toNat)
    case atStart => exact ⟨0, -1, by omega, rfl, rfl, by omega, Lib.hid (.inl ⟨rfl, fun u hu => absurd hu (by omega)⟩), Keep.refl _⟩
    case round =>
      obtain ⟨k, x, hk, rfl, rfl, ⟨x0, x1⟩, HB, hK2⟩ := hrel
      by_cases hkl : k < ts.length
      case' neg =>
        obtain rfl : k = ts.length := by omega
        obtain ⟨q, rfl, hql, hPk2, hUe⟩ := best_end HS.out hp HPk.out (by omega) HB.out
        have HPk2 := Lib.hid hPk2
        have hUq := HUs.out.keep hK2
        obtain ⟨uq, fq⟩ := hUq.cell hql
        have HU2 := Lib.hid ((hUq.set hql).congr (fun j _ => hUe j))
        generalize decide (q = p ∨ q ∈ PL) = bq at uq
        have HOw2 : Hid (OwnI (wr.setCell ⟨w.heap.size + 1, q, none⟩ (.bool true)) w.heap.size (.slice (some ⟨g, 0, none⟩) n cc) (ints PL)) := Lib.hid (by
          have h2 := HOw.out.keep hK2
          refine World.ownsRow.kept h2 ((Only.refl (w.heap.size + 1) _).put1 q (.bool true)) ?_
          right
          intro e
          injection e with e
          have e : g = w.heap.size + 1 := e
          rcases h2.2 with ⟨hv, _⟩ | ⟨g', cap', cur, hv, _, hgg, _⟩
          · cases hv
          · injection hv with hv _ _
            injection hv with hv
            injection hv with hv _ _
            rw [← hv, e] at hgg
            obtain ⟨cs, hbb, _⟩ := hUq
            rw [hbb] at hgg
            injection hgg with hgg
            injection hgg with _ h5 _
            cases h5)
        have HK2 := Lib.hid ((hK.trans hK2).setCell (show w.heap.size ≤ w.heap.size + 1 by omega) (o := q) (.bool true))
        have hown : (wr.setCell ⟨w.heap.size + 1, q, none⟩ (.bool true)).ownsRow w.heap.size 3 1 (.slice (some ⟨g, 0, none⟩) n cc) n ((ints PL).map (Value.int .i64)) := by
          have h9 := HOw2.out
          unfold OwnI at h9
          rwa [ints_len, HPk.out.len] at h9
        obtain ⟨LL, hLL⟩ : ∃ LL, ints PL = LL := ⟨_, rfl⟩
        have HLL := Lib.hid hLL
        rw [hLL] at hown
        have hq0 : (0 : Int) ≤ (q : Int) := by omega
        have hq1 : (q : Int) < (ts.length : Int) := by omega
        have hsz : w.heap.size ≤ wr.heap.size := (hK.trans hK2).size
        clear hLL HUs HB HPk hUq hPk2 hUe HOw HOw2
        go_wp2_with (at_builtin; refine wpList_append_own _ rfl _ _ 43 rfl w.heap.size 3 i0 (.int .i64 0) 1 8 Try.underlying43 hi hz0 hz1 hz2 rfl (by decide) _ _ _ rfl (hown.alloc _) ⟨wr.heap.size, 0, none⟩ 1 1 [.int .i64 (q : Int)] rfl rfl ?c1a ?c2a ?c3a ?c4a ?c5a ?_)
        case c1a =>
          intro j u hj
          match j, hj with
          | 0, hj => simp at hj; subst hj; first | (simp [Addr.add]; done) | (have h9 := World.cell?_alloc_new (wr.setCell ⟨w.heap.size + 1, q, none⟩ (.bool true)) #[.int .i64 (q : Int)] 3 0; rw [show (wr.setCell ⟨w.heap.size + 1, q, none⟩ (.bool true)).heap.size = wr.heap.size by simp [World.setCell]] at h9; rw [Addr.add_lit, Nat.zero_add]; exact h9)
        case c2a => first | rfl | (intro u hu; simp at hu; subst hu; rfl)
        case c3a => unfold maxLen; omega
        case c4a => omega
        case c5a => first | omega | (simp; omega)
        intro v' w6 hown' hgrow hnil
        have hrow : ∀ g', (Value.slice (some ⟨g, 0, none⟩) n cc).ownBlock = some g' → w.heap.size ≤ g' := fun g' hg => (hown.lt g' hg).1
        obtain ⟨x', cx', rfl, hbx, hlx⟩ := hown'.form (by omega)
        have hcx := own_capI2 hown'
        have HO6 : Hid (OwnI w6 w.heap.size (.slice (some ⟨x', 0, none⟩) (n + 1) cx') (ints (PL ++ [q]))) := Lib.hid (by
          unfold OwnI
          rw [ints_len, HPk2.out.len, ints_snoc, HLL.out, List.map_append]
          exact hown')
        have HK6 := Lib.hid ((HK2.out.alloc (.cells #[.int .i64 (q : Int)] 3)).grown2 hgrow (fun g' hg => hrow g' hg))
        have HU6 := Lib.hid ((HU2.out.keep ((Keep.refl _).alloc (.cells #[.int .i64 (q : Int)] 3))).grown (hown.alloc _) hgrow)
        clear hown' hgrow hnil hown hrow
        go_wp2
        go_roundw
        case rel => exact ⟨n + 1, x', cx', PL ++ [q], by go_num, by omega, by omega, rfl, hcx, HPk2, HO6, HU6, HK6.out⟩
        case measure => simp [intOf]; omega
      obtain ⟨uk, _⟩ := (HUs.out.keep hK2).cell hkl
      have k0 : (0 : Int) ≤ (k : Int) := by omega
      have kz : (k : Int) < (ts.length : Int) := by omega
      by_cases hu : k = p ∨ k ∈ PL
      · have HB2 := Lib.hid (best_used HB.out hu)
        rw [decide_eq_true hu] at uk
        clear hu
        go_wp2_with fail
        go_quiet (fail)
        go_wp2
        go_roundw
        case rel => exact ⟨k + 1, x, by omega, by go_num, rfl, by omega, HB2, by first | exact hK2 | exact hK2.drewN _⟩
        case measure => simp [intOf]; omega
      have hup : k ≠ p := fun e => hu (.inl e)
      have hun : k ∉ PL := fun e => hu (.inr e)
      rw [decide_eq_false hu] at uk
      clear hu
      by_cases hx : x < 0
      · obtain rfl : x = -1 := by omega
        have HB2 := Lib.hid (best_first HB.out hup hun)
        clear hup hun
        go_wp2_with fail
        go_quiet (fail)
        go_wp2
        go_roundw
        case rel => exact ⟨k + 1, (k : Int), by omega, by go_num, rfl, by omega, HB2, by first | exact hK2 | exact hK2.drewN _⟩
        case measure => simp [intOf]; omega
      obtain ⟨q, rfl⟩ : ∃ q : Nat, x = (q : Int) := ⟨x.toNat, by omega⟩
      have hqk : q < k := by
        rcases HB.out with ⟨e, _⟩ | ⟨q', e, h1, _⟩
        · omega
        · omega
      have hKW := hK.trans hK2
      obtain ⟨d0, d1, d2⟩ := (HC.out k hkl).keep hKW
      obtain ⟨e0, e1, e2⟩ := (HC.out q (by omega)).keep hKW
      obtain ⟨f0, f1, f2⟩ := (HC.out p hp).keep hKW
      have HTk := Lib.hid (si_tB HS.out hkl)
      have HTq := Lib.hid (si_tB HS.out (show q < ts.length by omega))
      have HBT := Lib.hid (fun hlt => best_take HS.out hkl HB.out hup hun hlt)
      have HBL := Lib.hid (fun hlt => best_leave HS.out hkl HB.out hlt)
      have HTP := HTC
      generalize ts.getD k t0 = rk at *
      generalize ts.getD q t0 = rq at *
      generalize ts.getD p t0 = rp at *
      have HF1 := Lib.hid (lfar rk rp HTk.out HTP.out)
      have HF2 := Lib.hid (lfar rq rp HTq.out HTP.out)
      unfold ag at HF1 HF2
      have q0 : (0 : Int) ≤ (q : Int) := by omega
      have qz : (q : Int) < (ts.length : Int) := by omega
      generalize far rk rp = fk at *
      generalize far rq rp = fq at *
      generalize tS rk = ks at *
      generalize tX rk = kx at *
      generalize tY rk = ky at *
      generalize tS rq = qs at *
      generalize tX rq = qx at *
      generalize tY rq = qy at *
      generalize tS rp = ps at *
      generalize tX rp = px at *
      generalize tY rp = py at *
      obtain ⟨W0, rfl⟩ : ∃ W0 : World, W0 = wr := ⟨_, rfl⟩
      have hfin : ∀ (W : World), Keep W0 W → Keep wo W := fun W k => hK2.trans k
      by_cases hlt : fk < fq
      · have HB2 := Lib.hid (HBT.out hlt)
        clear HBT HBL hup hun HTP
        go_wp2_with fail
        go_region_held3 (fun w' => Keep W0 w' ∧ w'.cell? ⟨w.heap.size + 1, k, none⟩ = some (.bool false) ∧ w'.cell? ⟨b, off + k * 3, none⟩ = some (.int .i64 ks) ∧ w'.cell? ⟨b, off + k * 3 + 1, none⟩ = some (.int .i64 kx) ∧ w'.cell? ⟨b, off + k * 3 + 2, none⟩ = some (.int .i64 ky) ∧ w'.cell? ⟨b, off + q * 3, none⟩ = some (.int .i64 qs) ∧ w'.cell? ⟨b, off + q * 3 + 1, none⟩ = some (.int .i64 qx) ∧ w'.cell? ⟨b, off + q * 3 + 2, none⟩ = some (.int .i64 qy) ∧ w'.cell? ⟨b, off + p * 3, none⟩ = some (.int .i64 ps) ∧ w'.cell? ⟨b, off + p * 3 + 1, none⟩ = some (.int .i64 px) ∧ w'.cell? ⟨b, off + p * 3 + 2, none⟩ = some (.int .i64 py))
          ((go_split_ands; refine (fun hK => ⟨hK, hK.cell uk, hK.cell d0, hK.cell d1, hK.cell d2, hK.cell e0, hK.cell e1, hK.cell e2, hK.cell f0, hK.cell f1, hK.cell f2⟩ : Keep W0 _ → _) ?_; (repeat' (first | with_reducible assumption | with_reducible exact Keep.refl _ | with_reducible refine Keep.drew ?_ | with_reducible refine Keep.alloc ?_ _ | with_reducible refine Keep.trans ?_ hk))))
          (first
          | (go_at_call 120; go_split_ands; (with_reducible refine (HF1.out _).mono ?_); rintro e w' ⟨rfl, hk⟩; go_split_ands; have hK : Keep W0 w' := Keep.trans (by (repeat' (first | with_reducible assumption | with_reducible exact Keep.refl _ | with_reducible refine Keep.drew ?_ | with_reducible refine Keep.alloc ?_ _ | with_reducible refine Keep.trans ?_ hk))) hk)
          | (go_at_call 120; go_split_ands; (with_reducible refine (HF2.out _).mono ?_); rintro e w' ⟨rfl, hk⟩; go_split_ands; have hK : Keep W0 w' := Keep.trans (by (repeat' (first | with_reducible assumption | with_reducible exact Keep.refl _ | with_reducible refine Keep.drew ?_ | with_reducible refine Keep.alloc ?_ _ | with_reducible refine Keep.trans ?_ hk))) hk))
        all_goals
          go_wp2
          go_roundw
          case rel => exact ⟨k + 1, (k : Int), by omega, by go_num, rfl, by omega, HB2, hfin _ (by (repeat' (first | with_reducible assumption | with_reducible exact Keep.refl _ | with_reducible refine Keep.drew ?_ | with_reducible refine Keep.alloc ?_ _ | with_reducible refine Keep.trans ?_ hk)))⟩
          case measure => simp [intOf]; omega
      · have HB2 := Lib.hid (HBL.out hlt)
        clear HBT HBL hup hun HTP
        go_wp2_with fail
        go_region_held3 (fun w' => Keep W0 w' ∧ w'.cell? ⟨w.heap.size + 1, k, none⟩ = some (.bool false) ∧ w'.cell? ⟨b, off + k * 3, none⟩ = some (.int .i64 ks) ∧ w'.cell? ⟨b, off + k * 3 + 1, none⟩ = some (.int .i64 kx) ∧ w'.cell? ⟨b, off + k * 3 + 2, none⟩ = some (.int .i64 ky) ∧ w'.cell? ⟨b, off + q * 3, none⟩ = some (.int .i64 qs) ∧ w'.cell? ⟨b, off + q * 3 + 1, none⟩ = some (.int .i64 qx) ∧ w'.cell? ⟨b, off + q * 3 + 2, none⟩ = some (.int .i64 qy) ∧ w'.cell? ⟨b, off + p * 3, none⟩ = some (.int .i64 ps) ∧ w'.cell? ⟨b, off + p * 3 + 1, none⟩ = some (.int .i64 px) ∧ w'.cell? ⟨b, off + p * 3 + 2, none⟩ = some (.int .i64 py))
          ((go_split_ands; refine (fun hK => ⟨hK, hK.cell uk, hK.cell d0, hK.cell d1, hK.cell d2, hK.cell e0, hK.cell e1, hK.cell e2, hK.cell f0, hK.cell f1, hK.cell f2⟩ : Keep W0 _ → _) ?_; (repeat' (first | with_reducible assumption | with_reducible exact Keep.refl _ | with_reducible refine Keep.drew ?_ | with_reducible refine Keep.alloc ?_ _ | with_reducible refine Keep.trans ?_ hk))))
          (first
          | (go_at_call 120; go_split_ands; (with_reducible refine (HF1.out _).mono ?_); rintro e w' ⟨rfl, hk⟩; go_split_ands; have hK : Keep W0 w' := Keep.trans (by (repeat' (first | with_reducible assumption | with_reducible exact Keep.refl _ | with_reducible refine Keep.drew ?_ | with_reducible refine Keep.alloc ?_ _ | with_reducible refine Keep.trans ?_ hk))) hk)
          | (go_at_call 120; go_split_ands; (with_reducible refine (HF2.out _).mono ?_); rintro e w' ⟨rfl, hk⟩; go_split_ands; have hK : Keep W0 w' := Keep.trans (by (repeat' (first | with_reducible assumption | with_reducible exact Keep.refl _ | with_reducible refine Keep.drew ?_ | with_reducible refine Keep.alloc ?_ _ | with_reducible refine Keep.trans ?_ hk))) hk))
        all_goals
          go_wp2
          go_roundw
          case rel => exact ⟨k + 1, (q : Int), by omega, by go_num, rfl, by omega, HB2, hfin _ (by (repeat' (first | with_reducible assumption | with_reducible exact Keep.refl _ | with_reducible refine Keep.drew ?_ | with_reducible refine Keep.alloc ?_ _ | with_reducible refine Keep.trans ?_ hk)))⟩
          case measure => simp [intOf]; omega
end Go.Proofs.Ytpgdbhafdnfhcaa
