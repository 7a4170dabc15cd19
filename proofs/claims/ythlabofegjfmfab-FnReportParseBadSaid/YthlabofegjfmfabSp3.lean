/- The model's parser of reports: it answers what 'Parsed' says. -/
import Derived.Test.YthlabofegjfmfabSp2
import Derived.Test.YthlabofegjfmfabCut
import Derived.Test.YthlabofegjfmfabRep
import Derived.BigQuiet
import Derived.Deep.QuietTactic
namespace Go.Proofs.Ythlabofegjfmfab
open Go.RowKit
set_option linter.unusedVariables false

def lett (j : Nat) : UInt8 := if j = 0 then 116 else if j = 1 then 114 else 112
theorem letter_lett {j : Nat} (h : j < 3) : letter (lett j) = j + 1 := by
  rcases (show j = 0 ∨ j = 1 ∨ j = 2 by omega) with rfl | rfl | rfl <;> rfl
theorem lett_letter {c : UInt8} (h : 1 ≤ letter c) : ∃ j, j < 3 ∧ c = lett j := by
  unfold letter at h
  by_cases h1 : c = 116
  · exact ⟨0, by omega, h1⟩
  · by_cases h2 : c = 114
    · exact ⟨1, by omega, h2⟩
    · by_cases h3 : c = 112
      · exact ⟨2, by omega, h3⟩
      · simp [h1, h2, h3] at h
theorem lett_ne {j : Nat} : lett j ≠ 32 := by unfold lett; split <;> (try split) <;> decide

theorem words_of_rep {l : List UInt8} {s d k v : Int} (h : Rep l s d k v) : ∃ a b e c, Words 32 l [115 :: a, 100 :: b, c :: e] ∧ numOk a = true ∧ numV a = s ∧ numOk b = true ∧ numV b = d ∧ letter c = k ∧ 1 ≤ k ∧ numOk e = true ∧ numV e = v := by
  obtain ⟨a, b, e, c, hl, h1, h2, h3, h4, h5, h6, h7, h8⟩ := (rep_words l s d k v).1 h
  refine ⟨a, b, e, c, ⟨[115 :: a, 100 :: b], c :: e, rfl, ?_, ?_⟩, h1, h2, h3, h4, h5, h6, h7, h8⟩
  · rw [hl]; simp [flat]
  · intro p hp
    simp only [List.mem_cons, List.not_mem_nil, or_false] at hp
    have hc : c ≠ 32 := by
      rintro rfl
      rw [← h5] at h6
      revert h6; decide
    rcases hp with rfl | rfl | rfl
    · simp [numOk_no h1]
    · simp [numOk_no h3]
    · simp [numOk_no h7, hc.symm]
theorem rep_len {l : List UInt8} {ps : List (List UInt8)} (hw : Words 32 l ps) (hn : ps.length ≠ 3) (s d k v : Int) : ¬ Rep l s d k v := by
  intro h
  obtain ⟨a, b, e, c, h1, _⟩ := words_of_rep h
  have := hw.unique h1
  rw [this] at hn
  simp at hn
theorem rep3_no {l p0 p1 p2 : List UInt8} (hw : Words 32 l [p0, p1, p2]) (hb : wordOk p0 115 = false ∨ wordOk p1 100 = false ∨ ∀ j, j < 3 → wordOk p2 (lett j) = false) (s d k v : Int) : ¬ Rep l s d k v := by
  intro h
  obtain ⟨a, b, e, c, h1, h2, _, h4, _, h6, h7, h8, _⟩ := words_of_rep h
  have := hw.unique h1
  simp only [List.cons.injEq, and_true] at this
  obtain ⟨rfl, rfl, rfl⟩ := this
  rcases hb with hb | hb | hb
  · rw [wordOk_of h2] at hb; cases hb
  · rw [wordOk_of h4] at hb; cases hb
  · obtain ⟨j, hj, rfl⟩ := lett_letter (c := c) (by rw [h6]; exact h7)
    have := hb j hj
    rw [wordOk_of h8] at this; cases this
theorem rep3_yes {l p0 p1 p2 : List UInt8} {j : Nat} (hw : Words 32 l [p0, p1, p2]) (h0 : wordOk p0 115 = true) (h1 : wordOk p1 100 = true) (hj : j < 3) (h2 : wordOk p2 (lett j) = true) :
    Rep l (wordRaw p0 115) (wordRaw p1 100) (j + 1) (wordRaw p2 (lett j)) := by
  obtain ⟨a, rfl, a1, a2⟩ := wordOk_cases h0
  obtain ⟨b, rfl, b1, b2⟩ := wordOk_cases h1
  obtain ⟨e, rfl, e1, e2⟩ := wordOk_cases h2
  obtain ⟨init, last, hp, hl, hn⟩ := hw
  have hi : init = [115 :: a, 100 :: b] ∧ last = lett j :: e := by
    have h3 := congrArg List.getLast? hp
    have h4 := congrArg List.dropLast hp
    simp at h3 h4
    exact ⟨h4.symm, h3.symm⟩
  rw [hi.1, hi.2] at hl
  refine (rep_words _ _ _ _ _).2 ⟨a, b, e, lett j, ?_, a1, a2.symm, b1, b2.symm, letter_lett hj, by omega, e1, e2.symm⟩
  rw [hl]; simp [flat]
theorem words_size {l : List UInt8} {ps : List (List UInt8)} (hw : Words 32 l ps) : ∀ p ∈ ps, p.length ≤ l.length := by
  obtain ⟨init, last, rfl, hl, _⟩ := hw
  have hf : ∀ (i : List (List UInt8)), ∀ p ∈ i, p.length ≤ (flat 32 i).length := by
    intro i
    induction i with
    | nil => simp
    | cons q r ih =>
      intro p hp
      simp only [List.mem_cons] at hp
      simp only [flat, List.length_append, List.length_cons]
      rcases hp with rfl | hp
      · omega
      · have := ih p hp; omega
  intro p hp
  rw [List.mem_append] at hp
  have h2 := congrArg List.length hl
  simp at h2
  rcases hp with hp | hp
  · have := hf init p hp; omega
  · simp at hp; rw [hp]; omega

/-- Kind and value behind k rounds over the letters. -/
def KV (p : List UInt8) (k : Nat) (K V : Int) : Prop :=
  (K = 0 ∧ V = 0 ∧ ∀ j, j < k → wordOk p (lett j) = false) ∨ ∃ j, j < k ∧ wordOk p (lett j) = true ∧ K = j + 1 ∧ V = wordRaw p (lett j)
theorem KV.miss {p : List UInt8} {k : Nat} {K V : Int} (h : KV p k K V) (hk : wordOk p (lett k) = false) : KV p (k + 1) K V := by
  rcases h with ⟨h1, h2, h3⟩ | ⟨j, h1, h2⟩
  · refine .inl ⟨h1, h2, fun j hj => ?_⟩
    by_cases e : j = k
    · rw [e]; exact hk
    · exact h3 j (by omega)
  · exact .inr ⟨j, by omega, h2⟩
theorem KV.hit {p : List UInt8} {k : Nat} (hk : wordOk p (lett k) = true) : KV p (k + 1) (k + 1) (wordRaw p (lett k)) := .inr ⟨k, by omega, hk, rfl, rfl⟩
theorem kv_zero {p : List UInt8} : KV p 0 0 0 := .inl ⟨rfl, rfl, fun j hj => by omega⟩
theorem rOk_kind (s d v : Int) : rOk s d 0 v = false := by simp [rOk, kOk]

theorem three {ps : List ByteArray} (h : ps.length = 3) : ∃ a b c, ps = [a, b, c] := by
  match ps, h with
  | [a, b, c], _ => exact ⟨a, b, c, rfl⟩

/-- What the loop over the letters keeps: the report that is made in block R, the last word in block g, the result's block. -/
structure PSt (w : World) (g R : Nat) (p2 : ByteArray) (n0 n1 K V : Int) (wr : World) : Prop where
  c0 : wr.cell? ⟨R, 0, none⟩ = some (.int .i64 n0)
  c1 : wr.cell? ⟨R, 1, none⟩ = some (.int .i64 n1)
  c2 : wr.cell? ⟨R, 2, none⟩ = some (.int .i64 K)
  c3 : wr.cell? ⟨R, 3, none⟩ = some (.int .i64 V)
  f2 : wr.frozen? ⟨R, 2, none⟩ = false
  f3 : wr.frozen? ⟨R, 3, none⟩ = false
  g2 : wr.cell? ⟨g, 2, none⟩ = some (.string p2)
  r : ∀ j, j < 4 → wr.cell? ⟨w.heap.size, j, none⟩ = some (.int .i64 0) ∧ wr.frozen? ⟨w.heap.size, j, none⟩ = false
  k : Keep w wr
theorem PSt.drewN {w wr : World} {g R : Nat} {p2 : ByteArray} {n0 n1 K V : Int} (h : PSt w g R p2 n0 n1 K V wr) (n : Nat) : PSt w g R p2 n0 n1 K V (wr.drewN n) :=
  ⟨h.c0, h.c1, h.c2, h.c3, h.f2, h.f3, h.g2, h.r, h.k.drewN n⟩
theorem PSt.put {w wr : World} {g R : Nat} {p2 : ByteArray} {n0 n1 K V : Int} (h : PSt w g R p2 n0 n1 K V wr) (hg : g ≠ R) (hR : w.heap.size < R) (K' V' : Int) :
    PSt w g R p2 n0 n1 K' V' ((wr.setCell ⟨R, 2, none⟩ (.int .i64 K')).setCell ⟨R, 3, none⟩ (.int .i64 V')) := by
  have ne : ∀ (b o o' : Nat), b ≠ R → (⟨R, o', none⟩ : Addr) ≠ ⟨b, o, none⟩ := fun b o o' hb h => by simp only [Addr.mk.injEq] at h; omega
  have no : ∀ (o o' : Nat), o ≠ o' → (⟨R, o', none⟩ : Addr) ≠ ⟨R, o, none⟩ := fun o o' ho h => by simp only [Addr.mk.injEq] at h; omega
  have oth : ∀ (b o : Nat), b ≠ R → ((wr.setCell ⟨R, 2, none⟩ (.int .i64 K')).setCell ⟨R, 3, none⟩ (.int .i64 V')).cell? ⟨b, o, none⟩ = wr.cell? ⟨b, o, none⟩ := fun b o hb => by
    rw [World.cell?_setCell_other _ _ _ _ (ne b o 3 hb), World.cell?_setCell_other _ _ _ _ (ne b o 2 hb)]
  refine ⟨?_, ?_, ?_, ?_, ?_, ?_, (oth g 2 hg).trans h.g2, fun j hj => ⟨(oth _ j (by omega)).trans (h.r j hj).1, ?_⟩, (h.k.setCell (by omega) _).setCell (by omega) _⟩
  · rw [World.cell?_setCell_other _ _ _ _ (no 0 3 (by omega)), World.cell?_setCell_other _ _ _ _ (no 0 2 (by omega))]; exact h.c0
  · rw [World.cell?_setCell_other _ _ _ _ (no 1 3 (by omega)), World.cell?_setCell_other _ _ _ _ (no 1 2 (by omega))]; exact h.c1
  · rw [World.cell?_setCell_other _ _ _ _ (no 2 3 (by omega))]; exact World.cell?_setCell_same _ _ _ h.c2
  · exact World.cell?_setCell_same _ _ _ (by rw [World.cell?_setCell_other _ _ _ _ (no 3 2 (by omega))]; exact h.c3)
  · rw [World.frozen?_setCell, World.frozen?_setCell]; exact h.f2
  · rw [World.frozen?_setCell, World.frozen?_setCell]; exact h.f3
  · rw [World.frozen?_setCell, World.frozen?_setCell]; exact (h.r j hj).2

theorem sword_q (s : ByteArray) (x : UInt8) (w : World) (hs : s.size ≤ 1048576) :
    Calls Try.prog 16 #[.string s, .int .u8 (x.toNat : Int)] w fun e w' => e = .returned (.tuple #[.int .i64 (wordRaw s.data.toList x), .bool (wordOk s.data.toList x)]) ∧ w' = w :=
  (sword_any s x w hs).mono fun e w' ⟨h1, h2⟩ => ⟨h2, h1.symm⟩

set_option maxRecDepth 100000 in
set_option maxHeartbeats 4000000 in
theorem rp_spec (s : ByteArray) (w : World) (hs : s.size ≤ 1048576) :
    Calls Try.prog 6 #[.string s] w fun e w' => Parsed s.data.toList e ∧ Keep w w' := by
  go_enter Try.func6, Try.ntmps6
  go_wp2_with fail
  refine (cut_any s 32 _ hs).mono ?_
  rintro e w1 ⟨ps, v, rfl, hown, hw, hk1, hv⟩
  have r0 : w1.cell? ⟨w.heap.size, 0, none⟩ = some (.int .i64 0) := hk1.cell (by go_simp)
  have f0 : w1.frozen? ⟨w.heap.size, 0, none⟩ = false := hk1.still (v := .int .i64 0) (by go_simp) (by go_simp)
  have r1 : w1.cell? ⟨w.heap.size, 1, none⟩ = some (.int .i64 0) := hk1.cell (by go_simp)
  have f1 : w1.frozen? ⟨w.heap.size, 1, none⟩ = false := hk1.still (v := .int .i64 0) (by go_simp) (by go_simp)
  have r2 : w1.cell? ⟨w.heap.size, 2, none⟩ = some (.int .i64 0) := hk1.cell (by go_simp)
  have f2 : w1.frozen? ⟨w.heap.size, 2, none⟩ = false := hk1.still (v := .int .i64 0) (by go_simp) (by go_simp)
  have r3 : w1.cell? ⟨w.heap.size, 3, none⟩ = some (.int .i64 0) := hk1.cell (by go_simp)
  have f3 : w1.frozen? ⟨w.heap.size, 3, none⟩ = false := hk1.still (v := .int .i64 0) (by go_simp) (by go_simp)
  have k1 : Keep w w1 := ((Keep.refl w).alloc _).trans hk1
  have hz0 : w.heap.size < w1.heap.size := World.block_lt_of_cell? w1 _ r0
  rcases hown.2 with ⟨h0, _⟩ | ⟨g, cap, cur, hv', hgb, hgh, hn, hcap, _, _⟩
  · exact absurd h0 hv
  subst hv'
  have HW := Lib.hid hw
  clear hw hv
  by_cases hlen : ps.length = 3
  case' neg =>
    have hld : ((ps.length : Int) != 3) = true := by simp; omega
    have HL := Lib.hid hlen
    clear hlen
    go_wp2
    refine bodyPost_ret (v := .tuple #[.agg #[.int .i64 0, .int .i64 0, .int .i64 0, .int .i64 0], .bool false]) (by simp [results, Try.results6, go_sem, *]) rfl ⟨.inr ⟨?_, rfl⟩, ?_⟩
    · intro s' d k v hr
      exact absurd hr (rep_len HW.out (by simpa using HL.out) _ _ _ _)
    · exact ((((k1.setCell (Nat.le_refl _) _).setCell (Nat.le_refl _) _).setCell (Nat.le_refl _) _).setCell (Nat.le_refl _) _)
  case' pos =>
    obtain ⟨p0, p1, p2, rfl⟩ := three hlen
    have hc0 : w1.cell? ⟨g, 0, none⟩ = some (.string p0) := hown.cellAt 0 (by simp)
    have hc1 : w1.cell? ⟨g, 1, none⟩ = some (.string p1) := hown.cellAt 1 (by simp)
    have hc2 : w1.cell? ⟨g, 2, none⟩ = some (.string p2) := hown.cellAt 2 (by simp)
    have hgz : g < w1.heap.size := World.block_lt_of_cell? w1 _ hc0
    have hsz := words_size HW.out
    have hp0 : p0.size ≤ 1048576 := by have := hsz p0.data.toList (by simp); simp at this; omega
    have hp1 : p1.size ≤ 1048576 := by have := hsz p1.data.toList (by simp); simp at this; omega
    have hp2 : p2.size ≤ 1048576 := by have := hsz p2.data.toList (by simp); simp at this; omega
    clear hsz hlen hn
    go_wp2_with fail
    refine (sword_any p0 115 _ hp0).mono ?_
    rintro e w' ⟨rfl, rfl⟩
    go_wp2_with fail
    refine (sword_any p1 100 _ hp1).mono ?_
    rintro e w' ⟨rfl, rfl⟩
    obtain ⟨n0, hn0⟩ : ∃ n : Int, Hid (wordRaw p0.data.toList 115 = n) := ⟨_, Lib.hid rfl⟩
    obtain ⟨n1, hn1⟩ : ∃ n : Int, Hid (wordRaw p1.data.toList 100 = n) := ⟨_, Lib.hid rfl⟩
    rw [hn0.out, hn1.out]
    go_wp2_with fail
    have hgR : g ≠ w1.heap.size := by omega
    have k2 : Keep w1 (w1.alloc (.cells #[.int .i64 n0, .int .i64 n1, .int .i64 0, .int .i64 0] 25)) := (Keep.refl w1).alloc _
    have hst : PSt w g w1.heap.size p2 n0 n1 0 0 (w1.alloc (.cells #[.int .i64 n0, .int .i64 n1, .int .i64 0, .int .i64 0] 25)) := by
      refine ⟨by go_simp, by go_simp, by go_simp, by go_simp, by go_simp, by go_simp, k2.cell hc2, fun j hj => ?_, k1.trans k2⟩
      rcases (show j = 0 ∨ j = 1 ∨ j = 2 ∨ j = 3 by omega) with rfl | rfl | rfl | rfl
      · exact ⟨k2.cell r0, k2.still r0 f0⟩
      · exact ⟨k2.cell r1, k2.still r1 f1⟩
      · exact ⟨k2.cell r2, k2.still r2 f2⟩
      · exact ⟨k2.cell r3, k2.still r3 f3⟩
    clear r0 r1 r2 r3 f0 f1 f2 f3 hc0 hc1 hc2 k2 hown hgh
    generalize w1.heap.size = R at hst hgR hz0 hgz ⊢
    go_loopw [11] (fun i wr => ∃ (k : Nat) (K V : Int), i = .int .i64 k ∧ k ≤ 3 ∧ Hid (KV p2.data.toList k K V) ∧ PSt w g R p2 n0 n1 K V wr) (fun i _ => 3 - (intOf i).toNat)
    case atStart => exact ⟨0, 0, 0, rfl, by omega, Lib.hid kv_zero, hst⟩
    case round =>
      obtain ⟨k, K, V, rfl, hk, HK, hps⟩ := hrel
      clear hst
      obtain ⟨c0, c1, c2, c3, f2, f3, g2, _, _⟩ := id hps
      rcases (show k = 0 ∨ k = 1 ∨ k = 2 ∨ k = 3 by omega) with rfl | rfl | rfl | rfl
      case' inl =>
        rcases Bool.eq_false_or_eq_true (wordOk p2.data.toList 116) with hok | hok
        case' inr =>
          have HM : Hid (KV p2.data.toList 1 K V) := Lib.hid (HK.out.miss hok)
          go_wp2_with fail
          go_quiet ((go_at_call 16; exact Calls.quiet_of_same (sword_q p2 116 _ hp2)))
          go_wp2
          go_roundw
          case rel => exact ⟨1, K, V, by first | rfl | go_num, by omega, HM, hps.drewN _⟩
          case measure => simp [intOf]
        case' inl =>
          have HM : Hid (KV p2.data.toList 1 1 (wordRaw p2.data.toList 116)) := Lib.hid (KV.hit (k := 0) hok)
          go_wp2_with fail
          go_quiet ((go_at_call 16; exact Calls.quiet_of_same (sword_q p2 116 _ hp2)))
          go_wp2
          go_roundw
          case rel => exact ⟨1, 1, _, by first | rfl | go_num, by omega, HM, (hps.drewN _).put hgR hz0 _ _⟩
          case measure => simp [intOf]
      case' inr.inl =>
        rcases Bool.eq_false_or_eq_true (wordOk p2.data.toList 114) with hok | hok
        case' inr =>
          have HM : Hid (KV p2.data.toList 2 K V) := Lib.hid (HK.out.miss hok)
          go_wp2_with fail
          go_quiet ((go_at_call 16; exact Calls.quiet_of_same (sword_q p2 114 _ hp2)))
          go_wp2
          go_roundw
          case rel => exact ⟨2, K, V, by first | rfl | go_num, by omega, HM, hps.drewN _⟩
          case measure => simp [intOf]
        case' inl =>
          have HM : Hid (KV p2.data.toList 2 2 (wordRaw p2.data.toList 114)) := Lib.hid (KV.hit (k := 1) hok)
          go_wp2_with fail
          go_quiet ((go_at_call 16; exact Calls.quiet_of_same (sword_q p2 114 _ hp2)))
          go_wp2
          go_roundw
          case rel => exact ⟨2, 2, _, by first | rfl | go_num, by omega, HM, (hps.drewN _).put hgR hz0 _ _⟩
          case measure => simp [intOf]
      case' inr.inr.inl =>
        rcases Bool.eq_false_or_eq_true (wordOk p2.data.toList 112) with hok | hok
        case' inr =>
          have HM : Hid (KV p2.data.toList 3 K V) := Lib.hid (HK.out.miss hok)
          go_wp2_with fail
          go_quiet ((go_at_call 16; exact Calls.quiet_of_same (sword_q p2 112 _ hp2)))
          go_wp2
          go_roundw
          case rel => exact ⟨3, K, V, by first | rfl | go_num, by omega, HM, hps.drewN _⟩
          case measure => simp [intOf]
        case' inl =>
          have HM : Hid (KV p2.data.toList 3 3 (wordRaw p2.data.toList 112)) := Lib.hid (KV.hit (k := 2) hok)
          go_wp2_with fail
          go_quiet ((go_at_call 16; exact Calls.quiet_of_same (sword_q p2 112 _ hp2)))
          go_wp2
          go_roundw
          case rel => exact ⟨3, 3, _, by first | rfl | go_num, by omega, HM, (hps.drewN _).put hgR hz0 _ _⟩
          case measure => simp [intOf]
      case' inr.inr.inr =>
        have kw := hps.k
        have r0 := (hps.r 0 (by omega)).1
        have f0' := (hps.r 0 (by omega)).2
        have r1 := (hps.r 1 (by omega)).1
        have f1' := (hps.r 1 (by omega)).2
        have r2 := (hps.r 2 (by omega)).1
        have f2' := (hps.r 2 (by omega)).2
        have r3 := (hps.r 3 (by omega)).1
        have f3' := (hps.r 3 (by omega)).2
        rcases Bool.eq_false_or_eq_true (wordOk p0.data.toList 115) with h0 | h0
        case' inr =>
          have H0 := Lib.hid h0
          go_wp2
          refine bodyPost_ret (v := .tuple #[.agg #[.int .i64 0, .int .i64 0, .int .i64 0, .int .i64 0], .bool false]) (by simp [results, Try.results6, go_sem, *]) rfl ⟨.inr ⟨?_, rfl⟩, ?_⟩
          · intro s' d k v hr
            exact absurd hr (rep3_no HW.out (.inl H0.out) _ _ _ _)
          · exact ((((kw.setCell (Nat.le_refl _) _).setCell (Nat.le_refl _) _).setCell (Nat.le_refl _) _).setCell (Nat.le_refl _) _)
        case' inl =>
          rcases Bool.eq_false_or_eq_true (wordOk p1.data.toList 100) with h1 | h1
          case' inr =>
            have H1 := Lib.hid h1
            go_wp2
            refine bodyPost_ret (v := .tuple #[.agg #[.int .i64 0, .int .i64 0, .int .i64 0, .int .i64 0], .bool false]) (by simp [results, Try.results6, go_sem, *]) rfl ⟨.inr ⟨?_, rfl⟩, ?_⟩
            · intro s' d k v hr
              exact absurd hr (rep3_no HW.out (.inr (.inl H1.out)) _ _ _ _)
            · exact ((((kw.setCell (Nat.le_refl _) _).setCell (Nat.le_refl _) _).setCell (Nat.le_refl _) _).setCell (Nat.le_refl _) _)
          case' inl =>
            have H0 := Lib.hid h0
            have H1 := Lib.hid h1
            go_wp2_with fail
            refine (rv_spec n0 n1 K V _).mono ?_
            rintro e w4 ⟨rfl, k4⟩
            have k4 : Keep wr w4 := k4
            have kw4 := kw.trans k4
            have x0 := k4.cell c0
            have x1 := k4.cell c1
            have x2 := k4.cell c2
            have x3 := k4.cell c3
            have s0 := k4.cell r0
            have t0 := k4.still r0 f0'
            have s1 := k4.cell r1
            have t1 := k4.still r1 f1'
            have s2 := k4.cell r2
            have t2 := k4.still r2 f2'
            have s3 := k4.cell r3
            have t3 := k4.still r3 f3'
            rcases Bool.eq_false_or_eq_true (rOk n0 n1 K V) with hv | hv
            case' inr =>
              have HV := Lib.hid hv
              go_wp2
              refine bodyPost_ret (v := .tuple #[.agg #[.int .i64 0, .int .i64 0, .int .i64 0, .int .i64 0], .bool false]) (by simp [results, Try.results6, go_sem, *]) rfl ⟨.inr ⟨?_, rfl⟩, ?_⟩
              · intro s' d k v hr
                rcases HK.out with ⟨e1, e2, e3⟩ | ⟨j, e1, e2, e3, e4⟩
                · exact absurd hr (rep3_no HW.out (.inr (.inr e3)) _ _ _ _)
                · have hy := rep3_yes HW.out H0.out H1.out e1 e2
                  rw [hn0.out, hn1.out, ← e3, ← e4] at hy
                  obtain ⟨rfl, rfl, rfl, rfl⟩ := hy.unique hr
                  exact HV.out
              · exact ((((kw4.setCell (Nat.le_refl _) _).setCell (Nat.le_refl _) _).setCell (Nat.le_refl _) _).setCell (Nat.le_refl _) _)
            case' inl =>
              have HV := Lib.hid hv
              go_wp2
              refine bodyPost_ret (v := .tuple #[.agg #[.int .i64 n0, .int .i64 n1, .int .i64 K, .int .i64 V], .bool true]) (by simp [results, Try.results6, go_sem, *]) rfl ⟨.inl ⟨n0, n1, K, V, ?_, HV.out, rfl⟩, ?_⟩
              · rcases HK.out with ⟨e1, e2, e3⟩ | ⟨j, e1, e2, e3, e4⟩
                · have := HV.out
                  rw [e1, rOk_kind] at this
                  cases this
                · have hy := rep3_yes HW.out H0.out H1.out e1 e2
                  rw [hn0.out, hn1.out, ← e3, ← e4] at hy
                  exact hy
              · exact ((((kw4.setCell (Nat.le_refl _) _).setCell (Nat.le_refl _) _).setCell (Nat.le_refl _) _).setCell (Nat.le_refl _) _)
end Go.Proofs.Ythlabofegjfmfab
