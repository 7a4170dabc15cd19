/- The model's cutting of a text into words. -/
import Derived.Test.YtnemdnidlbekbaaGreatDoorKeep
import Derived.LoopTactic
import Derived.IntWalk
import Derived.Lib.Hide
import Derived.WalkSpells
import Derived.Lib.Strings
import Derived.Lib.IndexBytes
import Derived.Outline
import Derived.Laws.OwnMore
namespace Go.Proofs.YtnemdnidlbekbaaGreatDoor
open Go.RowKit
set_option linter.unusedVariables false

/-- Words, each followed by the byte x. -/
def flat (x : UInt8) : List (List UInt8) → List UInt8
  | [] => []
  | p :: r => p ++ x :: flat x r
theorem flat_snoc (x : UInt8) (ps : List (List UInt8)) (q : List UInt8) : flat x (ps ++ [q]) = flat x ps ++ (q ++ [x]) := by
  induction ps with
  | nil => simp [flat]
  | cons p r ih => simp [flat, ih]

/-- The text l, cut at each x: the words but the last, and the last one. -/
def Words (x : UInt8) (l : List UInt8) (ps : List (List UInt8)) : Prop := ∃ init last, ps = init ++ [last] ∧ l = flat x init ++ last ∧ (∀ p ∈ ps, x ∉ p)

theorem split_first {x : UInt8} : ∀ {p q r t : List UInt8}, x ∉ p → x ∉ q → p ++ x :: r = q ++ x :: t → p = q ∧ r = t
  | [], [], r, t, _, _, h => ⟨rfl, (List.cons.inj h).2⟩
  | [], b :: q, r, t, _, hq, h => absurd (by have := (List.cons.inj h).1; rw [this]; exact List.mem_cons_self) hq
  | a :: p, [], r, t, hp, _, h => absurd (by have := (List.cons.inj h).1; rw [← this]; exact List.mem_cons_self) hp
  | a :: p, b :: q, r, t, hp, hq, h => by
    obtain ⟨h1, h2⟩ := List.cons.inj h
    obtain ⟨h3, h4⟩ := split_first (fun hm => hp (List.mem_cons_of_mem _ hm)) (fun hm => hq (List.mem_cons_of_mem _ hm)) h2
    exact ⟨by rw [h1, h3], h4⟩
theorem words_unique {x : UInt8} : ∀ (i j : List (List UInt8)) (a b : List UInt8), (∀ p ∈ i, x ∉ p) → x ∉ a → (∀ p ∈ j, x ∉ p) → x ∉ b → flat x i ++ a = flat x j ++ b → i = j ∧ a = b
  | [], [], a, b, _, _, _, _, h => ⟨rfl, h⟩
  | [], q :: j, a, b, _, ha, _, _, h => absurd (by
      have : a = q ++ x :: flat x j ++ b := h
      rw [this]; simp) ha
  | p :: i, [], a, b, _, _, _, hb, h => absurd (by
      have : p ++ x :: flat x i ++ a = b := h
      rw [← this]; simp) hb
  | p :: i, q :: j, a, b, hi, ha, hj, hb, h => by
    have h' : p ++ x :: (flat x i ++ a) = q ++ x :: (flat x j ++ b) := by simpa [flat] using h
    obtain ⟨h1, h2⟩ := split_first (hi p List.mem_cons_self) (hj q List.mem_cons_self) h'
    obtain ⟨h3, h4⟩ := words_unique i j a b (fun p' hp' => hi p' (List.mem_cons_of_mem _ hp')) ha (fun p' hp' => hj p' (List.mem_cons_of_mem _ hp')) hb h2
    exact ⟨by rw [h1, h3], h4⟩
theorem Words.unique {x : UInt8} {l : List UInt8} {ps qs : List (List UInt8)} (h : Words x l ps) (h' : Words x l qs) : ps = qs := by
  obtain ⟨i, a, rfl, e1, n1⟩ := h
  obtain ⟨j, b, rfl, e2, n2⟩ := h'
  obtain ⟨h1, h2⟩ := words_unique i j a b (fun p hp => n1 p (by simp [hp])) (n1 a (by simp)) (fun p hp => n2 p (by simp [hp])) (n2 b (by simp)) (e1.symm.trans e2)
  rw [h1, h2]

/-- What is known ahead of each round of the cutting. -/
structure Cutting (x : UInt8) (l : List UInt8) (fr k : Nat) (ps : List ByteArray) : Prop where
  le : fr ≤ k
  upto : k ≤ l.length
  len : ps.length ≤ k
  done : flat x (ps.map (·.data.toList)) = l.take fr
  free : ∀ p ∈ ps, x ∉ p.data.toList
  open_ : x ∉ (l.drop fr).take (k - fr)

theorem Cutting.start (x : UInt8) (l : List UInt8) : Cutting x l 0 0 [] := ⟨Nat.le_refl _, Nat.zero_le _, Nat.le_refl _, by simp [flat], by simp, by simp⟩
theorem seg (s : ByteArray) (a b : Nat) : (s.extract a b).data.toList = (s.data.toList.drop a).take (b - a) := Lib.extract_data s a b
theorem Cutting.cut {x : UInt8} {s : ByteArray} {fr k : Nat} {ps : List ByteArray} (h : Cutting x s.data.toList fr k ps) (hk : k < s.size) (hx : s[k] = x) : Cutting x s.data.toList (k + 1) (k + 1) (ps ++ [s.extract fr k]) := by
  have hl : s.data.toList.length = s.size := by simp
  refine ⟨Nat.le_refl _, by omega, by have := h.len; simp; omega, ?_, ?_, by simp⟩
  · rw [List.map_append, List.map_cons, List.map_nil, flat_snoc, h.done, seg]
    have e1 : s.data.toList.take (k + 1) = s.data.toList.take k ++ [s[k]] := by
      rw [List.take_succ_eq_append_getElem (by simpa using hk)]; rfl
    have e2 : s.data.toList.take k = s.data.toList.take fr ++ (s.data.toList.drop fr).take (k - fr) := by
      rw [← List.take_add]; congr 1; have := h.le; omega
    rw [e1, e2, hx]
    simp
  · intro p hp
    rw [List.mem_append] at hp
    rcases hp with hp | hp
    · exact h.free p hp
    · simp at hp; rw [hp, seg]; exact h.open_
theorem Cutting.on {x : UInt8} {s : ByteArray} {fr k : Nat} {ps : List ByteArray} (h : Cutting x s.data.toList fr k ps) (hk : k < s.size) (hx : s[k] ≠ x) : Cutting x s.data.toList fr (k + 1) ps := by
  have hl : s.data.toList.length = s.size := by simp
  have hle := h.le
  refine ⟨by omega, by omega, by have := h.len; omega, h.done, h.free, ?_⟩
  have e : k + 1 - fr = (k - fr) + 1 := by omega
  have e2 : (s.data.toList.drop fr).take (k - fr + 1) = (s.data.toList.drop fr).take (k - fr) ++ [s[k]] := by
    rw [List.take_succ_eq_append_getElem (by simp; omega)]
    congr 2
    rw [List.getElem_drop]
    have : fr + (k - fr) = k := by omega
    simp only [this]; rfl
  rw [e, e2, List.mem_append]
  rintro (hm | hm)
  · exact h.open_ hm
  · simp at hm; exact hx hm.symm
theorem Cutting.finish {x : UInt8} {s : ByteArray} {fr : Nat} {ps : List ByteArray} (h : Cutting x s.data.toList fr s.size ps) : Words x s.data.toList ((ps ++ [s.extract fr s.size]).map (·.data.toList)) := by
  have hl : s.data.toList.length = s.size := by simp
  have e : (s.data.toList.drop fr).take (s.size - fr) = s.data.toList.drop fr := List.take_of_length_le (by simp)
  have ho := h.open_
  rw [e] at ho
  refine ⟨ps.map (·.data.toList), s.data.toList.drop fr, ?_, ?_, ?_⟩
  · rw [List.map_append, List.map_cons, List.map_nil, seg, e]
  · rw [h.done, List.take_append_drop]
  · intro p hp
    rw [List.map_append, List.mem_append] at hp
    rcases hp with hp | hp
    · obtain ⟨q, hq, rfl⟩ := List.mem_map.1 hp; exact h.free q hq
    · simp only [List.map_cons, List.map_nil, List.mem_singleton] at hp
      rw [hp, seg, e]; exact ho

theorem Keep.grown' {a w w' : World} {row : Option Nat} (h : Keep a w) (hg : w.grownBy w' row) (hr : ∀ k, row = some k → a.heap.size ≤ k) : Keep a w' :=
  Below.grown h hg h.size hr

theorem infoStr : (Tryz.prog.info? 9).map (fun i => (i.zero, i.size, i.bytes)) = some (some (.string ByteArray.empty), 1, 16) := by kernel_rfl

def CutPost (w : World) (s : ByteArray) (x : UInt8) (e : Ending) (w' : World) : Prop :=
  ∃ (ps : List ByteArray) (v : Value), e = .returned v ∧ w'.ownsRow w.heap.size 9 1 v ps.length (ps.map Value.string) ∧ Words x s.data.toList (ps.map (·.data.toList)) ∧ Keep w w' ∧ v ≠ .slice none 0 0

set_option maxRecDepth 100000 in
set_option maxHeartbeats 2000000 in
theorem cut_any (s : ByteArray) (x : UInt8) (w : World) (hs : s.size ≤ 1048576) :
    Calls Tryz.prog 26 #[.string s, .int .u8 (x.toNat : Int)] w (CutPost w s x) := by
  obtain ⟨i0, hi, hz0, hz1, hz2⟩ := info_parts infoStr
  go_enter Tryz.func26, Tryz.ntmps26
  go_wp2_with fail
  go_loopw [5, 6, 7] (fun v f i wr => ∃ (k fr : Nat) (ps : List ByteArray), i = .int .i64 k ∧ f = .int .i64 fr ∧ k ≤ s.size ∧ fr ≤ k ∧ Hid (Cutting x s.data.toList fr k ps) ∧ Hid (v ≠ .slice none 0 0) ∧ wr.ownsRow w.heap.size 9 1 v ps.length (ps.map Value.string) ∧ Keep w wr) (fun _ _ i _ => s.size - (intOf i).toNat)
  case atStart =>
    exact ⟨0, 0, [], rfl, rfl, Nat.zero_le _, Nat.le_refl _, Lib.hid (Cutting.start x _), Lib.hid (by simp), World.ownsRow_made w #[] 0 (Nat.le_refl _) (by unfold maxLen; omega) rfl, (Keep.refl w).alloc _⟩
  case round =>
    obtain ⟨k, fr, ps, rfl, rfl, hk, hf, HC, HV, hown, hb⟩ := hrel
    by_cases hlt : k < s.size
    · have hlti : (k : Int) < s.size := by omega
      by_cases hx : s[k] = x
      · have hxd : ((s[k].toNat : Int) == (x.toNat : Int)) = true := by rw [hx]; simp
        have HX := Lib.hid (HC.out.cut hlt hx)
        clear hx
        go_wp2_with (at_builtin; refine wpList_append_own _ rfl _ _ 38 rfl w.heap.size 9 i0 (.string ByteArray.empty) 1 16 Tryz.underlying38 hi hz0 hz1 hz2 rfl (by decide) _ _ _ rfl (hown.alloc _) ⟨wr.heap.size, 0, none⟩ 1 1 [.string (s.extract fr k)] rfl rfl ?c1a ?c2a ?c3a ?c4a ?c5a ?_)
        case c1a =>
          intro j u hj
          match j, hj with
          | 0, hj => simp at hj; subst hj; simp [Addr.add]
        case c2a => first | rfl | (intro u hu; simp at hu; subst hu; rfl)
        case c3a => unfold maxLen; have := HC.out.len; omega
        case c4a => have := HC.out.len; omega
        case c5a => have := hb.size; simp; omega
        intro v' w2 hown' hgrow hnil
        have HN := Lib.hid hown'
        have HG := Lib.hid hgrow
        have HNil := Lib.hid hnil
        have HO := Lib.hid hown
        clear hown' hgrow hnil hown
        go_wp2
        go_roundw
        case rel =>
          refine ⟨k + 1, k + 1, ps ++ [s.extract fr k], by go_num, by go_num, by omega, Nat.le_refl _, HX, ?_, ?_, ?_⟩
          · exact Lib.hid HNil.out
          · have h1 := HN.out
            simpa using h1
          · refine Keep.grown' (hb.alloc _) HG.out (fun g hg => (HO.out.lt g hg).1)
        case measure => simp [intOf]; omega
      · have hxd : ((s[k].toNat : Int) == (x.toNat : Int)) = false := by
          simp only [beq_eq_false_iff_ne, ne_eq]
          intro h
          exact hx (UInt8.toNat_inj.1 (by omega))
        have HX := Lib.hid (HC.out.on hlt hx)
        clear hx
        go_wp2
        go_roundw
        case rel => exact ⟨k + 1, fr, ps, by go_num, rfl, by omega, by omega, HX, HV, hown, hb⟩
        case measure => simp [intOf]; omega
    · have hke : k = s.size := by omega
      subst hke
      have hfi : (fr : Int) ≤ s.size := by omega
      go_wp2_with (at_builtin; refine wpList_append_own _ rfl _ _ 38 rfl w.heap.size 9 i0 (.string ByteArray.empty) 1 16 Tryz.underlying38 hi hz0 hz1 hz2 rfl (by decide) _ _ _ rfl (hown.alloc _) ⟨wr.heap.size, 0, none⟩ 1 1 [.string (s.extract fr s.size)] rfl rfl ?c1b ?c2b ?c3b ?c4b ?c5b ?_)
      case c1b =>
        intro j u hj
        match j, hj with
        | 0, hj => simp at hj; subst hj; simp [Addr.add]
      case c2b => first | rfl | (intro u hu; simp at hu; subst hu; rfl)
      case c3b => unfold maxLen; have := HC.out.len; omega
      case c4b => have := HC.out.len; omega
      case c5b => have := hb.size; simp; omega
      intro v' w2 hown' hgrow hnil
      have HN := Lib.hid hown'
      have HG := Lib.hid hgrow
      have HNil := Lib.hid hnil
      have HO := Lib.hid hown
      clear hown' hgrow hnil hown
      go_wp2
      go_ret
      refine ⟨ps ++ [s.extract fr s.size], v', rfl, ?_, HC.out.finish, ?_, HNil.out⟩
      · have h1 := HN.out
        simpa using h1
      · exact Keep.grown' (hb.alloc _) HG.out (fun g hg => (HO.out.lt g hg).1)
end Go.Proofs.YtnemdnidlbekbaaGreatDoor
