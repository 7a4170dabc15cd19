/- slices.Insert of ints: the library's contracts, laid at this program by hand, and the one that a walk wants. -/
import Derived.Shelf.Spec.SlicesInsert
import Derived.Shelf.Spec.SlicesInsertGrow
import Derived.Test.YtlaajompcbmdoacShelf
import Derived.Test.YtlaajompcbmdoacOi
namespace Go.Proofs.Ytlaajompcbmdoac
open Go.Shelf Go.RowKit
set_option linter.unusedVariables false

def insRen : Go.Shelf.Ren := ⟨fun | 21 => 54 | 27 => 64 | 28 => 65 | 35 => 69 | 39 => 71 | n => n, fun | 22 => 25 | 3 => 3 | 4 => 4 | 0 => 0 | n => n, fun | n => n⟩
theorem insLay : Go.Proofs.Lays2.n21 Try.prog insRen := {
  mixed := by kernel_rfl
  f21 := Try.func54.trans (congrArg some (by kernel_rfl))
  f27 := Try.func64.trans (congrArg some (by kernel_rfl))
  f28 := Try.func65.trans (congrArg some (by kernel_rfl))
  f35 := Try.func69.trans (congrArg some (by kernel_rfl))
  f39 := Try.func71.trans (congrArg some (by kernel_rfl))
  t0 := Try.underlying0
  a0 := Try.isAgg0
  z0 := Try.sizeOf0
  v0 := Try.zeroValue0
  t3 := Try.underlying3
  a3 := Try.isAgg3
  z3 := Try.sizeOf3
  v3 := Try.zeroValue3
  t4 := Try.underlying4
  a4 := Try.isAgg4
  z4 := Try.sizeOf4
  v4 := Try.zeroValue4
  t22 := Try.underlying25
  a22 := Try.isAgg25
  z22 := Try.sizeOf25
  v22 := Try.zeroValue25
  i3 := by kernel_rfl }
/-- A list with what stands from o on replaced. -/
def setL : List Value → Nat → List Value → List Value
  | xs, _, [] => xs
  | xs, o, v :: r => setL (xs.set o v) (o + 1) r
theorem setL_app : ∀ (vs A B C : List Value), B.length = vs.length → setL (A ++ B ++ C) A.length vs = A ++ vs ++ C
  | [], A, B, C, h => by
    have : B = [] := List.eq_nil_of_length_eq_zero h
    subst this; rfl
  | v :: r, A, B, C, h => by
    match B, h with
    | b :: B, h =>
      have e : (A ++ b :: B ++ C).set A.length v = (A ++ [v]) ++ B ++ C := by simp
      have e2 := setL_app r (A ++ [v]) B C (by simpa using h)
      rw [setL, e]
      rw [show A.length + 1 = (A ++ [v]).length by simp, e2]
      simp
theorem own_sets {base g n cap : Nat} {e : TypeId} : ∀ (vs : List Value) (o : Nat) (w : World) (xs : List Value), w.ownsRow base e 1 (.slice (some ⟨g, 0, none⟩) n cap) n xs → (w.setCells g o vs).ownsRow base e 1 (.slice (some ⟨g, 0, none⟩) n cap) n (setL xs o vs)
  | [], _, _, _, h => h
  | v :: r, o, w, xs, h => own_sets r (o + 1) _ _ (World.ownsRow.stored h o v).1
theorem keep_sets {g : Nat} {a : World} (hg : a.heap.size ≤ g) : ∀ (vs : List Value) (o : Nat) (w : World), Keep a w → Keep a (w.setCells g o vs)
  | [], _, _, h => h
  | v :: r, o, w, h => keep_sets hg r (o + 1) _ (h.setCell hg v)
/-- A slice with room, taken one longer. -/
theorem own_wide {w : World} {base g n cap : Nat} {e : TypeId} {xs : List Value} (h : w.ownsRow base e 1 (.slice (some ⟨g, 0, none⟩) n cap) n xs) (hc : n < cap) : ∃ y, w.ownsRow base e 1 (.slice (some ⟨g, 0, none⟩) (n + 1) cap) (n + 1) (xs ++ [y]) := by
  obtain ⟨h1, h2⟩ := h
  rcases h2 with ⟨h3, _⟩ | ⟨g', cap', cur, h3, hb, hg, hn, hm, hs, ht⟩
  · cases h3
  · injection h3 with e1 _ e2
    injection e1 with e1
    injection e1 with e1 _ _
    subst e1; subst e2
    have hl : n < cur.toList.length := by simp; omega
    refine ⟨cur.toList[n], by simp [h1], .inr ⟨g, cap, cur, rfl, hb, hg, by omega, hm, hs, ?_⟩⟩
    rw [Nat.mul_one] at ht ⊢
    rw [List.take_succ_eq_append_getElem hl, ht]
theorem own_plain {w : World} {base g n cap : Nat} {e : TypeId} {xs : List Value} (h : w.ownsRow base e 1 (.slice (some ⟨g, 0, none⟩) n cap) n xs) : (∀ j, j < cap → (w.cell? ⟨g, j, none⟩).isSome = true) ∧ (∀ j, w.frozen? ⟨g, j, none⟩ = false) ∧ w.shape? g = some (e, cap) ∧ n ≤ cap ∧ cap ≤ maxLen := by
  obtain ⟨h1, h2⟩ := h
  rcases h2 with ⟨h3, _⟩ | ⟨g', cap', cur, h3, hb, hg, hn, hm, hs, ht⟩
  · cases h3
  · injection h3 with e1 _ e2
    injection e1 with e1
    injection e1 with e1 _ _
    subst e1; subst e2
    refine ⟨fun j hj => ?_, fun j => ?_, ?_, hn, hm⟩
    · rw [cell_of_row w g j cur e (0, 0) hg]
      simp [show j < cur.size by omega]
    · simp [World.frozen?, hg]
    · simp [World.shape?, hg]; omega
theorem split_at {L : List Value} {i : Nat} (h : i < L.length) : ∃ z R, L = L.take i ++ [z] ++ R ∧ R.length = L.length - (i + 1) := by
  refine ⟨L[i], L.drop (i + 1), ?_, by rw [List.length_drop]⟩
  conv => lhs; rw [← List.take_append_drop i L, List.drop_eq_getElem_cons h]
  simp
theorem ints1 {zs : List Int} : ∀ u ∈ zs.map (Value.int .i64), u.oneCell' = true := by
  intro u hu
  obtain ⟨x, _, rfl⟩ := List.mem_map.1 hu
  rfl
/-- One number put into an own slice of ints. -/
theorem ins_any {base : Nat} {w : World} {v : Value} {zs : List Int} (i : Nat) (x : Int) (h : OwI w base v zs) (hbs : base ≤ w.heap.size) (hi : i ≤ zs.length) (hz : zs.length ≤ 1048576) :
    Calls Try.prog 54 #[v, .int .i64 i, .slice (some ⟨w.heap.size, 0, none⟩) 1 1] (w.alloc (.cells #[.int .i64 x] 3)) fun e w' => ∃ v', e = .returned v' ∧ OwI w' base v' (zs.take i ++ [x] ++ zs.drop i) ∧ ∀ a : World, a.heap.size ≤ base → Keep a w → Keep a w' := by
  have hW : ∀ j u, [Value.int .i64 x][j]? = some u → (w.alloc (.cells #[.int .i64 x] 3)).cell? ⟨w.heap.size, 0 + j, none⟩ = some u := by
    intro j u hj
    match j, hj with
    | 0, hj => simp at hj; subst hj; simp
  have h1v : ∀ u ∈ [Value.int .i64 x], u.oneCell' = true := by intro u hu; simp at hu; subst hu; rfl
  have hmap : ((zs.take i ++ [x] ++ zs.drop i).map (Value.int .i64)) = (zs.map (Value.int .i64)).take i ++ [.int .i64 x] ++ (zs.map (Value.int .i64)).drop i := by simp
  have hlen : (zs.take i ++ [x] ++ zs.drop i).length = zs.length + 1 := by simp; omega
  have hcl : (zs.map (Value.int .i64)).length = zs.length := by simp
  have key : ∀ (v' : Value) (w' : World), w'.ownsRow base 3 1 v' (zs.length + 1) ((zs.map (Value.int .i64)).take i ++ [.int .i64 x] ++ (zs.map (Value.int .i64)).drop i) → OwI w' base v' (zs.take i ++ [x] ++ zs.drop i) := by
    intro v' w' h9
    unfold OwI
    rw [hmap, hlen]; exact h9
  have hgrow : ∀ (b : Option Addr) (c : Nat), v = .slice b zs.length c → c < zs.length + 1 → base ≤ w.heap.size → (∀ a, b = some a → ∀ j u, (zs.map (Value.int .i64))[j]? = some u → (w.alloc (.cells #[.int .i64 x] 3)).cell? (a.add j) = some u) → (b = none → zs.length = 0) → zs.length ≤ c → i = zs.length → Calls Try.prog 54 #[v, .int .i64 i, .slice (some ⟨w.heap.size, 0, none⟩) 1 1] (w.alloc (.cells #[.int .i64 x] 3)) fun e w' => ∃ v', e = .returned v' ∧ OwI w' base v' (zs.take i ++ [x] ++ zs.drop i) ∧ ∀ a : World, a.heap.size ≤ base → Keep a w → Keep a w' := by
    intro b c hv hc hbs hcs hnil hnc hin
    subst hv; subst hin
    refine (Any2.slices_Insert_int_end_grow insLay b zs.length c w.heap.size 0 1 1 (zs.map (Value.int .i64)) [.int .i64 x] _ (by omega) hnc hc (by omega) hcl rfl hnil hcs hW h1v).mono ?_
    rintro e w' ⟨rfl, rfl⟩
    refine ⟨_, rfl, key _ _ ?_, fun a ha k => ?_⟩
    · refine ⟨by simp, .inr ⟨_, _, _, rfl, by simp; omega, heap_alloc_new _ _, grownCap_ge _ _ _ _, grownCap_le_maxLen _ _ _ _ (by unfold maxLen; omega), ?_, ?_⟩⟩
      · have := grownCap_ge (w.alloc (.cells #[.int .i64 x] 3)) (zs.length + 1) c (insRen.t 3)
        simp [size_zeroCells, Value.cells]; omega
      · rw [Nat.mul_one]
        simp only [Array.toList_append]
        rw [List.take_append_of_le_length (by simp), List.take_of_length_le (by simp), List.take_of_length_le (show (zs.map (Value.int .i64)).length ≤ zs.length by simp), List.drop_eq_nil_of_le (show (zs.map (Value.int .i64)).length ≤ zs.length by simp)]
        simp
    · exact ((k.alloc _).drew).alloc _
  rcases id h.2 with ⟨rfl, h0⟩ | ⟨g, cap, cur, rfl, hbg, hg, hnc, hcm, hcs, htk⟩
  · exact hgrow none 0 (by rw [h0]) (by omega) hbs (fun a ha => by cases ha) (fun _ => h0) (by omega) (by omega)
  · have hgl : g < w.heap.size := (World.ownsRow.lt h g rfl).2
    have hA := World.ownsRow.alloc h (.cells #[.int .i64 x] 3)
    obtain ⟨p1, p2, p3, _, _⟩ := own_plain hA
    have hnew := heap_alloc_new w (.cells #[.int .i64 x] 3)
    have hshp : (w.alloc (.cells #[.int .i64 x] 3)).shape? w.heap.size = some (3, 1) := by simp only [World.shape?, hnew]; rfl
    have hfz : ∀ o, (w.alloc (.cells #[.int .i64 x] 3)).frozen? ⟨w.heap.size, o, none⟩ = false := fun o => by simp only [World.frozen?, hnew]; simp
    have hcell : ∀ j u, (zs.map (Value.int .i64))[j]? = some u → (w.alloc (.cells #[.int .i64 x] 3)).cell? ⟨g, j, none⟩ = some u := fun j u hj => by
      have hl : j < zs.length := by rw [← hcl]; exact (List.getElem?_eq_some_iff.1 hj).1
      rw [World.ownsRow.cellAt hA j (by omega)]; exact hj
    by_cases hin : i = zs.length
    · by_cases hroom : zs.length + 1 ≤ cap
      · subst hin
        refine (Any2.slices_Insert_int_end_room insLay g 0 zs.length cap w.heap.size 0 1 1 [.int .i64 x] _ (by omega) hroom (by unfold maxLen at hcm; omega) rfl (fun j hj => by rw [Nat.zero_add]; exact p1 _ (by omega)) (fun j hj => p2 _) hW h1v).mono ?_
        rintro e w' ⟨rfl, rfl⟩
        obtain ⟨y, hy⟩ := own_wide hA (by omega)
        refine ⟨_, rfl, key _ _ ?_, fun a ha k => keep_sets (by omega) _ _ _ (k.alloc _)⟩
        have h9 := own_sets [.int .i64 x] (0 + zs.length) _ _ hy
        have e9 := setL_app [.int .i64 x] (zs.map (Value.int .i64)) [y] [] rfl
        rw [hcl, List.append_nil, List.append_nil] at e9
        rw [Nat.zero_add, e9] at h9
        rw [Nat.zero_add, List.take_of_length_le (by omega), List.drop_eq_nil_of_le (by omega), List.append_nil]
        exact h9
      · exact hgrow _ cap rfl (by omega) (by omega) (fun a ha j u hj => by
          injection ha with ha; subst ha
          have := hcell j u hj
          rcases Nat.eq_zero_or_pos j with h0 | h0
          · subst h0; simpa [Addr.add] using this
          · simpa [Addr.add, show j ≠ 0 by omega] using this) (fun hn => by cases hn) hnc hin
    · by_cases hroom : zs.length + 1 ≤ cap
      · refine (Any2.slices_Insert_int_shift insLay g 0 zs.length cap i w.heap.size 0 1 1 (zs.map (Value.int .i64)) [.int .i64 x] _ (by omega) (by omega) hroom (by unfold maxLen at hcm; omega) (by omega) hcl rfl (fun j u hj => by rw [Nat.zero_add]; exact hcell j u hj) (fun j hj => by rw [Nat.zero_add]; exact p1 _ (by omega)) (fun j hj => p2 _) hW ints1 h1v 3 3 1 cap hshp p3 (by omega) (hfz _) (hfz _)).mono ?_
        rintro e w' ⟨rfl, rfl⟩
        obtain ⟨y, hy⟩ := own_wide hA (by omega)
        refine ⟨_, rfl, key _ _ ?_, fun a ha k => keep_sets (by omega) _ _ _ (keep_sets (by omega) _ _ _ (k.alloc _).drew)⟩
        obtain ⟨z, R, hR, hRl⟩ := split_at (L := zs.map (Value.int .i64) ++ [y]) (i := i) (by simp; omega)
        rw [List.take_append_of_le_length (by omega)] at hR
        have hTl : ((zs.map (Value.int .i64)).take i).length = i := by rw [List.length_take]; omega
        have hDl : ((zs.map (Value.int .i64)).drop i).length = zs.length - i := by rw [List.length_drop, hcl]
        have h9 : (w.alloc (.cells #[.int .i64 x] 3)).drew.ownsRow base 3 1 (.slice (some ⟨g, 0, none⟩) (zs.length + 1) cap) (zs.length + 1) (zs.map (Value.int .i64) ++ [y]) := hy
        have h8 := own_sets [.int .i64 x] (0 + i) _ _ (own_sets ((zs.map (Value.int .i64)).drop i) (0 + (i + 1)) _ _ h9)
        have e1 := setL_app ((zs.map (Value.int .i64)).drop i) ((zs.map (Value.int .i64)).take i ++ [z]) R [] (by rw [hRl, hDl]; simp)
        have e2 := setL_app [.int .i64 x] ((zs.map (Value.int .i64)).take i) [z] ((zs.map (Value.int .i64)).drop i) rfl
        rw [List.append_nil, List.append_nil, List.length_append, hTl, ← hR] at e1
        rw [hTl] at e2
        rw [Nat.zero_add, Nat.zero_add, show i + 1 = i + [z].length from rfl, e1, e2] at h8
        rw [Nat.zero_add, Nat.zero_add]
        exact h8
      · refine (Any2.slices_Insert_int_grow insLay g 0 zs.length cap i w.heap.size 0 1 1 (zs.map (Value.int .i64)) [.int .i64 x] _ (by omega) (by omega) hnc (by omega) (by omega) hcl rfl (fun j u hj => by rw [Nat.zero_add]; exact hcell j u hj) hW ints1 h1v).mono ?_
        rintro e w' ⟨rfl, rfl⟩
        refine ⟨_, rfl, key _ _ ?_, fun a ha k => ?_⟩
        · have hTl : ((zs.map (Value.int .i64)).take i).length = i := by rw [List.length_take]; omega
          have hDl : ((zs.map (Value.int .i64)).drop i).length = zs.length - i := by rw [List.length_drop, hcl]
          have hcg := grownCap_ge (w.alloc (.cells #[.int .i64 x] 3)) (zs.length + 1) cap (insRen.t 3)
          have hcx := grownCap_le_maxLen (w.alloc (.cells #[.int .i64 x] 3)) (zs.length + 1) cap (insRen.t 3) (by unfold maxLen; omega)
          generalize grownCap (w.alloc (.cells #[.int .i64 x] 3)) (zs.length + 1) cap (insRen.t 3) = gc at *
          obtain ⟨Z, hZ⟩ : ∃ Z, Builtin.zeroCells (Value.int .i64 0).cells (zs.length + 1 - i) = Z := ⟨_, rfl⟩
          have hZl : Z.toList.length = zs.length + 1 - i := by rw [← hZ]; simp [size_zeroCells, Value.cells]
          obtain ⟨Y, hY⟩ : ∃ Y, Builtin.zeroCells (Value.int .i64 0).cells (gc - (zs.length + 1)) = Y := ⟨_, rfl⟩
          have hYl : Y.size = gc - (zs.length + 1) := by rw [← hY]; simp [size_zeroCells, Value.cells]
          rw [hZ, hY]
          obtain ⟨z, R, hR, hRl⟩ := split_at (L := Z.toList) (i := 0) (by omega)
          rw [List.take_zero, List.nil_append] at hR
          obtain ⟨W, hWd⟩ : ∃ W, (w.alloc (.cells #[.int .i64 x] 3)).alloc (.cells (((zs.map (Value.int .i64)).take i).toArray ++ Z ++ Y) (insRen.t 3)) = W := ⟨_, rfl⟩
          have hy : W.ownsRow base 3 1 (.slice (some ⟨(w.alloc (.cells #[.int .i64 x] 3)).heap.size, 0, none⟩) (zs.length + 1) gc) (zs.length + 1) ((zs.map (Value.int .i64)).take i ++ [z] ++ R) := by
            rw [← hWd]
            refine ⟨by simp [hRl, hZl]; omega, .inr ⟨_, _, _, rfl, by simp; omega, heap_alloc_new _ _, hcg, hcx, ?_, ?_⟩⟩
            · simp at hZl ⊢; omega
            · rw [Nat.mul_one, List.append_assoc, ← hR]
              simp only [Array.toList_append]
              rw [List.take_append_of_le_length (by rw [List.length_append, hTl, hZl]; omega), List.take_of_length_le (by rw [List.length_append, hTl, hZl]; omega)]
          have h9 : W.drew.ownsRow base 3 1 (.slice (some ⟨(w.alloc (.cells #[.int .i64 x] 3)).heap.size, 0, none⟩) (zs.length + 1) gc) (zs.length + 1) ((zs.map (Value.int .i64)).take i ++ [z] ++ R) := hy
          have h7 := own_sets [.int .i64 x] i _ _ h9
          have e2 := setL_app [.int .i64 x] ((zs.map (Value.int .i64)).take i) [z] R rfl
          rw [hTl] at e2
          rw [e2] at h7
          have h6 : ((W.drew.setCells (w.alloc (.cells #[.int .i64 x] 3)).heap.size i [.int .i64 x]).drew).ownsRow base 3 1 (.slice (some ⟨(w.alloc (.cells #[.int .i64 x] 3)).heap.size, 0, none⟩) (zs.length + 1) gc) (zs.length + 1) ((zs.map (Value.int .i64)).take i ++ [.int .i64 x] ++ R) := h7
          have h8 := own_sets ((zs.map (Value.int .i64)).drop i) (i + 1) _ _ h6
          have e1 := setL_app ((zs.map (Value.int .i64)).drop i) ((zs.map (Value.int .i64)).take i ++ [.int .i64 x]) R [] (by rw [hRl, hDl, hZl]; omega)
          rw [List.append_nil, List.append_nil, List.length_append, hTl] at e1
          rw [show i + 1 = i + [Value.int .i64 x].length from rfl, e1, ← hWd] at h8
          exact h8
        · have hsz := k.size
          exact keep_sets (by simp; omega) _ _ _ (keep_sets (by simp; omega) _ _ _ ((k.alloc _).alloc _).drew).drew
end Go.Proofs.Ytlaajompcbmdoac
