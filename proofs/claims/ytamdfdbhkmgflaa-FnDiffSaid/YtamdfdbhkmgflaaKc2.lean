/- slices.SortFunc of keys: the library's contract, laid at this program by hand, and what it says of a row of keys. -/
import Derived.Shelf.SlSortCmp.WholeK
import Derived.Test.YtamdfdbhkmgflaaKb
namespace Go.Proofs.Ytamdfdbhkmgflaa
open Go.Shelf Go.RowKit
set_option linter.unusedVariables false

theorem cell_newAt {w : World} {cs : Array Value} {T g i : Nat} {v : Value} (h : g = w.heap.size) (hv : cs[i]? = some v) : (w.alloc (.cells cs T)).cell? ⟨g, i, none⟩ = some v := by
  subst h; rw [World.cell?_alloc_new]; exact hv
set_option maxRecDepth 100000 in
set_option maxHeartbeats 4000000 in
theorem ck_any (x y : K3) (w : World) :
    Calls Try.prog 44 #[.agg (kc x).toArray, .agg (kc y).toArray] w fun e w' => e = .returned (.int .i64 (ck x y)) ∧ ∃ q os', w' = Go.Sort.grow (w.drewN q) os' := by
  obtain ⟨x0, x1, x2⟩ := x
  obtain ⟨y0, y1, y2⟩ := y
  have HC : Hid (∀ a b (w : World), Calls Try.prog 55 #[.int .i64 a, .int .i64 b] w fun e w' => e = .returned (.int .i64 (cI a b)) ∧ w = w') := Lib.hid cmp_any
  have HO : Hid (∀ g x y z (w : World), w.cell? ⟨g, 0, none⟩ = some (.int .i64 x) → w.cell? ⟨g, 1, none⟩ = some (.int .i64 y) → w.cell? ⟨g, 2, none⟩ = some (.int .i64 z) → Calls Try.prog 54 #[.slice (some ⟨g, 0, none⟩) 3 3] w fun e w' => e = .returned (.int .i64 (orI x y z)) ∧ w = w') := Lib.hid or_any
  have e : ck (x0, x1, x2) (y0, y1, y2) = orI (cI x0 y0) (cI x2 y2) (cI x1 y1) := rfl
  have e2 : (kc (x0, x1, x2)).toArray = #[.int .i64 x0, .int .i64 x1, .int .i64 x2] := rfl
  have e3 : (kc (y0, y1, y2)).toArray = #[.int .i64 y0, .int .i64 y1, .int .i64 y2] := rfl
  rw [e, e2, e3]
  clear e e2 e3
  generalize hA : cI x0 y0 = A
  generalize hB : cI x2 y2 = B
  generalize hC : cI x1 y1 = C
  have HA : Hid (∀ (w : World), Calls Try.prog 55 #[.int .i64 x0, .int .i64 y0] w fun e w' => e = .returned (.int .i64 A) ∧ w = w') := Lib.hid (fun w => by rw [← hA]; exact HC.out _ _ _)
  have HB : Hid (∀ (w : World), Calls Try.prog 55 #[.int .i64 x2, .int .i64 y2] w fun e w' => e = .returned (.int .i64 B) ∧ w = w') := Lib.hid (fun w => by rw [← hB]; exact HC.out _ _ _)
  have HD : Hid (∀ (w : World), Calls Try.prog 55 #[.int .i64 x1, .int .i64 y1] w fun e w' => e = .returned (.int .i64 C) ∧ w = w') := Lib.hid (fun w => by rw [← hC]; exact HC.out _ _ _)
  clear hA hB hC HC
  go_enter Try.func44, Try.ntmps44
  go_wp2_with fail
  have d0 : ∀ n, ((w.alloc (.cells #[.int .i64 x0, .int .i64 x1, .int .i64 x2] 33)).alloc (.cells #[.int .i64 y0, .int .i64 y1, .int .i64 y2] 33)).drewN n = Go.Sort.grow (w.drewN n) #[.cells #[.int .i64 x0, .int .i64 x1, .int .i64 x2] 33, .cells #[.int .i64 y0, .int .i64 y1, .int .i64 y2] 33] := fun n => by
    rw [Go.Sort.alloc_eq_grow, Go.Sort.alloc_eq_grow, Go.Sort.grow_grow]; rfl
  go_region_held3 (fun w' => w'.cell? ⟨w.heap.size, 0, none⟩ = some (.int .i64 x0) ∧ w'.cell? ⟨w.heap.size, 1, none⟩ = some (.int .i64 x1) ∧ w'.cell? ⟨w.heap.size, 2, none⟩ = some (.int .i64 x2) ∧ w'.cell? ⟨w.heap.size + 1, 0, none⟩ = some (.int .i64 y0) ∧ w'.cell? ⟨w.heap.size + 1, 1, none⟩ = some (.int .i64 y1) ∧ w'.cell? ⟨w.heap.size + 1, 2, none⟩ = some (.int .i64 y2)) (go_keep)
    ((first
      | (go_at_call 55; (first | (with_reducible refine (HA.out _).mono ?_) | (with_reducible refine (HB.out _).mono ?_) | (with_reducible refine (HD.out _).mono ?_)); rintro e w' ⟨rfl, rfl⟩)
      | (go_at_call 54; refine (HO.out _ A B C _ ?_ ?_ ?_).mono ?_; (exact cell_newAt (by first | rfl | simp) rfl); (exact cell_newAt (by first | rfl | simp) rfl); (exact cell_newAt (by first | rfl | simp) rfl); rintro e w' ⟨rfl, rfl⟩)))
  all_goals go_wp2
  all_goals go_ret
  all_goals refine ⟨rfl, 1, #[.cells #[.int .i64 x0, .int .i64 x1, .int .i64 x2] 33, .cells #[.int .i64 y0, .int .i64 y1, .int .i64 y2] 33, .cells #[.int .i64 A, .int .i64 B, .int .i64 C] 3], ?_⟩
  all_goals simp only [Go.Sort.alloc_eq_grow]
  all_goals (first | rfl | (simp [Go.Sort.grow, World.drew, World.drewN]))
open Go.Sort in
theorem rowK_only {w : World} {g n : Nat} {os : Array Obj} (d : Array K3) : Only g w (sortWorldK kc 3 w g 0 n d os) := by
  refine ⟨rfl, rfl, rfl, by simp [sortWorldK, putRowK], fun k hk hne => ?_⟩
  unfold sortWorldK
  rw [heap_grow_old _ _ (by simpa [putRowK] using hk)]
  have : g ≠ k := fun e => hne (by rw [e])
  simp [putRowK, putRow, mapBlock, Sort.ahead, Array.getElem?_modify, this]
theorem kc_get (r : K3) (t : Nat) (ht : t < 3) : (kc r)[t]? = some ((kc r)[t]!) := by
  have h : t = 0 ∨ t = 1 ∨ t = 2 := by omega
  rcases h with rfl | rfl | rfl <;> rfl
open Go.Sort in
theorem holdsK_of {g : Nat} {ks : List K3} {w : World} (h : WrK w g ks) : HoldsK kc 3 w g 0 ks.toArray := by
  intro t ht
  rw [size_flatK] at ht
  have hj : t / 3 < ks.length := by simp at ht; omega
  rw [get_flatK _ _ _ _ ht]
  obtain ⟨h1, h2⟩ := h (t / 3) hj
  have e : 0 + t = t / 3 * 3 + t % 3 := by omega
  have e2 : ks.toArray[t / 3]! = ks.getD (t / 3) k0 := by
    rw [getElem!_pos _ _ (by simpa using hj)]
    simp [List.getD_eq_getElem?_getD, hj]
  rw [e, e2]
  refine ⟨(h1.kc_at (t % 3) (by omega)).trans (kc_get _ _ (by omega)), ?_⟩
  have h4 : t % 3 = 0 ∨ t % 3 = 1 ∨ t % 3 = 2 := by omega
  rcases h4 with h4 | h4 | h4 <;> rw [h4]
  · exact h2.f0
  · exact h2.f1
  · exact h2.f2
theorem getE_list (d : Array K3) {i : Nat} (hi : i < d.size) : d[i]! = d.toList.getD i k0 := by
  rw [getElem!_pos d i hi]
  simp [List.getD_eq_getElem?_getD, hi]
open Go.Sort in
theorem wrK_of {g : Nat} {d : Array K3} {w : World} (h : HoldsK kc 3 w g 0 d) : WrK w g d.toList := by
  intro i hi
  have hi : i < d.size := by simpa using hi
  have hc : ∀ c, c < 3 → w.cell? ⟨g, i * 3 + c, none⟩ = (kc (d.toList.getD i k0))[c]? ∧ w.frozen? ⟨g, i * 3 + c, none⟩ = false := fun c hc => by
    obtain ⟨h1, h2⟩ := HoldsK.cell h hi hc
    rw [Nat.zero_add, getE_list d hi] at h1
    rw [Nat.zero_add] at h2
    exact ⟨h1.trans (kc_get _ _ hc).symm, h2⟩
  exact ⟨at3_of fun t ht => (hc t ht).1, ⟨(hc 0 (by omega)).2, (hc 1 (by omega)).2, (hc 2 (by omega)).2⟩⟩
open Go.Sort in
theorem ksort (g cap : Nat) (ks : List K3) (w : World) (h : WrK w g ks) (hg : g < w.heap.size) (hm : ks.length ≤ 1048576) :
    Calls Try.prog 43 #[.slice (some ⟨g, 0, none⟩) ks.length cap, .func (.func 44) #[] #[]] w fun e w' => e = .returned (.tuple #[]) ∧ ∃ ys : List K3, ys.Perm ks ∧ ys.Pairwise (fun a b => klt b a = false) ∧ WrK w' g ys ∧ Only g w w' := by
  have eg : ∀ args w, (callFunc 44 args).run Try.prog w = .ok (.enter 44 args) w := enters_of Try.func44 (by kernel_rfl) rfl
  have hH := holdsK_of h
  have hs := AnyQ.slices_SortFunc ksLay 3 Try.isAgg33 Try.sizeOf33 kc (fun _ => rfl) (fun x v hv => kc_one x v hv) ck ck_swo 44 #[] g 0 cap ks.toArray w eg (fun m os dk _ x y => ck_any x y _) hH hg (by simp; omega)
  refine hs.mono ?_
  rintro e w' ⟨he, d, n, os, ⟨hp1, _, hp2⟩, hso, rfl⟩
  refine ⟨he, d.toList, ?_, ?_, wrK_of (holdsK_sortWorldK_c kc 3 w g 0 ks.toArray d n os hH hg hp1), rowK_only d⟩
  · have e1 : d.extract 0 ks.toArray.size = d := by rw [← hp1]; simp
    have e2 : ks.toArray.extract 0 ks.toArray.size = ks.toArray := by simp
    rw [e1, e2] at hp2
    simpa using hp2
  · rw [List.pairwise_iff_getElem]
    intro i j hi hj hij
    have := hso i j (Nat.zero_le _) hij (by rw [← hp1]; simpa using hj)
    rw [ck_lt, getE_list d (by simpa using hj), getE_list d (by simpa using hi)] at this
    have hi' : i < d.size := by simpa using hi
    have hj' : j < d.size := by simpa using hj
    simpa [List.getD_eq_getElem?_getD, hi', hj'] using this
end Go.Proofs.Ytamdfdbhkmgflaa
