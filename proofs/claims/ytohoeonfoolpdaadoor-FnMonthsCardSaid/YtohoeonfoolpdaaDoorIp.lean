/- DayOf of the program. -/
import Derived.Test.YtohoeonfoolpdaaDoorIt
import Derived.Test.YtohoeonfoolpdaaDoorCs
namespace Go.Proofs.YtohoeonfoolpdaaDoor
open Go.RowKit Go.Shelf
set_option linter.unusedVariables false
attribute [local go_sem] Oper.semAt_some

theorem starts_fn (y c : Int) (w : World) :
    Calls Tryd.prog 40 #[.int .i64 y, .int .i64 c] w fun e w' => e = .returned (.func (.func 54) #[] #[.pointer (some ⟨w.heap.size, 0, none⟩), .pointer (some ⟨w.heap.size + 1, 0, none⟩)]) ∧ w' = (w.alloc (.cells #[.int .i64 y] 3)).alloc (.cells #[.int .i64 c] 3) := by
  go_enter Tryd.func40, Tryd.ntmps40
  go_wp2
  go_ret
  exact ⟨rfl, rfl⟩
theorem starts_stops (y c : Int) (n : Nat) (hn : 2 ≤ n) (hc : cOne c = true) (hy : yOk y = true) (By Bc Bd : Nat) (h1 : By ≠ Bd) (h2 : Bc ≠ Bd) (h0 : 0 ≠ Bd) (w : World) (hBd : Bd < w.heap.size) (hBy : By < w.heap.size) (hBc : Bc < w.heap.size)
    (hR : Reads y c By Bc w) :
    SeqStopsK Fence.wide n Tryd.prog 54 #[.pointer (some ⟨By, 0, none⟩), .pointer (some ⟨Bc, 0, none⟩)] (encs y c) (Kc Bd) (fun xs => xs = List.range 12) (fun pre => ∃ k, k < 12 ∧ pre = List.range (k + 1)) 12 w := fun l J Jx W hW hJ _ hY h0' =>
  starts_in y c n hn hc hy l By Bc Bd h1 h2 h0 J Jx W (Nat.lt_of_lt_of_le hBd hW.size) hJ hY ⟨(hW.cell (p := ⟨By, 0, none⟩) hBy).trans hR.y, (hW.cell (p := ⟨Bc, 0, none⟩) hBc).trans hR.c, hR.tab.keep hW⟩ h0'
/-- The day that has been reckoned when so many months have come. -/
def vday (y d c : Int) (pre : List Nat) : Int := match pre.getLast? with | none => 0 | some i => ys y c + cum y (mm i) c + d - 1
theorem vday_nil (y d c : Int) : vday y d c [] = 0 := rfl
theorem vday_snoc (y d c : Int) (pre : List Nat) (x : Nat) : vday y d c (pre ++ [x]) = ys y c + cum y (mm x) c + d - 1 := by simp [vday]
theorem range_snoc {k x : Nat} {init : List Nat} (h : List.range (k + 1) = init ++ [x]) : init = List.range k ∧ x = k := by
  rw [List.range_succ] at h
  obtain ⟨h1, h2⟩ := List.append_inj' h rfl
  exact ⟨h1.symm, by simpa using h2.symm⟩
theorem ownFrom_size {β : Type} (B N : Nat) : OwnFrom B (fun (_ : β) (W : World) => N ≤ W.heap.size) := fun _ _ _ _ hs hg _ => Nat.le_trans hs hg.size
def DayI (w : World) (g N : Nat) (y m d c : Int) (pre : List Nat) (W : World) : Prop :=
  (W.cell? ⟨g, 0, none⟩ = some (.int .i64 (vday y d c pre)) ∧ W.frozen? ⟨g, 0, none⟩ = false ∧ W.cell? ⟨w.heap.size, 1, none⟩ = some (.int .i64 m) ∧ W.cell? ⟨w.heap.size, 2, none⟩ = some (.int .i64 d)) ∧
  ((∀ x ∈ pre, mm x ≤ m) ∧ (N ≤ W.heap.size ∧ Below w.heap.size w W))
def DayX (w : World) (g : Nat) (y m d c : Int) (cc : Code) (pre : List Nat) (W : World) : Prop :=
  (∃ (init : List Nat) (x : Nat), (cc = .exit 0 ∧ pre = init ++ [x] ∧ (∀ z ∈ init, mm z ≤ m) ∧ m < mm x) ∧ W.cell? ⟨g, 0, none⟩ = some (.int .i64 (vday y d c init))) ∧ Below w.heap.size w W
theorem dayI_own {w : World} {g N B : Nat} {y m d c : Int} (hB : w.heap.size ≤ B) : OwnFrom B (DayI w g N y m d c) :=
  OwnFrom.and (Own.from (fun s X Y row hs hg hr => ⟨cell_kept hs.1 hg hr, (frozen_kept hs.1 hg hr).trans hs.2.1, cell_kept hs.2.2.1 hg hr, cell_kept hs.2.2.2 hg hr⟩) _) (OwnFrom.and (ownFrom_pure _ _) (OwnFrom.and (ownFrom_size _ _) (ownFrom_below (Nat.le_refl _) hB)))
theorem dayX_own {w : World} {g B : Nat} {y m d c : Int} (hB : w.heap.size ≤ B) (cc : Code) : OwnFrom B (DayX w g y m d c cc) :=
  OwnFrom.and (Own.from (fun s X Y row hs hg hr => by obtain ⟨init, x, hp, hcell⟩ := hs; exact ⟨init, x, hp, cell_kept hcell hg hr⟩) _) (ownFrom_below (Nat.le_refl _) hB)
theorem dayI_end {w W : World} {g N : Nat} {y m d c : Int} (h1 : 1 ≤ m) (h2 : m ≤ 12) (h : DayI w g N y m d c (List.range 12) W) : W.cell? ⟨g, 0, none⟩ = some (.int .i64 (dn y m d c)) := by
  have hm : mm 11 ≤ m := h.2.1 11 (by simp)
  have e : m = 12 := by have : mm 11 = 12 := rfl; omega
  have := h.1.1
  rw [List.range_succ, vday_snoc, show mm 11 = 12 from rfl] at this
  rw [this, e]; rfl
theorem dayX_end {w W : World} {g : Nat} {y m d c : Int} {cc : Code} {k : Nat} (hk : k < 12) (h1 : 1 ≤ m) (h2 : m ≤ 12) (h : DayX w g y m d c cc (List.range (k + 1)) W) : cc = .exit 0 ∧ W.cell? ⟨g, 0, none⟩ = some (.int .i64 (dn y m d c)) := by
  obtain ⟨⟨init, x, ⟨hcc, hp, hz, hx⟩, hc⟩, _⟩ := h
  obtain ⟨rfl, rfl⟩ := range_snoc hp
  refine ⟨hcc, ?_⟩
  rw [mm_lt hk] at hx
  match x, hk with
  | 0, _ => omega
  | j + 1, hk =>
    have hj := hz j (by simp)
    rw [mm_lt (by omega)] at hj
    rw [List.range_succ, vday_snoc, mm_lt (by omega), show ((j : Int) + 1) = m by omega] at hc
    exact hc

end Go.Proofs.YtohoeonfoolpdaaDoor
