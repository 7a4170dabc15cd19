/- Tallies: a sum to which each known value adds something. -/
import Derived.Test.YtkiibklenpncpaaMe
import Derived.Test.YtkiibklenpncpaaMd
import Derived.Test.YtkiibklenpncpaaStill
import Derived.LoopTactic
import Derived.IntWalk
namespace Go.Proofs.Ytkiibklenpncpaa
open Go.RowKit
set_option linter.unusedVariables false

set_option maxHeartbeats 400000 in
theorem tk_add (B : Nat) (b t x : Int) (w : World) (c0 : w.cell? ⟨B, 0, none⟩ = some (.int .i64 b)) (c1 : w.cell? ⟨B, 1, none⟩ = some (.int .i64 t)) (f1 : w.frozen? ⟨B, 1, none⟩ = false)
    (t0 : -1000000 ≤ t) (t1 : t ≤ 1000000) (x0 : -12000 ≤ x) (x1 : x ≤ 12000) (b0 : -12000 ≤ b) (b1 : b ≤ 12000) :
    Calls Try.prog 107 #[.pointer (some ⟨B, 0, none⟩), .int .i64 x] w fun e w' => e = .returned (.tuple #[]) ∧ w'.cell? ⟨B, 0, none⟩ = some (.int .i64 b) ∧ w'.cell? ⟨B, 1, none⟩ = some (.int .i64 (t + x)) ∧ w'.frozen? ⟨B, 1, none⟩ = false ∧ Only B w w' := by
  go_enter Try.func107, Try.ntmps107
  go_wp2
  go_end0
  refine ⟨rfl, ?_, ?_, ?_, (Only.refl B w).put1 1 _⟩
  all_goals (go_simp; done)
set_option maxRecDepth 100000 in
set_option maxHeartbeats 1000000 in
theorem ty_add (a : Option Addr) (cap : Nat) (zs : List Int) (b : Int) (w : World) (h : Ls w a zs) (hq : sqB zs = true) (b0 : -12000 ≤ b) (b1 : b ≤ 12000) :
    Calls Try.prog 106 #[.slice a zs.length cap, .int .i64 b, .func (.func 107) #[] #[]] w fun e w' => e = .returned (.int .i64 (isum (knl zs))) ∧ Keep w w' := by
  obtain ⟨_, hl1, hl12⟩ := sq_facts hq
  have hkl := knl_le zs
  have HB := Lib.hid (knl_bd hq)
  have HK := Lib.hid (fun W (k : Keep w W) => kvs_any a cap zs W (h.keep k) (by omega) (by omega))
  clear hq h
  generalize knl zs = L at *
  have hL12 : L.length ≤ 12 := by omega
  have HT : Hid (∀ k, k ≤ L.length → -300000 ≤ isum (L.take k) ∧ isum (L.take k) ≤ 300000) := Lib.hid (fun k hk => by
    have hb : ∀ x ∈ L.take k, -999 ≤ x ∧ x ≤ 10999 := fun x hx => HB.out x (List.mem_of_mem_take hx)
    have hl : (L.take k).length ≤ 12 := by rw [List.length_take]; omega
    have := isum_bd (L := L.take k) fun x hx => by have := hb x hx; omega
    omega)
  go_enter Try.func106, Try.ntmps106
  go_wp2_with fail
  refine (HK.out _ ((Keep.refl w).alloc _)).mono ?_
  rintro e w2 ⟨g, c, rfl, hc, hW, hg, hl, k2⟩
  clear HK
  have hBg : w.heap.size < g := by simp at hg; omega
  have hB2 : w.heap.size < w2.heap.size := by omega
  have c0 : w2.cell? ⟨w.heap.size, 0, none⟩ = some (.int .i64 b) := k2.new 0 rfl
  have c1 : w2.cell? ⟨w.heap.size, 1, none⟩ = some (.int .i64 0) := k2.new 1 rfl
  have f1 : w2.frozen? ⟨w.heap.size, 1, none⟩ = false := k2.fresh 1
  have K2 : Keep w w2 := ((Keep.refl w).alloc _).trans k2
  go_wp2_with fail
  go_loopw [15] (fun i wr => ∃ k : Nat, k ≤ L.length ∧ i = .int .i64 k ∧ wr.cell? ⟨w.heap.size, 0, none⟩ = some (.int .i64 b) ∧ wr.cell? ⟨w.heap.size, 1, none⟩ = some (.int .i64 (isum (L.take k))) ∧ wr.frozen? ⟨w.heap.size, 1, none⟩ = false ∧ Only w.heap.size w2 wr) (fun i _ => L.length - (intOf i).toNat)
  case atStart => exact ⟨0, by omega, rfl, c0, c1, f1, Only.refl _ _⟩
  case round =>
    obtain ⟨k, hk, rfl, d0, d1, g1, hO⟩ := hrel
    by_cases hlt : k < L.length
    · have cz : wr.cell? ⟨g, k, none⟩ = some (.int .i64 (L.getD k 0)) := (hO.cell g k hl (by omega)).trans (hW k hlt).1
      have HS := Lib.hid (show isum (L.take (k + 1)) = isum (L.take k) + L.getD k 0 by
        have e : L.take (k + 1) = L.take k ++ [L.getD k 0] := by
          rw [List.take_succ_eq_append_getElem hlt]; simp [List.getD_eq_getElem?_getD, hlt]
        rw [e]
        rw [isum_app, isum, isum]; omega)
      obtain ⟨x0, x1⟩ := HB.out _ (getD_mem hlt)
      obtain ⟨t0, t1⟩ := HT.out k hk
      generalize L.getD k 0 = x at cz HS x0 x1
      obtain ⟨t, ht⟩ : ∃ t, isum (L.take k) = t := ⟨_, rfl⟩
      rw [ht] at d1 HS t0 t1
      clear ht
      have k0 : (0 : Int) ≤ (k : Int) := by omega
      have kz : (k : Int) < (L.length : Int) := by omega
      go_wp2_with fail
      refine (tk_add w.heap.size b t x _ d0 d1 g1 (by omega) (by omega) (by omega) (by omega) b0 b1).mono ?_
      rintro e w5 ⟨rfl, e0, e1, e2, ho5⟩
      go_wp2
      go_roundw
      case rel => exact ⟨k + 1, by omega, by go_num, e0, by rw [HS.out]; exact e1, e2, hO.trans ho5⟩
      case measure => simp [intOf]; omega
    · obtain rfl : k = L.length := by omega
      rw [List.take_length] at d1
      go_wp2
      go_ret
      exact ⟨rfl, K2.trans' hO (Nat.le_refl _)⟩
end Go.Proofs.Ytkiibklenpncpaa
