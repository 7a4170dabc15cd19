/- The laws' sum of a slice of ints. -/
import Derived.Test.YtohoeonfoolpdaaDoorSd
import Derived.Test.YtohoeonfoolpdaaDoorLw
import Derived.IntWalk
namespace Go.Proofs.YtohoeonfoolpdaaDoor
open Go.RowKit
set_option linter.unusedVariables false

def isum : List Int → Int
  | [] => 0
  | x :: r => x + isum r
theorem isum_app : ∀ A B : List Int, isum (A ++ B) = isum A + isum B
  | [], B => by rw [List.nil_append, isum]; omega
  | x :: A, B => by rw [List.cons_append, isum, isum, isum_app A B]; omega
theorem isum_perm {A B : List Int} (h : A.Perm B) : isum A = isum B := by
  induction h with
  | nil => rfl
  | cons x _ ih => rw [isum, isum, ih]
  | swap x y l => simp only [isum]; omega
  | trans _ _ ih1 ih2 => rw [ih1, ih2]
theorem isum_take {L : List Int} {k : Nat} (h : k < L.length) : isum (L.take (k + 1)) = isum (L.take k) + L.getD k 0 := by
  rw [List.take_succ_eq_append_getElem h, isum_app, isum, isum]
  simp [List.getD_eq_getElem?_getD, h]
theorem isum_bd : ∀ {L : List Int}, (∀ x ∈ L, -12000 ≤ x ∧ x ≤ 12000) → -12000 * (L.length : Int) ≤ isum L ∧ isum L ≤ 12000 * (L.length : Int)
  | [], _ => by simp [isum]
  | x :: r, h => by
    have h1 := h x List.mem_cons_self
    have h2 := isum_bd (L := r) fun y hy => h y (List.mem_cons_of_mem _ hy)
    rw [isum, List.length_cons]
    omega
set_option maxRecDepth 100000 in
set_option maxHeartbeats 1000000 in
theorem sum_any (a : Option Addr) (c : Nat) (L : List Int) (w : World) (h : Ls w a L) (hB : ∀ x ∈ L, -12000 ≤ x ∧ x ≤ 12000) (hm : L.length ≤ 1000) :
    Calls Tryd.prog 11 #[.slice a L.length c] w fun e w' => e = .returned (.int .i64 (isum L)) ∧ w = w' := by
  have HBd : Hid (∀ k, k ≤ L.length → -12000 * (k : Int) ≤ isum (L.take k) ∧ isum (L.take k) ≤ 12000 * (k : Int)) := Lib.hid (fun k hk => by
    have := isum_bd (L := L.take k) fun x hx => hB x (List.mem_of_mem_take hx)
    rw [List.length_take, Nat.min_eq_left hk] at this
    exact this)
  have HB := Lib.hid hB
  clear hB
  go_enter Tryd.func11, Tryd.ntmps11
  go_wp2_with fail
  go_loop [3, 4] (fun s i => ∃ k : Nat, k ≤ L.length ∧ i = .int .i64 k ∧ s = .int .i64 (isum (L.take k))) (fun _ i => L.length - (intOf i).toNat)
  case atStart => exact ⟨0, by omega, rfl, rfl⟩
  case round =>
    obtain ⟨k, hk, rfl, rfl⟩ := hrel
    by_cases hlt : k < L.length
    · obtain ⟨b, off, rfl, hb, hc⟩ := h.at_ hlt
      have HT := Lib.hid (isum_take hlt)
      obtain ⟨b0, b1⟩ := HBd.out k hk
      obtain ⟨x0, x1⟩ := HB.out _ (getD_mem hlt)
      have k0 : (0 : Int) ≤ (k : Int) := by omega
      have kz : (k : Int) < (L.length : Int) := by omega
      generalize L.getD k 0 = x at *
      generalize isum (L.take k) = s at *
      go_wp2
      go_round
      case rel => exact ⟨k + 1, by omega, by go_num, by rw [HT.out]⟩
      case measure => simp [intOf]; omega
    · obtain rfl : k = L.length := by omega
      rw [List.take_length]
      go_wp2
      go_ret
      exact ⟨rfl, rfl⟩
end Go.Proofs.YtohoeonfoolpdaaDoor
