/- Marks on fresh slices of numbers; what lies below them stays. -/
import Derived.Test.YtohoeonfoolpdaaDoorSe
namespace Go.Proofs.YtohoeonfoolpdaaDoor
open Go.RowKit
set_option linter.unusedVariables false

/-- The slice at a lies below block B. -/
def Lo (B : Nat) (a : Option Addr) (n : Nat) : Prop := n = 0 ∨ ∀ b o, a = some ⟨b, o, none⟩ → b < B
theorem Ls.below {B : Nat} {w w' : World} {a : Option Addr} {zs : List Int} (h : Ls w a zs) (hl : Lo B a zs.length) (hb : Below B w w') : Ls w' a zs := by
  rcases h with h | ⟨b, off, ha, hlt, hc⟩
  · exact .inl h
  · rcases hl with hl | hl
    · exact .inl (List.eq_nil_of_length_eq_zero hl)
    · exact .inr ⟨b, off, ha, Nat.lt_of_lt_of_le hlt hb.size, fun i hi => (hb.cell (p := ⟨b, off + i, none⟩) (hl b off ha)).trans (hc i hi)⟩
theorem Ls.only {B : Nat} {w w' : World} {a : Option Addr} {zs : List Int} (h : Ls w a zs) (hl : Lo B a zs.length) (ho : Only B w w') : Ls w' a zs := by
  rcases hl with hl | hl
  · exact .inl (List.eq_nil_of_length_eq_zero hl)
  · exact ho.ls h fun b o hb => by have := hl b o hb; omega
theorem Ls.lo {w : World} {a : Option Addr} {zs : List Int} (h : Ls w a zs) : Lo w.heap.size a zs.length := by
  rcases h with h | ⟨b, off, ha, hlt, hc⟩
  · left; rw [h]; rfl
  · right; intro b' o' hb'; rw [ha] at hb'; injection hb' with hb'; injection hb' with hb' _ _; omega
theorem Lo.mono {B B' : Nat} {a : Option Addr} {n : Nat} (h : Lo B a n) (hB : B ≤ B') : Lo B' a n := by
  rcases h with h | h
  · exact .inl h
  · exact .inr fun b o hb => by have := h b o hb; omega
theorem Fresh.only {B : Nat} {w w' w'' : World} {a : Option Addr} {zs : List Int} (h : Fresh w w' a zs) (ho : Only B w' w'') (hB : B < w.heap.size) : Fresh w w'' a zs := by
  rcases h with h | ⟨g, ha, hg, hl, h⟩
  · exact .inl h
  · exact .inr ⟨g, ha, hg, Nat.lt_of_lt_of_le hl ho.size, ho.wr h (by omega)⟩
theorem Fresh.drewN {w w' : World} {a : Option Addr} {zs : List Int} (h : Fresh w w' a zs) (n : Nat) : Fresh w (w'.drewN n) a zs := h.keep ((Keep.refl w').drewN n)

set_option maxHeartbeats 400000 in
theorem markI0 (a : Option Addr) (c : Nat) (w : World) :
    Calls Tryd.prog 19 #[.slice a 0 c, .int .i64 1] w fun e w' => e = .returned (.int .i64 1) ∧ w = w' := by
  go_enter Tryd.func19, Tryd.ntmps19
  go_wp2_with fail
  go_loop [1, 5] (fun q i => i = .int .i64 0 ∧ q = .int .i64 1) (fun _ i => 0)
  case atStart => exact ⟨rfl, rfl⟩
  case round =>
    obtain ⟨rfl, rfl⟩ := hrel
    go_wp2
    go_ret
    exact ⟨rfl, rfl⟩
/-- Marks on a fresh slice. -/
theorem markF (a : Option Addr) (c : Nat) (zs : List Int) (w0 w : World) (h : Fresh w0 w a zs) (hm : zs.length ≤ 1048576) :
    Calls Tryd.prog 19 #[.slice a zs.length c, .int .i64 1] w fun e w' => e = .returned (.int .i64 (1 + (zs.length : Int))) ∧ (w0.heap.size ≤ w.heap.size → Below w0.heap.size w w') ∧ ∃ ys, ys.length = zs.length ∧ Ls w' a ys ∧ MkI ys := by
  rcases h with rfl | ⟨g, rfl, hg, hl, h⟩
  · refine (markI0 a c w).mono fun e w' ⟨he, hw⟩ => ?_
    subst hw
    exact ⟨he, fun _ => Below.refl _ _, [], rfl, .inl rfl, fun i hi => by simp at hi⟩
  · refine (markI g c zs w h hm).mono fun e w' ⟨he, ho, ys, hy, hw, hk⟩ => ⟨he, fun hs => ho.below hg hs, ys, hy, hw.ls, hk⟩
theorem ssL_len (rs : List R4) (v s t f n : Int) : (ssL rs v s t f n).length ≤ 12 := by
  cases h : ssOk rs v s t f n
  · rw [ssL_no h]; simp
  · have h2 := h
    simp only [ssOk, Bool.and_eq_true] at h2
    obtain ⟨_, _, _, m, rfl, _, hm⟩ := saB_facts h2.2
    obtain ⟨_, _, x, rfl, _⟩ := vrB_facts h2.1
    rw [ssL_yes h, serN_len]; exact hm
end Go.Proofs.YtohoeonfoolpdaaDoor
