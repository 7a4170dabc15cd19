/- Marks on fresh slices of numbers; what lies below them stays. -/
import Derived.Test.YtamdfdbhkmgflaaSe
namespace Go.Proofs.Ytamdfdbhkmgflaa
open Go.RowKit
set_option linter.unusedVariables false

/-- The slice at a lies below block B. -/
def Lo (B : Nat) (a : Option Addr) (n : Nat) : Prop := n = 0 ∨ ∀ b o, a = some ⟨b, o, none⟩ → b < B
theorem Ls.below {B : Nat} {w w' : World} {a : Option Addr} {zs : List Int} (h : Ls w a zs) (hl : Lo B a zs.length) (hb : Below B w w') : Ls w' a zs := by
  rcases h with h | ⟨b, off, ha, hlt, hc⟩
  · exact .inl h
  · rcases hl with hl | hl
    · exact .inl (List.eq_nil_of_length_eq_zero hl)
    · exact .inr ⟨b, off, ha, Nat.lt_of_lt_of_le hlt hb.size, fun i hi => (hb.cell (p := ⟨b, off + i, none⟩) (hl b off ha)).trans (hc i hi)⟩
theorem Ls.only {B : Nat} {w w' : World} {a : Option Addr} {zs : List Int} (h : Ls w a zs) (hl : Lo B a zs.length) (ho : Only B w w') : Ls w' a zs := by
  rcases hl with hl | hl
  · exact .inl (List.eq_nil_of_length_eq_zero hl)
  · exact ho.ls h fun b o hb => by have := hl b o hb; omega
theorem Ls.lo {w : World} {a : Option Addr} {zs : List Int} (h : Ls w a zs) : Lo w.heap.size a zs.length := by
  rcases h with h | ⟨b, off, ha, hlt, hc⟩
  · left; rw [h]; rfl
  · right; intro b' o' hb'; rw [ha] at hb'; injection hb' with hb'; injection hb' with hb' _ _; omega
theorem Lo.mono {B B' : Nat} {a : Option Addr} {n : Nat} (h : Lo B a n) (hB : B ≤ B') : Lo B' a n := by
  rcases h with h | h
  · exact .inl h
  · exact .inr fun b o hb => by have := h b o hb; omega
theorem Fresh.only {B : Nat} {w w' w'' : World} {a : Option Addr} {zs : List Int} (h : Fresh w w' a zs) (ho : Only B w' w'') (hB : B < w.heap.size) : Fresh w w'' a zs := by
  rcases h with h | ⟨g, ha, hg, hl, h⟩
  · exact .inl h
  · exact .inr ⟨g, ha, hg, Nat.lt_of_lt_of_le hl ho.size, ho.wr h (by omega)⟩
theorem Fresh.drewN {w w' : World} {a : Option Addr} {zs : List Int} (h : Fresh w w' a zs) (n : Nat) : Fresh w (w'.drewN n) a zs := h.keep ((Keep.refl w').drewN n)

theorem ssL_len (rs : List R4) (v s t f n : Int) : (ssL rs v s t f n).length ≤ 12 := by
  cases h : ssOk rs v s t f n
  · rw [ssL_no h]; simp
  · have h2 := h
    simp only [ssOk, Bool.and_eq_true] at h2
    obtain ⟨_, _, _, m, rfl, _, hm⟩ := saB_facts h2.2
    obtain ⟨_, _, x, rfl, _⟩ := vrB_facts h2.1
    rw [ssL_yes h, serN_len]; exact hm
end Go.Proofs.Ytamdfdbhkmgflaa
