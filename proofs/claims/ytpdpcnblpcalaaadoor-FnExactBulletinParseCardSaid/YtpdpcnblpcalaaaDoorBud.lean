/- The words of a text of a series, as the model cuts it. Plain mathematics. -/
import Derived.Test.YtpdpcnblpcalaaaDoorBua
import Derived.Test.YtpdpcnblpcalaaaDoorSp2
namespace Go.Proofs.YtpdpcnblpcalaaaDoor
open Go.RowKit
set_option linter.unusedVariables false

def btWs (s t f : Int) (zs : List Int) : List (List UInt8) := (98 :: Lib.itoa s) :: (107 :: Lib.itoa t) :: (100 :: Lib.itoa f) :: zs.map bdW
theorem flat_ws (s t f : Int) (zs : List Int) : flat 32 (btWs s t f zs) = bdL s t f zs ++ [32] := by
  have h : ∀ zs : List Int, 32 :: flat 32 (zs.map bdW) = bWs zs ++ [32] := by
    intro zs
    induction zs with
    | nil => rfl
    | cons v r ih =>
      rw [bWs_cons, List.map_cons, flat, ih]; simp
  rw [btWs, flat, flat, flat, h, bdL_eq]; simp
theorem no32_itoa {v : Int} (h : NumB v) : (32 : UInt8) ∉ Lib.itoa v := numOk_no (itoa_ok h.1 h.2).1
theorem no32_cons {c : UInt8} {l : List UInt8} (hc : c ≠ 32) (h : (32 : UInt8) ∉ l) : (32 : UInt8) ∉ c :: l := fun hm => by
  rcases List.mem_cons.1 hm with e | e
  · exact hc e.symm
  · exact h e
theorem no32_bdW {v : Int} (h : NumB v) : (32 : UInt8) ∉ bdW v := by
  unfold bdW; split
  · decide
  · exact no32_itoa h
theorem bt_words {p : ByteArray} {s t f : Int} {zs : List Int} (h : Bt p s t f zs) {ws : List (List UInt8)} (hw : Words 32 p.data.toList ws) :
    ws = btWs s t f zs ++ [61 :: Lib.itoa (bsL (bdL s t f zs) : Int)] := by
  obtain ⟨a, b, c, d⟩ := btOk_numB h.1
  have hlt := bsL_lt (bdL s t f zs)
  refine hw.unique ⟨btWs s t f zs, _, rfl, ?_, ?_⟩
  · rw [h.2, flat_ws, btL, btS]; simp
  · intro q hq
    rw [List.mem_append] at hq
    rcases hq with hq | hq
    · rcases List.mem_cons.1 hq with rfl | hq
      · exact no32_cons (by decide) (no32_itoa a)
      rcases List.mem_cons.1 hq with rfl | hq
      · exact no32_cons (by decide) (no32_itoa b)
      rcases List.mem_cons.1 hq with rfl | hq
      · exact no32_cons (by decide) (no32_itoa c)
      obtain ⟨v, hv, rfl⟩ := List.mem_map.1 hq
      exact no32_bdW (d v hv)
    · obtain rfl := List.mem_singleton.1 hq
      exact no32_cons (by decide) (no32_itoa ⟨by omega, by omega⟩)
/-- A word of a value, as the model reads it. -/
def wOk (u : List UInt8) : Bool := u == [47] || numOk u
def wV (u : List UInt8) : Int := if u = [47] then -9999 else numRaw u
theorem numRaw_bound (u : List UInt8) : -99999 ≤ numRaw u ∧ numRaw u ≤ 99999 := by
  have h1 := digs_bounds u
  have h2 := digs_bounds u.tail
  unfold numRaw; split <;> omega
theorem wV_bound (u : List UInt8) : NumB (wV u) := by
  have := numRaw_bound u
  unfold wV NumB; split <;> omega
theorem wOk_bdW {v : Int} (h : NumB v) : wOk (bdW v) = true ∧ wV (bdW v) = v := by
  by_cases hv : v = -9999
  · subst hv; exact ⟨rfl, rfl⟩
  · have h1 := itoa_ok h.1 h.2
    have hne : Lib.itoa v ≠ [47] := fun e => itoa_head h.1 h.2 [] [] (by rw [List.append_nil]; exact e)
    rw [bdW, if_neg hv]
    exact ⟨by rw [wOk, h1.1]; simp, by rw [wV, if_neg hne, numRaw_ok h1.1, h1.2]⟩
def midW (ws : List (List UInt8)) : List (List UInt8) := (ws.drop 3).take (ws.length - 4)
theorem bt_read {p : ByteArray} {s t f : Int} {zs : List Int} (h : Bt p s t f zs) {ws : List (List UInt8)} (hw : Words 32 p.data.toList ws) :
    5 ≤ ws.length ∧ wordOk (ws.getD 0 []) 98 = true ∧ wordRaw (ws.getD 0 []) 98 = s ∧ wordOk (ws.getD 1 []) 107 = true ∧ wordRaw (ws.getD 1 []) 107 = t ∧
      wordOk (ws.getD 2 []) 100 = true ∧ wordRaw (ws.getD 2 []) 100 = f ∧ (midW ws).all wOk = true ∧ (midW ws).map wV = zs := by
  have e := bt_words h hw
  obtain ⟨a, b, c, d⟩ := btOk_numB h.1
  obtain ⟨_, _, _, hl, _⟩ := btOk_facts h.1
  have wr : ∀ (x : UInt8) (n : Int), NumB n → wordRaw (x :: Lib.itoa n) x = n := fun x n hn => by
    have h1 := itoa_ok hn.1 hn.2
    rw [wordRaw, if_pos rfl, numRaw_ok h1.1, h1.2]
  have hm : midW ws = zs.map bdW := by
    rw [midW, e]
    simp [btWs]
  refine ⟨by rw [e]; simp [btWs]; omega, ?_, ?_, ?_, ?_, ?_, ?_, ?_, ?_⟩
  · rw [e]; exact wordOk_of (itoa_ok a.1 a.2).1
  · rw [e]; exact wr 98 s a
  · rw [e]; exact wordOk_of (itoa_ok b.1 b.2).1
  · rw [e]; exact wr 107 t b
  · rw [e]; exact wordOk_of (itoa_ok c.1 c.2).1
  · rw [e]; exact wr 100 f c
  · rw [hm, List.all_eq_true]
    intro q hq
    obtain ⟨v, hv, rfl⟩ := List.mem_map.1 hq
    exact (wOk_bdW (d v hv)).1
  · rw [hm, List.map_map]
    have h9 : ∀ l : List Int, (∀ v ∈ l, NumB v) → l.map (wV ∘ bdW) = l := by
      intro l
      induction l with
      | nil => intro _; rfl
      | cons v r ih =>
        intro h8
        rw [List.map_cons, ih fun x hx => h8 x (List.mem_cons_of_mem _ hx), Function.comp, (wOk_bdW (h8 v List.mem_cons_self)).2]
    exact h9 zs d
theorem numRaw_w (u : List UInt8) : wordRaw u 98 = wordRaw u 98 := rfl
theorem wordRaw_bound (u : List UInt8) (x : UInt8) : NumB (wordRaw u x) := by
  unfold wordRaw NumB
  split
  · rename_i c t
    have := numRaw_bound t
    split <;> omega
  · omega
end Go.Proofs.YtpdpcnblpcalaaaDoor
