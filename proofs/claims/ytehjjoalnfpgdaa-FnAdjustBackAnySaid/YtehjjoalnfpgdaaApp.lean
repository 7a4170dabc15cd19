/- Appending to an own slice of ints, in a drawn region too; parts of slices. -/
import Derived.Test.YtehjjoalnfpgdaaOi
import Derived.Deep.RegionLaw
namespace Go.Proofs.Ytehjjoalnfpgdaa
open Go.RowKit
set_option linter.unusedVariables false

theorem abs_worldA (P : World → Prop) (w : World) (F : World → Prop) (h : F w) (h2 : ∀ wq, F wq → P wq) : P w := h2 w h
theorem news_lsA {w : World} {b off : Nat} {zs : List Int} (h : Ls w (some ⟨b, off, none⟩) zs) : ∀ j u, (zs.map (Value.int .i64))[j]? = some u → w.cell? ((⟨b, off, none⟩ : Addr).add j) = some u := by
  intro j u hj
  rw [List.getElem?_map] at hj
  rcases h with h | ⟨b', off', ha, hb, hc⟩
  · rw [h] at hj; simp at hj
  · injection ha with ha
    injection ha with e1 e2 _
    subst e1; subst e2
    by_cases hl : j < zs.length
    · rw [List.getElem?_eq_getElem hl] at hj
      simp at hj
      subst hj
      have h9 := hc j hl
      rw [show zs.getD j 0 = zs[j] by simp [List.getD_eq_getElem?_getD, hl]] at h9
      rcases Nat.eq_zero_or_pos j with h0 | h0
      · subst h0
        rw [Nat.add_zero] at h9
        rw [← h9]; simp [Addr.add]
      · rw [← h9]; simp [Addr.add, show j ≠ 0 by omega]
    · rw [List.getElem?_eq_none (by omega)] at hj
      simp at hj
theorem ls_takeA {w : World} {a : Option Addr} {zs : List Int} (h : Ls w a zs) (k : Nat) : Ls w a (zs.take k) := by
  rcases h with h | ⟨b, off, ha, hb, hc⟩
  · left; rw [h]; simp
  · refine .inr ⟨b, off, ha, hb, fun i hi => ?_⟩
    rw [List.length_take] at hi
    rw [hc i (by omega)]
    simp [List.getD_eq_getElem?_getD, show i < k by omega]
theorem ls_dropA {w : World} {b off : Nat} {zs : List Int} (h : Ls w (some ⟨b, off, none⟩) zs) (k : Nat) : Ls w (some ⟨b, off + k, none⟩) (zs.drop k) := by
  rcases h with h | ⟨b', off', ha, hb, hc⟩
  · left; rw [h]; simp
  · injection ha with ha
    injection ha with e1 e2 _
    subst e1; subst e2
    refine .inr ⟨b, off + k, rfl, hb, fun i hi => ?_⟩
    rw [List.length_drop] at hi
    rw [show off + k + i = off + (k + i) by omega, hc (k + i) (by omega)]
    simp [List.getD_eq_getElem?_getD]
theorem newsXA {w : World} {b : Nat} {x : Int} (h : w.cell? ⟨b, 0, none⟩ = some (.int .i64 x)) : ∀ j y, [Value.int .i64 x][j]? = some y → w.cell? ((⟨b, 0, none⟩ : Addr).add j) = some y := by
  intro j y hj
  match j, hj with
  | 0, hj => simp at hj; subst hj; simpa [Addr.add] using h
theorem newsWA (w : World) (x : Int) : ∀ j y, [Value.int .i64 x][j]? = some y → (w.alloc (.cells #[.int .i64 x] 3)).cell? ((⟨w.heap.size, 0, none⟩ : Addr).add j) = some y :=
  newsXA (World.cell?_alloc_new w _ _ 0)
theorem one1A {x : Int} : ∀ u ∈ [Value.int .i64 x], u.oneCell' = true := by intro u hu; simp at hu; subst hu; rfl
theorem own_lowA {w : World} {b1 b2 : Nat} {v : Value} {zs : List Int} (hb : b2 ≤ b1) (h : OwI w b1 v zs) : OwI w b2 v zs := by
  obtain ⟨h1, h2⟩ := h
  refine ⟨h1, ?_⟩
  rcases h2 with h3 | ⟨g, cap, cur, h3, h4, h5⟩
  · exact .inl h3
  · exact .inr ⟨g, cap, cur, h3, by omega, h5⟩
theorem step_app_ownA {P : Program} {w : World} {ops : Array Oper} {o : Oper} {a : Act} {K : Act → World → Prop} {Q : Exit → Act → World → Prop} {E : Prop} (hgd : o.guard = none) (s x : Operand) (t : TypeId)
    (ho : o.op = .call { callee := .builtin .append, args := #[s, x], argTypes := #[t, t] })
    (base : Nat) (e : TypeId) (i : TypeInfo) (z : Value) (size bytes : Nat) (ht : P.underlying t = some (.slice e)) (hi : P.info? e = some i) (hz : i.zero = some z)
    (hsize : i.size = size) (hby : i.bytes = bytes) (hzs : z.cells.size = size) (hsz : 0 < size)
    (v : Value) (n : Nat) (xs : List Value) (hs : a.eval s = v) (hown : w.ownsRow base e size v n xs)
    (ad : Addr) (m c : Nat) (news : List Value) (hx : a.eval x = .slice (some ad) m c) (hl : news.length = m * size) (hnews : ∀ j u, news[j]? = some u → w.cell? (ad.add j) = some u) (h1 : ∀ u ∈ news, u.oneCell' = true)
    (h63 : n + m ≤ maxLen) (hbytes : (n + m) * bytes ≤ 140737488355328) (hbase : base ≤ w.heap.size)
    (h : ∀ v' w', w'.ownsRow base e size v' (n + m) (xs ++ news) → w.grownBy w' v.ownBlock → K (a.put o.dst v') w') :
    if Region.wanted o (yielded ops a.tmps) = true then Oper.wp P o a w K Q else E := by
  have hw : Region.wanted o (yielded ops a.tmps) = true := by simp [Region.wanted, hgd]
  rw [if_pos hw]
  exact wp_append_own w s x t ho base e i z size bytes ht hi hz hsize hby hzs hsz v n xs hs hown ad m c news hx hl hnews h1 h63 hbytes hbase fun v' w' h2 h3 _ => h v' w' h2 h3
end Go.Proofs.Ytehjjoalnfpgdaa
