/- The model's order of keys; a key put at its place: what is known of slices of keys there. -/
import Derived.Test.YtamdfdbhkmgflaaKa
import Derived.Test.YtamdfdbhkmgflaaSv
import Derived.Deep.QuietTactic
import Derived.Deep.RegionHeld3
import Derived.Deep.RegionLaw
import Derived.Deep.AppendLies
import Derived.LoopTactic
namespace Go.Proofs.Ytamdfdbhkmgflaa
open Go.RowKit
set_option linter.unusedVariables false

set_option maxRecDepth 100000 in
set_option maxHeartbeats 2000000 in
theorem less_any (a0 a1 a2 b0 b1 b2 : Int) (w : World) :
    Calls Try.prog 46 #[.agg #[.int .i64 a0, .int .i64 a1, .int .i64 a2], .agg #[.int .i64 b0, .int .i64 b1, .int .i64 b2]] w fun e w' => e = .returned (.bool (klt (a0, a1, a2) (b0, b1, b2))) ∧ Keep w w' := by
  have HK : Hid (klt (a0, a1, a2) (b0, b1, b2) = (decide (a0 < b0) || (decide (a0 = b0) && (decide (a2 < b2) || (decide (a2 = b2) && decide (a1 < b1)))))) := Lib.hid rfl
  generalize klt (a0, a1, a2) (b0, b1, b2) = v at HK ⊢
  by_cases h0 : a0 = b0
  · by_cases h2 : a2 = b2
    · have HE : Hid (v = decide (a1 < b1)) := Lib.hid (by rw [HK.out]; simp [h0, h2])
      subst h0; subst h2
      clear HK
      go_enter Try.func46, Try.ntmps46
      go_wp2
      go_ret
      exact ⟨by rw [HE.out]; rfl, ((Keep.refl w).alloc _).alloc _⟩
    · have HE : Hid (v = decide (a2 < b2)) := Lib.hid (by rw [HK.out]; simp [h0, h2])
      have e2 : (a2 != b2) = true := bne_iff_ne.2 h2
      subst h0
      clear HK
      go_enter Try.func46, Try.ntmps46
      go_wp2
      go_ret
      exact ⟨by rw [HE.out]; rfl, ((Keep.refl w).alloc _).alloc _⟩
  · have HE : Hid (v = decide (a0 < b0)) := Lib.hid (by rw [HK.out]; simp [h0])
    have e0 : (a0 != b0) = true := bne_iff_ne.2 h0
    clear HK
    go_enter Try.func46, Try.ntmps46
    go_wp2
    go_ret
    exact ⟨by rw [HE.out]; rfl, ((Keep.refl w).alloc _).alloc _⟩
theorem abs_worldK (P : World → Prop) (w : World) (F : World → Prop) (h : F w) (h2 : ∀ wq, F wq → P wq) : P w := h2 w h
theorem keys1 {ks : List K3} : ∀ u ∈ flatK ks, u.oneCell' = true := by
  intro u hu
  unfold flatK at hu
  rw [List.mem_flatMap] at hu
  obtain ⟨r, _, hr⟩ := hu
  exact kc_one r u hr
theorem add_off (b o j : Nat) : ((⟨b, o, none⟩ : Addr).add j) = ⟨b, o + j, none⟩ := by
  unfold Addr.add; split <;> simp_all
theorem news_ksK {w : World} {b off : Nat} {zs : List K3} (h : Ks w (some ⟨b, off, none⟩) zs) : ∀ j u, (flatK zs)[j]? = some u → w.cell? ((⟨b, off, none⟩ : Addr).add j) = some u := by
  intro j u hj
  rw [add_off]
  rcases h with h | ⟨b', off', ha, hb, hc⟩
  · rw [h] at hj; simp [flatK] at hj
  · injection ha with ha
    injection ha with e1 e2 _
    subst e1; subst e2
    by_cases hl : j < zs.length * 3
    · have h9 := hc (j / 3) (by omega)
      have e : j = j / 3 * 3 + j % 3 := by omega
      rw [e, flatK_at zs (j / 3) (j % 3) (by omega) (by omega)] at hj
      rw [show off + j = off + j / 3 * 3 + j % 3 by omega, h9.kc_at (j % 3) (by omega)]
      exact hj
    · rw [List.getElem?_eq_none (by rw [flatK_len]; omega)] at hj
      simp at hj
theorem ks_takeK {w : World} {a : Option Addr} {zs : List K3} (h : Ks w a zs) (k : Nat) : Ks w a (zs.take k) := by
  rcases h with h | ⟨b, off, ha, hb, hc⟩
  · left; rw [h]; simp
  · refine .inr ⟨b, off, ha, hb, fun i hi => ?_⟩
    rw [List.length_take] at hi
    have e : (zs.take k).getD i k0 = zs.getD i k0 := by simp [List.getD_eq_getElem?_getD, show i < k by omega]
    rw [e]; exact hc i (by omega)
theorem ks_dropK {w : World} {b off : Nat} {zs : List K3} (h : Ks w (some ⟨b, off, none⟩) zs) (k : Nat) : Ks w (some ⟨b, off + k * 3, none⟩) (zs.drop k) := by
  rcases h with h | ⟨b', off', ha, hb, hc⟩
  · left; rw [h]; simp
  · injection ha with ha
    injection ha with e1 e2 _
    subst e1; subst e2
    refine .inr ⟨b, off + k * 3, rfl, hb, fun i hi => ?_⟩
    rw [List.length_drop] at hi
    have e : (zs.drop k).getD i k0 = zs.getD (k + i) k0 := by simp [List.getD_eq_getElem?_getD]
    rw [e, show off + k * 3 + i * 3 = off + (k + i) * 3 by omega]
    exact hc (k + i) (by omega)
theorem newsK3 {w : World} {b : Nat} {x y z : Int} (h0 : w.cell? ⟨b, 0, none⟩ = some (.int .i64 x)) (h1 : w.cell? ⟨b, 1, none⟩ = some (.int .i64 y)) (h2 : w.cell? ⟨b, 2, none⟩ = some (.int .i64 z)) : ∀ j u, [Value.int .i64 x, .int .i64 y, .int .i64 z][j]? = some u → w.cell? ((⟨b, 0, none⟩ : Addr).add j) = some u := by
  intro j u hj
  rw [add_off, Nat.zero_add]
  match j, hj with
  | 0, hj => simp at hj; subst hj; exact h0
  | 1, hj => simp at hj; subst hj; exact h1
  | 2, hj => simp at hj; subst hj; exact h2
theorem newsKN (w : World) (x y z : Int) : ∀ j u, [Value.int .i64 x, .int .i64 y, .int .i64 z][j]? = some u → (w.alloc (.cells #[.int .i64 x, .int .i64 y, .int .i64 z] 33)).cell? ((⟨w.heap.size, 0, none⟩ : Addr).add j) = some u :=
  newsK3 (World.cell?_alloc_new w _ _ 0) (World.cell?_alloc_new w _ _ 1) (World.cell?_alloc_new w _ _ 2)
theorem one3 {x y z : Int} : ∀ u ∈ [Value.int .i64 x, .int .i64 y, .int .i64 z], u.oneCell' = true := by
  intro u hu; simp at hu; rcases hu with rfl | rfl | rfl <;> rfl
theorem step_app_ownK {P : Program} {w : World} {ops : Array Oper} {o : Oper} {a : Act} {K : Act → World → Prop} {Q : Exit → Act → World → Prop} {E : Prop} (hgd : o.guard = none) (s x : Operand) (t : TypeId)
    (ho : o.op = .call { callee := .builtin .append, args := #[s, x], argTypes := #[t, t] })
    (base : Nat) (e : TypeId) (i : TypeInfo) (z : Value) (size bytes : Nat) (ht : P.underlying t = some (.slice e)) (hi : P.info? e = some i) (hz : i.zero = some z)
    (hsize : i.size = size) (hby : i.bytes = bytes) (hzs : z.cells.size = size) (hsz : 0 < size)
    (v : Value) (n : Nat) (xs : List Value) (hs : a.eval s = v) (hown : w.ownsRow base e size v n xs)
    (ad : Addr) (m c : Nat) (news : List Value) (hx : a.eval x = .slice (some ad) m c) (hl : news.length = m * size) (hnews : ∀ j u, news[j]? = some u → w.cell? (ad.add j) = some u) (h1 : ∀ u ∈ news, u.oneCell' = true)
    (h63 : n + m ≤ maxLen) (hbytes : (n + m) * bytes ≤ 140737488355328) (hbase : base ≤ w.heap.size)
    (h : ∀ v' w', w'.ownsRow base e size v' (n + m) (xs ++ news) → w.grownBy w' v.ownBlock → K (a.put o.dst v') w') :
    if Region.wanted o (yielded ops a.tmps) = true then Oper.wp P o a w K Q else E := by
  have hw : Region.wanted o (yielded ops a.tmps) = true := by simp [Region.wanted, hgd]
  rw [if_pos hw]
  exact wp_append_own w s x t ho base e i z size bytes ht hi hz hsize hby hzs hsz v n xs hs hown ad m c news hx hl hnews h1 h63 hbytes hbase fun v' w' h2 h3 _ => h v' w' h2 h3
end Go.Proofs.Ytamdfdbhkmgflaa
