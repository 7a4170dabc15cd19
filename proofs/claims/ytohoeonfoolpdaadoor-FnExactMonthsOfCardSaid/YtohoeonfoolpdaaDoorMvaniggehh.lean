/- Texts of one claim in one: Sm, Oi, App, Still, Sn, Mn, Mi, Sbt, Mo, Ms, Tj. -/
import Derived.Test.YtohoeonfoolpdaaDoorMe
import Derived.Test.YtohoeonfoolpdaaDoorSe
import Derived.Test.YtohoeonfoolpdaaDoorMf
import Derived.Deep.RegionLaw
import Derived.Test.YtohoeonfoolpdaaDoorRows
import Derived.WalkKit
import Derived.StillTailTactics
import Derived.Lib.Hide
import Derived.Test.YtohoeonfoolpdaaDoorUw
import Derived.Test.YtohoeonfoolpdaaDoorSq
import Derived.LoopTactic
import Derived.IntWalk
import Derived.Deep.QuietTactic
import Derived.BigQuiet
import Derived.Test.YtohoeonfoolpdaaDoorCal
import Derived.Test.YtohoeonfoolpdaaDoorRs
import Derived.Test.YtohoeonfoolpdaaDoorMk
import Derived.Lib.AppendZeros
import Derived.WalkSpells
import Derived.Deep.RegionWith
import Derived.Test.YtohoeonfoolpdaaDoorIo
import Derived.Test.YtohoeonfoolpdaaDoorCt
import Derived.Test.YtohoeonfoolpdaaDoorTi
namespace Go.Proofs.YtohoeonfoolpdaaDoor
open Go.RowKit
set_option linter.unusedVariables false

/-- The sum of the first k days: total and number. -/
def su (zs : List Int) (k : Nat) : Int × Int := (isum (knl (zs.take k)), (knN zs k : Int))
theorem su_zero (zs : List Int) : su zs 0 = (0, 0) := rfl
theorem knl_takeM (zs : List Int) {k : Nat} (h : k < zs.length) : knl (zs.take (k + 1)) = knl (zs.take k) ++ knl [zs.getD k 0] := by
  rw [List.take_succ_eq_append_getElem h, knl, knl, knl, List.filter_append]
  simp [List.getD_eq_getElem?_getD, h]
theorem su_step {zs : List Int} {k : Nat} (h : k < zs.length) : (zs.getD k 0 = -9999 → su zs (k + 1) = su zs k) ∧ (zs.getD k 0 ≠ -9999 → su zs (k + 1) = ((su zs k).1 + zs.getD k 0, (su zs k).2 + 1)) := by
  constructor <;> intro hx
  · have e : knl [zs.getD k 0] = [] := by rw [hx]; rfl
    rw [su, su, knl_takeM zs h, e, List.append_nil]
    simp only [knN, if_pos hx, Nat.add_zero]
  · have hx2 : (zs.getD k 0 != -9999) = true := bne_iff_ne.2 hx
    have e : knl [zs.getD k 0] = [zs.getD k 0] := by simp only [knl, List.filter_cons, hx2, List.filter_nil]; rfl
    rw [su, su, knl_takeM zs h, e, isum_app, isum, isum]
    simp only [knN, if_neg hx, Prod.mk.injEq]
    omega
theorem su_last {zs : List Int} : su zs zs.length = (isum (knl zs), ((knl zs).length : Int)) := by
  rw [su, List.take_length, knN_all]
theorem su_bd {zs : List Int} (h : sqB zs = true) {k : Nat} (hk : k ≤ zs.length) : (-144000 ≤ (su zs k).1 ∧ (su zs k).1 ≤ 144000) ∧ 0 ≤ (su zs k).2 ∧ (su zs k).2 ≤ 12 := by
  have hl := (sq_facts h).2.2
  have hn := knN_le zs k
  have h1 : (knl (zs.take k)).length ≤ 12 := by
    have := knl_le (zs.take k); rw [List.length_take] at this; omega
  have h2 := isum_bd (L := knl (zs.take k)) fun x hx => by
    rw [knl, List.mem_filter] at hx
    rcases qB_bd (List.all_eq_true.1 (sq_facts h).1 x (List.mem_of_mem_take hx.1)) with e | e
    · exact absurd e (by simpa using hx.2)
    · omega
  simp only [su]
  omega
def sul (zs : List Int) : List (Int × Int) := (List.range (zs.length + 1)).map (su zs)
def suL (zs : List Int) : List (Int × Int) := if sqB zs then sul zs else []
theorem suL_yes {zs : List Int} (h : sqB zs = true) : suL zs = sul zs := by simp [suL, h]
theorem suL_no {zs : List Int} (h : sqB zs = false) : suL zs = [] := by simp [suL, h]
theorem sul_len (zs : List Int) : (sul zs).length = zs.length + 1 := by simp [sul]
theorem sul_at {zs : List Int} {k : Nat} (h : k ≤ zs.length) : (sul zs).getD k (0, 0) = su zs k := by
  simp [sul, List.getD_eq_getElem?_getD, show k < zs.length + 1 by omega]
theorem sul_snoc {zs : List Int} {k : Nat} (h : k ≤ zs.length) : (sul zs).take (k + 1) = (sul zs).take k ++ [su zs k] := by
  rw [List.take_succ_eq_append_getElem (by rw [sul_len]; omega)]; simp [sul]
theorem suL_len (zs : List Int) : (suL zs).length ≤ 13 := by
  cases h : sqB zs
  · rw [suL_no h]; simp
  · rw [suL_yes h, sul_len]; have := (sq_facts h).2.2; omega

/-- The sum between two days. -/
def smOk (s : Int × Int) : Bool := inB s.1 (-999999) 999999 && inB s.2 0 99
def sbB (ss : List (Int × Int)) (f t : Int) : Bool := decide (1 ≤ ss.length ∧ ss.length ≤ 13) && (decide (0 ≤ f ∧ f ≤ t ∧ t < (ss.length : Int)) && (smOk (ss.getD f.toNat (0, 0)) && smOk (ss.getD t.toNat (0, 0))))
def sbV (ss : List (Int × Int)) (f t : Int) : Int × Int := if sbB ss f t then ((ss.getD t.toNat (0, 0)).1 - (ss.getD f.toNat (0, 0)).1, (ss.getD t.toNat (0, 0)).2 - (ss.getD f.toNat (0, 0)).2) else (0, 0)
theorem smOk_facts {s : Int × Int} (h : smOk s = true) : (-999999 ≤ s.1 ∧ s.1 ≤ 999999) ∧ 0 ≤ s.2 ∧ s.2 ≤ 99 := by
  simp only [smOk, inB, Bool.and_eq_true, decide_eq_true_eq] at h; exact h
theorem smOk_mk {s : Int × Int} (h : (-999999 ≤ s.1 ∧ s.1 ≤ 999999) ∧ 0 ≤ s.2 ∧ s.2 ≤ 99) : smOk s = true := by
  simp only [smOk, inB, Bool.and_eq_true, decide_eq_true_eq]; exact h
theorem sbB_facts {ss : List (Int × Int)} {f t : Int} (h : sbB ss f t = true) : (1 ≤ ss.length ∧ ss.length ≤ 13) ∧ (0 ≤ f ∧ f ≤ t ∧ t < (ss.length : Int)) ∧ smOk (ss.getD f.toNat (0, 0)) = true ∧ smOk (ss.getD t.toNat (0, 0)) = true := by
  simp only [sbB, Bool.and_eq_true, decide_eq_true_eq] at h; exact h
theorem sbB_mk {ss : List (Int × Int)} {f t : Int} (h1 : 1 ≤ ss.length ∧ ss.length ≤ 13) (h2 : 0 ≤ f ∧ f ≤ t ∧ t < (ss.length : Int)) (h3 : smOk (ss.getD f.toNat (0, 0)) = true) (h4 : smOk (ss.getD t.toNat (0, 0)) = true) : sbB ss f t = true := by
  simp only [sbB, Bool.and_eq_true, decide_eq_true_eq]; exact ⟨h1, h2, h3, h4⟩
theorem sbB_len {ss : List (Int × Int)} {f t : Int} (h : ¬ (1 ≤ ss.length ∧ ss.length ≤ 13)) : sbB ss f t = false := by rw [sbB, decide_eq_false h, Bool.false_and]
theorem sbB_arg {ss : List (Int × Int)} {f t : Int} (h : ¬ (0 ≤ f ∧ f ≤ t ∧ t < (ss.length : Int))) : sbB ss f t = false := by rw [sbB, decide_eq_false h, Bool.false_and, Bool.and_false]
theorem sbB_low {ss : List (Int × Int)} {f t : Int} (h : smOk (ss.getD f.toNat (0, 0)) = false) : sbB ss f t = false := by rw [sbB, h, Bool.false_and, Bool.and_false, Bool.and_false]
theorem sbB_high {ss : List (Int × Int)} {f t : Int} (h : smOk (ss.getD t.toNat (0, 0)) = false) : sbB ss f t = false := by rw [sbB, h, Bool.and_false, Bool.and_false, Bool.and_false]
theorem sbV_yes {ss : List (Int × Int)} {f t : Int} (h : sbB ss f t = true) : sbV ss f t = ((ss.getD t.toNat (0, 0)).1 - (ss.getD f.toNat (0, 0)).1, (ss.getD t.toNat (0, 0)).2 - (ss.getD f.toNat (0, 0)).2) := by simp [sbV, h]
theorem sbV_no {ss : List (Int × Int)} {f t : Int} (h : sbB ss f t = false) : sbV ss f t = (0, 0) := by simp [sbV, h]
/-- Of the sums of a series. -/
theorem sb_sul {zs : List Int} (h : sqB zs = true) {f t : Nat} (hf : f ≤ t) (ht : t ≤ zs.length) : sbB (sul zs) (f : Int) (t : Int) = true ∧ sbV (sul zs) (f : Int) (t : Int) = ((su zs t).1 - (su zs f).1, (su zs t).2 - (su zs f).2) := by
  have hl := (sq_facts h).2
  have e1 : ((f : Nat) : Int).toNat = f := by omega
  have e2 : ((t : Nat) : Int).toNat = t := by omega
  have b1 := su_bd h (k := f) (by omega)
  have b2 := su_bd h (k := t) (by omega)
  have hb : sbB (sul zs) (f : Int) (t : Int) = true := sbB_mk (by rw [sul_len]; omega) (by rw [sul_len]; omega) (by rw [e1, sul_at (by omega)]; exact smOk_mk (by omega)) (by rw [e2, sul_at ht]; exact smOk_mk (by omega))
  exact ⟨hb, by rw [sbV_yes hb, e1, e2, sul_at ht, sul_at (by omega)]⟩
theorem sb_day {zs : List Int} (h : sqB zs = true) {k : Nat} (hk : k < zs.length) : (zs.getD k 0 = -9999 → sbV (sul zs) (k : Int) ((k : Int) + 1) = (0, 0)) ∧ (zs.getD k 0 ≠ -9999 → sbV (sul zs) (k : Int) ((k : Int) + 1) = (zs.getD k 0, 1)) := by
  have e := (sb_sul h (f := k) (t := k + 1) (by omega) (by omega)).2
  rw [show (((k + 1 : Nat)) : Int) = (k : Int) + 1 by omega] at e
  rw [e]
  constructor <;> intro hx
  · rw [(su_step hk).1 hx]; simp only [Prod.mk.injEq]; omega
  · rw [(su_step hk).2 hx]; simp only [Prod.mk.injEq]; omega
end Go.Proofs.YtohoeonfoolpdaaDoor
namespace Go.Proofs.YtohoeonfoolpdaaDoor
open Go.RowKit
set_option linter.unusedVariables false

theorem infoIntO : (Tryd.prog.info? 3).map (fun i => (i.zero, i.size, i.bytes)) = some (some (.int .i64 0), 1, 8) := by kernel_rfl
/-- A slice value that owns the integers zs. -/
def OwI (w : World) (base : Nat) (v : Value) (zs : List Int) : Prop := w.ownsRow base 3 1 v zs.length (zs.map (Value.int .i64))
theorem OwI.keep {w w' : World} {base : Nat} {v : Value} {zs : List Int} (h : OwI w base v zs) (k : Keep w w') : OwI w' base v zs := by
  refine World.ownsRow.kept h (⟨Below.os k, Below.tape k, Below.output k, Below.size k, fun i hi _ => Below.block k i hi⟩ : w.grownBy w' none) ?_
  cases hv : v.ownBlock with
  | none => left; rfl
  | some k => right; simp
theorem OwI.nil (w : World) (base : Nat) : OwI w base (.slice none 0 0) [] := World.ownsRow_nil _ _ _ _
theorem OwI.made (w : World) : OwI (w.alloc (.cells #[] 3)) w.heap.size (.slice (some ⟨w.heap.size, 0, none⟩) 0 0) [] :=
  World.ownsRow_made w #[] 0 (Nat.le_refl _) (by unfold maxLen; omega) rfl
theorem OwI.slice {w : World} {base : Nat} {v : Value} {zs : List Int} (h : OwI w base v zs) : ∃ a c, v = .slice a zs.length c ∧ zs.length ≤ c ∧ Ls w a zs := by
  rcases id h.2 with ⟨hv, h0⟩ | ⟨g, cap, cur, hv, _, hc, _⟩
  · exact ⟨none, 0, by rw [hv, h0], by omega, .inl (List.eq_nil_of_length_eq_zero h0)⟩
  · subst hv; exact ⟨_, _, rfl, by omega, (Ls.own h).2⟩
theorem OwI.fresh {w0 w : World} {base n c : Nat} {a : Option Addr} {zs : List Int} (h : OwI w base (.slice a n c) zs) (hb : w0.heap.size ≤ base) : n = zs.length ∧ n ≤ c ∧ Fresh w0 w a zs := by
  obtain ⟨a', c', hv, hc, _⟩ := h.slice
  injection hv with e1 e2 e3
  subst e1
  subst e2
  subst e3
  refine ⟨rfl, hc, ?_⟩
  by_cases h0 : zs = []
  · exact .inl h0
  · have hp : 0 < zs.length := List.length_pos_iff.2 h0
    obtain ⟨g, cap, hv, hg, hlt⟩ := World.ownsRow.form h hp
    injection hv with e1 _ _
    subst e1
    refine .inr ⟨g, rfl, by omega, hlt, fun j hj => ⟨?_, World.ownsRow.frozenAt h j⟩⟩
    rw [World.ownsRow.cellAt h j (by omega)]
    simp [hj, List.getD_eq_getElem?_getD]
/-- A new slice, or none. -/
def NwL (L : List Int) (w : World) (e : Ending) (w' : World) : Prop := ∃ (a : Option Addr) (c : Nat), e = .returned (.slice a L.length c) ∧ L.length ≤ c ∧ Fresh w w' a L ∧ Keep w w'
/-- A new slice, or none, and a bool. -/
def NwB (L : List Int) (b : Bool) (w : World) (e : Ending) (w' : World) : Prop := ∃ (a : Option Addr) (c : Nat), e = .returned (.tuple #[.slice a L.length c, .bool b]) ∧ L.length ≤ c ∧ Fresh w w' a L ∧ Keep w w'
theorem nwl_no {L : List Int} {w w' : World} (h : L = []) (a : Option Addr) (c : Nat) (k : Keep w w') : NwL L w (.returned (.slice a 0 c)) w' := by
  subst h; exact ⟨a, c, rfl, Nat.zero_le _, .inl rfl, k⟩
theorem nwl_own {L : List Int} {w w' : World} {base n c : Nat} {x : Option Addr} (h : OwI w' base (.slice x n c) L) (hb : w.heap.size ≤ base) (k : Keep w w') : NwL L w (.returned (.slice x n c)) w' := by
  obtain ⟨rfl, hc, hF⟩ := h.fresh hb
  exact ⟨x, c, rfl, hc, hF, k⟩
theorem nwb_no {L : List Int} {b : Bool} {w w' : World} (h : L = []) (hb : b = false) (a : Option Addr) (c : Nat) (k : Keep w w') : NwB L b w (.returned (.tuple #[.slice a 0 c, .bool false])) w' := by
  subst h; subst hb; exact ⟨a, c, rfl, Nat.zero_le _, .inl rfl, k⟩
theorem nwb_own {L : List Int} {b : Bool} {w w' : World} {base n c : Nat} {x : Option Addr} (h : OwI w' base (.slice x n c) L) (h2 : b = true) (hb : w.heap.size ≤ base) (k : Keep w w') : NwB L b w (.returned (.tuple #[.slice x n c, .bool true])) w' := by
  subst h2
  obtain ⟨rfl, hc, hF⟩ := h.fresh hb
  exact ⟨x, c, rfl, hc, hF, k⟩
def FrPostO (L : List Int) (w : World) (e : Ending) (w' : World) : Prop := ∃ (a : Option Addr) (c : Nat), e = .returned (.slice a L.length c) ∧ Fresh w w' a L ∧ Keep w w'
theorem NwL.fr {L : List Int} {w w' : World} {e : Ending} (h : NwL L w e w') : FrPostO L w e w' := by
  obtain ⟨a, c, he, _, hF, k⟩ := h
  exact ⟨a, c, he, hF, k⟩
end Go.Proofs.YtohoeonfoolpdaaDoor
namespace Go.Proofs.YtohoeonfoolpdaaDoor
open Go.RowKit
set_option linter.unusedVariables false

theorem abs_worldA (P : World → Prop) (w : World) (F : World → Prop) (h : F w) (h2 : ∀ wq, F wq → P wq) : P w := h2 w h
theorem news_lsA {w : World} {b off : Nat} {zs : List Int} (h : Ls w (some ⟨b, off, none⟩) zs) : ∀ j u, (zs.map (Value.int .i64))[j]? = some u → w.cell? ((⟨b, off, none⟩ : Addr).add j) = some u := by
  intro j u hj
  rw [List.getElem?_map] at hj
  rcases h with h | ⟨b', off', ha, hb, hc⟩
  · rw [h] at hj; simp at hj
  · injection ha with ha
    injection ha with e1 e2 _
    subst e1; subst e2
    by_cases hl : j < zs.length
    · rw [List.getElem?_eq_getElem hl] at hj
      simp at hj
      subst hj
      have h9 := hc j hl
      rw [show zs.getD j 0 = zs[j] by simp [List.getD_eq_getElem?_getD, hl]] at h9
      rcases Nat.eq_zero_or_pos j with h0 | h0
      · subst h0
        rw [Nat.add_zero] at h9
        rw [← h9]; simp [Addr.add]
      · rw [← h9]; simp [Addr.add, show j ≠ 0 by omega]
    · rw [List.getElem?_eq_none (by omega)] at hj
      simp at hj
theorem ls_takeA {w : World} {a : Option Addr} {zs : List Int} (h : Ls w a zs) (k : Nat) : Ls w a (zs.take k) := by
  rcases h with h | ⟨b, off, ha, hb, hc⟩
  · left; rw [h]; simp
  · refine .inr ⟨b, off, ha, hb, fun i hi => ?_⟩
    rw [List.length_take] at hi
    rw [hc i (by omega)]
    simp [List.getD_eq_getElem?_getD, show i < k by omega]
theorem ls_dropA {w : World} {b off : Nat} {zs : List Int} (h : Ls w (some ⟨b, off, none⟩) zs) (k : Nat) : Ls w (some ⟨b, off + k, none⟩) (zs.drop k) := by
  rcases h with h | ⟨b', off', ha, hb, hc⟩
  · left; rw [h]; simp
  · injection ha with ha
    injection ha with e1 e2 _
    subst e1; subst e2
    refine .inr ⟨b, off + k, rfl, hb, fun i hi => ?_⟩
    rw [List.length_drop] at hi
    rw [show off + k + i = off + (k + i) by omega, hc (k + i) (by omega)]
    simp [List.getD_eq_getElem?_getD]
theorem newsXA {w : World} {b : Nat} {x : Int} (h : w.cell? ⟨b, 0, none⟩ = some (.int .i64 x)) : ∀ j y, [Value.int .i64 x][j]? = some y → w.cell? ((⟨b, 0, none⟩ : Addr).add j) = some y := by
  intro j y hj
  match j, hj with
  | 0, hj => simp at hj; subst hj; simpa [Addr.add] using h
theorem newsWA (w : World) (x : Int) : ∀ j y, [Value.int .i64 x][j]? = some y → (w.alloc (.cells #[.int .i64 x] 3)).cell? ((⟨w.heap.size, 0, none⟩ : Addr).add j) = some y :=
  newsXA (World.cell?_alloc_new w _ _ 0)
theorem one1A {x : Int} : ∀ u ∈ [Value.int .i64 x], u.oneCell' = true := by intro u hu; simp at hu; subst hu; rfl
theorem own_lowA {w : World} {b1 b2 : Nat} {v : Value} {zs : List Int} (hb : b2 ≤ b1) (h : OwI w b1 v zs) : OwI w b2 v zs := by
  obtain ⟨h1, h2⟩ := h
  refine ⟨h1, ?_⟩
  rcases h2 with h3 | ⟨g, cap, cur, h3, h4, h5⟩
  · exact .inl h3
  · exact .inr ⟨g, cap, cur, h3, by omega, h5⟩
theorem step_app_ownA {P : Program} {w : World} {ops : Array Oper} {o : Oper} {a : Act} {K : Act → World → Prop} {Q : Exit → Act → World → Prop} {E : Prop} (hgd : o.guard = none) (s x : Operand) (t : TypeId)
    (ho : o.op = .call { callee := .builtin .append, args := #[s, x], argTypes := #[t, t] })
    (base : Nat) (e : TypeId) (i : TypeInfo) (z : Value) (size bytes : Nat) (ht : P.underlying t = some (.slice e)) (hi : P.info? e = some i) (hz : i.zero = some z)
    (hsize : i.size = size) (hby : i.bytes = bytes) (hzs : z.cells.size = size) (hsz : 0 < size)
    (v : Value) (n : Nat) (xs : List Value) (hs : a.eval s = v) (hown : w.ownsRow base e size v n xs)
    (ad : Addr) (m c : Nat) (news : List Value) (hx : a.eval x = .slice (some ad) m c) (hl : news.length = m * size) (hnews : ∀ j u, news[j]? = some u → w.cell? (ad.add j) = some u) (h1 : ∀ u ∈ news, u.oneCell' = true)
    (h63 : n + m ≤ maxLen) (hbytes : (n + m) * bytes ≤ 140737488355328) (hbase : base ≤ w.heap.size)
    (h : ∀ v' w', w'.ownsRow base e size v' (n + m) (xs ++ news) → w.grownBy w' v.ownBlock → K (a.put o.dst v') w') :
    if Region.wanted o (yielded ops a.tmps) = true then Oper.wp P o a w K Q else E := by
  have hw : Region.wanted o (yielded ops a.tmps) = true := by simp [Region.wanted, hgd]
  rw [if_pos hw]
  exact wp_append_own w s x t ho base e i z size bytes ht hi hz hsize hby hzs hsz v n xs hs hown ad m c news hx hl hnews h1 h63 hbytes hbase fun v' w' h2 h3 _ => h v' w' h2 h3
end Go.Proofs.YtohoeonfoolpdaaDoor
namespace Go.Proofs.YtohoeonfoolpdaaDoor
open Go.RowKit

theorem wpStill_hide {P : Program} {ops : Array Oper} {w : World} {Q : Act → Prop} {l : List Oper} {a : Act} (h : ∀ T : Act → Prop, Hid (∀ a, Q a → T a) → wpStill P ops w T l a) : wpStill P ops w Q l a :=
  h Q (Lib.hid (fun _ h => h))
end Go.Proofs.YtohoeonfoolpdaaDoor
namespace Go.Proofs.YtohoeonfoolpdaaDoor
open Go.RowKit
set_option linter.unusedVariables false

/-- One day more. -/
def sadd (s : R2) (x : Int) : R2 := if x = -9999 then s else (s.1 + x, s.2 + 1)
theorem su_sadd {zs : List Int} {k : Nat} (h : k < zs.length) : su zs (k + 1) = sadd (su zs k) (zs.getD k 0) := by
  by_cases hx : zs.getD k 0 = -9999
  · rw [sadd, if_pos hx]; exact (su_step h).1 hx
  · rw [sadd, if_neg hx]; exact (su_step h).2 hx
def sg2 (s : R2) : Value := .agg #[.int .i64 s.1, .int .i64 s.2]
theorem retSg {a b c d : Int} (h : a = c) (k : b = d) : Ending.returned (.agg #[.int .i64 a, .int .i64 b]) = .returned (.agg #[.int .i64 c, .int .i64 d]) := by rw [h, k]
set_option maxHeartbeats 1000000 in
theorem with_any (t m x : Int) (w : World) (t0 : -2000000 ≤ t) (t1 : t ≤ 2000000) (m0 : -2000000 ≤ m) (m1 : m ≤ 2000000) (x0 : -20000 ≤ x) (x1 : x ≤ 20000) :
    Calls Tryd.prog 42 #[.agg #[.int .i64 t, .int .i64 m], .int .i64 x] w fun e w' => e = .returned (.agg #[.int .i64 (sadd (t, m) x).1, .int .i64 (sadd (t, m) x).2]) ∧ Keep w w' := by
  by_cases hx : x = -9999
  · have e : sadd (t, m) x = (t, m) := by rw [sadd, if_pos hx]
    rw [e]
    subst hx
    go_enter Tryd.func42, Tryd.ntmps42
    go_wp2
    refine bodyPost_ret (v := .agg #[.int .i64 t, .int .i64 m]) (by simp [results, Tryd.results42, go_sem, *]) rfl ⟨rfl, ?_⟩
    first | exact ((Keep.refl w).alloc _).alloc _ | exact ((((Keep.refl w).alloc _).alloc _).setCell (by simp) _).setCell (by simp) _
  · have e : sadd (t, m) x = (t + x, m + 1) := by rw [sadd, if_neg hx]
    rw [e]
    have x9 : (x == -9999) = false := beq_eq_false_iff_ne.2 hx
    clear e hx
    go_enter Tryd.func42, Tryd.ntmps42
    go_wp2
    refine bodyPost_ret (v := .agg #[.int .i64 (t + x), .int .i64 (m + 1)]) (by simp [results, Tryd.results42, go_sem, *]) rfl ⟨rfl, ?_⟩
    first | exact ((Keep.refl w).alloc _).alloc _ | exact ((((Keep.refl w).alloc _).alloc _).setCell (by simp) _).setCell (by simp) _
set_option maxHeartbeats 1000000 in
theorem ladd_any (t m x : Int) (w : World) (t0 : -2000000 ≤ t) (t1 : t ≤ 2000000) (m0 : -2000000 ≤ m) (m1 : m ≤ 2000000) (x0 : -20000 ≤ x) (x1 : x ≤ 20000) :
    Calls Tryd.prog 36 #[.agg #[.int .i64 t, .int .i64 m], .int .i64 x] w fun e w' => e = .returned (.agg #[.int .i64 (sadd (t, m) x).1, .int .i64 (sadd (t, m) x).2]) ∧ Keep w w' := by
  by_cases hx : x = -9999
  · have e : sadd (t, m) x = (t, m) := by rw [sadd, if_pos hx]
    rw [e]
    subst hx
    go_enter Tryd.func36, Tryd.ntmps36
    go_wp2
    refine bodyPost_ret (v := .agg #[.int .i64 t, .int .i64 m]) (by simp [results, Tryd.results36, go_sem, *]) rfl ⟨rfl, ?_⟩
    first | exact ((Keep.refl w).alloc _).alloc _ | exact ((((Keep.refl w).alloc _).alloc _).setCell (by simp) _).setCell (by simp) _
  · have e : sadd (t, m) x = (t + x, m + 1) := by rw [sadd, if_neg hx]
    rw [e]
    have x9 : (x == -9999) = false := beq_eq_false_iff_ne.2 hx
    clear e hx
    go_enter Tryd.func36, Tryd.ntmps36
    go_wp2
    refine bodyPost_ret (v := .agg #[.int .i64 (t + x), .int .i64 (m + 1)]) (by simp [results, Tryd.results36, go_sem, *]) rfl ⟨rfl, ?_⟩
    first | exact ((Keep.refl w).alloc _).alloc _ | exact ((((Keep.refl w).alloc _).alloc _).setCell (by simp) _).setCell (by simp) _
/-- A ring of sums: block RB has the slice of block MB and how many were pushed; MB holds ss. -/
structure Ring (w : World) (RB MB n p : Nat) (ss : List R2) : Prop where
  c0 : w.cell? ⟨RB, 0, none⟩ = some (.slice (some ⟨MB, 0, none⟩) n n)
  c1 : w.cell? ⟨RB, 1, none⟩ = some (.int .i64 (p : Int))
  f1 : w.frozen? ⟨RB, 1, none⟩ = false
  ne : RB ≠ MB
  wr : WrU w MB ss
  ln : ss.length = n
theorem Ring.keep {w w' : World} {RB MB n p : Nat} {ss : List R2} (h : Ring w RB MB n p ss) (k : Keep w w') : Ring w' RB MB n p ss :=
  ⟨k.cell h.c0, k.cell h.c1, k.still h.c1 h.f1, h.ne, h.wr.keep k, h.ln⟩
/-- What a push turns: the two blocks of the ring, and new ones. -/
structure Two (RB MB : Nat) (w w' : World) : Prop where
  os : w'.os = w.os
  tape : w'.tape = w.tape
  output : w'.output = w.output
  size : w.heap.size ≤ w'.heap.size
  block : ∀ k, k < w.heap.size → k ≠ RB → k ≠ MB → w'.heap[k]? = w.heap[k]?
theorem Two.refl (RB MB : Nat) (w : World) : Two RB MB w w := ⟨rfl, rfl, rfl, Nat.le_refl _, fun _ _ _ _ => rfl⟩
theorem Two.trans {RB MB : Nat} {a b c : World} (h : Two RB MB a b) (k : Two RB MB b c) : Two RB MB a c :=
  ⟨k.os.trans h.os, k.tape.trans h.tape, k.output.trans h.output, Nat.le_trans h.size k.size, fun i hi h1 h2 => (k.block i (Nat.lt_of_lt_of_le hi h.size) h1 h2).trans (h.block i hi h1 h2)⟩
theorem Keep.two {RB MB : Nat} {w w' : World} (h : Keep w w') : Two RB MB w w' := ⟨Below.os h, Below.tape h, Below.output h, Below.size h, fun i hi _ _ => Below.block h i hi⟩
theorem Two.setL {RB MB o : Nat} {a w : World} (h : Two RB MB a w) (u : Value) : Two RB MB a (w.setCell ⟨RB, o, none⟩ u) :=
  ⟨h.os, h.tape, h.output, by have := h.size; simpa [World.setCell] using this, fun k hk h1 h2 => (Below.heap_setCell _ _ _ _ (by intro e; exact h1 (by rw [e]))).trans (h.block k hk h1 h2)⟩
theorem Two.setR {RB MB o : Nat} {a w : World} (h : Two RB MB a w) (u : Value) : Two RB MB a (w.setCell ⟨MB, o, none⟩ u) :=
  ⟨h.os, h.tape, h.output, by have := h.size; simpa [World.setCell] using this, fun k hk h1 h2 => (Below.heap_setCell _ _ _ _ (by intro e; exact h2 (by rw [e]))).trans (h.block k hk h1 h2)⟩
theorem Two.cell {RB MB : Nat} {w w' : World} (h : Two RB MB w w') {b o : Nat} {v : Value} (hc : w.cell? ⟨b, o, none⟩ = some v) (h1 : b ≠ RB) (h2 : b ≠ MB) : w'.cell? ⟨b, o, none⟩ = some v :=
  (World.cell?_of_block (w := w) (h.block b (World.block_lt_of_cell? w _ hc) h1 h2)).trans hc
theorem Two.still {RB MB : Nat} {w w' : World} (h : Two RB MB w w') {b o : Nat} {v : Value} {x : Bool} (hc : w.cell? ⟨b, o, none⟩ = some v) (hf : w.frozen? ⟨b, o, none⟩ = x) (h1 : b ≠ RB) (h2 : b ≠ MB) : w'.frozen? ⟨b, o, none⟩ = x :=
  (World.frozen?_of_block (w := w) (h.block b (World.block_lt_of_cell? w _ hc) h1 h2)).trans hf
theorem Two.keep {RB MB : Nat} {a w w' : World} (h : Two RB MB w w') (k : Keep a w) (h1 : a.heap.size ≤ RB) (h2 : a.heap.size ≤ MB) : Keep a w' :=
  ⟨h.os.trans (Below.os k), h.tape.trans (Below.tape k), h.output.trans (Below.output k), Nat.le_trans (Below.size k) h.size, fun i hi => (h.block i (Nat.lt_of_lt_of_le hi (Below.size k)) (by omega) (by omega)).trans (Below.block k i hi)⟩
theorem Ring.other {w : World} {RB MB n p B o : Nat} {ss : List R2} {u : Value} (h : Ring w RB MB n p ss) (h1 : B ≠ RB) (h2 : B ≠ MB) : Ring (w.setCell ⟨B, o, none⟩ u) RB MB n p ss := by
  obtain ⟨c0, c1, f1, hne, hw, hl⟩ := h
  refine ⟨?_, ?_, ?_, hne, fun j hj => ?_, hl⟩
  · rw [World.cell?_setCell_other _ _ _ _ (by intro e; simp only [Addr.mk.injEq] at e; omega)]; exact c0
  · rw [World.cell?_setCell_other _ _ _ _ (by intro e; simp only [Addr.mk.injEq] at e; omega)]; exact c1
  · rw [World.frozen?_setCell]; exact f1
  · obtain ⟨⟨a, b⟩, ⟨c, d⟩⟩ := hw j hj
    refine ⟨⟨?_, ?_⟩, ⟨?_, ?_⟩⟩
    · rw [World.cell?_setCell_other _ _ _ _ (by intro e; simp only [Addr.mk.injEq] at e; omega)]; exact a
    · rw [World.cell?_setCell_other _ _ _ _ (by intro e; simp only [Addr.mk.injEq] at e; omega)]; exact b
    · rw [World.frozen?_setCell]; exact c
    · rw [World.frozen?_setCell]; exact d
set_option maxHeartbeats 1000000 in
theorem newRing (n : Nat) (w : World) (hn : n ≤ 1048576) :
    Calls Tryd.prog 29 #[.int .i64 (n : Int)] w fun e w' => e = .returned (.pointer (some ⟨w.heap.size + 1, 0, none⟩)) ∧ Ring w' (w.heap.size + 1) w.heap.size n 0 (List.replicate n u0) ∧ Keep w w' ∧ w.heap.size + 1 < w'.heap.size := by
  have hmk := fun W => run_make_ranges n hn W
  go_enter Tryd.func29, Tryd.ntmps29
  go_wp2
  go_ret
  refine ⟨rfl, ⟨by go_simp, by go_simp, by go_simp, by omega, ?_, by simp⟩, ((Keep.refl w).alloc _).alloc _, by simp⟩
  intro j hj
  have hj' : j < n := by simpa using hj
  have e : (List.replicate n u0).getD j u0 = u0 := by simp [List.getD_eq_getElem?_getD, hj']
  rw [e]
  have hk : Keep (w.alloc (.cells (madeCells #[Value.int .i64 0, .int .i64 0] (n * 2)) 31)) ((w.alloc (.cells (madeCells #[Value.int .i64 0, .int .i64 0] (n * 2)) 31)).alloc (.cells #[.slice (some ⟨w.heap.size, 0, none⟩) n n, .int .i64 0] 76)) := (Keep.refl _).alloc _
  exact ⟨⟨hk.new _ (made2_at _ _ (by omega)), hk.new _ (made2_at _ _ (by omega))⟩, ⟨hk.fresh _, hk.fresh _⟩⟩
theorem wrU_other {w : World} {B g o : Nat} {ys : List R2} {u : Value} (hne : B ≠ g) (h : WrU w g ys) : WrU (w.setCell ⟨B, o, none⟩ u) g ys := fun j hj => by
  obtain ⟨⟨a, b⟩, ⟨c, d⟩⟩ := h j hj
  refine ⟨⟨?_, ?_⟩, ⟨?_, ?_⟩⟩
  · rw [World.cell?_setCell_other _ _ _ _ (by intro e; simp only [Addr.mk.injEq] at e; omega)]; exact a
  · rw [World.cell?_setCell_other _ _ _ _ (by intro e; simp only [Addr.mk.injEq] at e; omega)]; exact b
  · rw [World.frozen?_setCell]; exact c
  · rw [World.frozen?_setCell]; exact d
set_option maxRecDepth 100000 in
set_option maxHeartbeats 2000000 in
theorem push_any (RB MB n p q : Nat) (ss : List R2) (s : R2) (w : World) (h : Ring w RB MB n p ss) (hn : 0 < n) (hn2 : n ≤ 1000) (hp : p ≤ 100000) (hq : p % n = q) :
    Calls Tryd.prog 30 #[.pointer (some ⟨RB, 0, none⟩), .agg #[.int .i64 (uL s), .int .i64 (uH s)]] w fun e w' => e = .returned (.tuple #[]) ∧ Ring w' RB MB n (p + 1) (ss.set q s) ∧ Two RB MB w w' := by
  have hR := Lib.hid h
  obtain ⟨c0, c1, f1, hne, hw, hl⟩ := h
  have hqn : q < n := by rw [← hq]; exact Nat.mod_lt _ hn
  have ht : Int.tmod (p : Int) (n : Int) = (q : Int) := by rw [← hq]; exact (Int.ofNat_tmod p n).symm
  have ht2 : (p : Int) % (n : Int) = (q : Int) := by omega
  have qw : IntKind.i64.wrap (q : Int) = (q : Int) := IntWalk.i64_in _ ⟨by omega, by omega⟩
  have n0 : ((n : Int) == 0) = false := beq_eq_false_iff_ne.2 (by omega)
  have n1 : ¬ ((n : Int) = 0) := by omega
  have n2 : (n : Int) ≠ -1 := by omega
  have n3 : ¬ (n = 0) := by omega
  have pw : IntKind.i64.wrap ((p : Int) + 1) = (p : Int) + 1 := IntWalk.i64_in _ ⟨by omega, by omega⟩
  have q0 : (0 : Int) ≤ (q : Int) := by omega
  have q1 : (q : Int) < (n : Int) := by omega
  obtain ⟨⟨x0, x1⟩, ⟨y0, y1⟩⟩ := hw q (by omega)
  have HW := Lib.hid (hw.set (k := q) (by omega) s)
  have hMB : MB < w.heap.size := World.block_lt_of_cell? w _ x0
  have hRB : RB < w.heap.size := World.block_lt_of_cell? w _ c0
  have hne' : MB ≠ RB := fun e => hne e.symm
  have HL := Lib.hid hl
  have kA : Keep w (w.alloc (.cells #[.int .i64 (uL s), .int .i64 (uH s)] 31)) := (Keep.refl w).alloc _
  have C0 := kA.cell c0
  have C1 := kA.cell c1
  have F1 := kA.still c1 f1
  have X0 := kA.cell x0
  have X1 := kA.cell x1
  have Y0 := kA.still x0 y0
  have Y1 := kA.still x1 y1
  have B0 : (w.alloc (.cells #[.int .i64 (uL s), .int .i64 (uH s)] 31)).cell? ⟨w.heap.size, 0, none⟩ = some (.int .i64 (uL s)) := World.cell?_alloc_new w _ _ 0
  have B1 : (w.alloc (.cells #[.int .i64 (uL s), .int .i64 (uH s)] 31)).cell? ⟨w.heap.size, 1, none⟩ = some (.int .i64 (uH s)) := World.cell?_alloc_new w _ _ 1
  clear hw hl hq
  go_enter Tryd.func30, Tryd.ntmps30
  go_wp2_with fail
  refine wp_region_still_tail 16 (by kernel_rfl) (by kernel_rfl) ?_
  simp only [List.take_succ_cons, List.take_zero, List.drop_succ_cons, List.drop_zero]
  change wpStill _ _ (w.alloc _).drew _ _ _
  refine wpStill_hide (fun T hT => ?_)
  repeat still_step
  refine wpStill_nil ?_
  refine hT.out _ ?_
  clear hT
  change wpList _ _ _ _ _ (w.alloc _).drew
  go_wp2_with fail
  go_end0
  refine ⟨rfl, ⟨by go_simp, by go_simp, by go_simp, hne, (wrU_other hne HW.out).keep (((Keep.refl _).alloc _).drew), by rw [List.length_set]; exact HL.out⟩, ?_⟩
  exact (((((Two.refl RB MB w).setR _).setR _).setL _).trans (Keep.two ((Keep.refl _).alloc _).drew))
/-- What the ring keeps, the oldest first. -/
def keptL (ss : List R2) (n p : Nat) : List R2 := (List.range (p - (p - n))).map fun j => ss.getD ((p - n + j) % n) u0
theorem keptL_len (ss : List R2) (n p : Nat) : (keptL ss n p).length = p - (p - n) := by simp [keptL]
theorem keptL_snoc {ss : List R2} {n p k : Nat} (h : k < p - (p - n)) : (keptL ss n p).take (k + 1) = (keptL ss n p).take k ++ [ss.getD ((p - n + k) % n) u0] := by
  rw [List.take_succ_eq_append_getElem (by rw [keptL_len]; exact h)]; simp [keptL]
def NwU (L : List R2) (w : World) (e : Ending) (w' : World) : Prop := ∃ (a : Option Addr) (c : Nat), e = .returned (.slice a L.length c) ∧ L.length ≤ c ∧ FrU w w' a L ∧ Keep w w'
theorem ownU_nil (w : World) (base : Nat) : OwnU w base (.slice none 0 0) [] := World.ownsRow_nil _ _ _ _
theorem nwU_own {L : List R2} {w w' : World} {base n c : Nat} {x : Option Addr} (h : OwnU w' base (.slice x n c) L) (hb : w.heap.size ≤ base) (k : Keep w w') : NwU L w (.returned (.slice x n c)) w' := by
  by_cases h0 : 0 < L.length
  · obtain ⟨g, c', hv, hc, hg, hl, hW⟩ := h.form h0
    injection hv with e1 e2 e3
    subst e1; subst e2; subst e3
    exact ⟨_, c, rfl, hc, .inr ⟨g, rfl, by omega, hl, hW⟩, k⟩
  · obtain ⟨a', c', hv, hc, _⟩ := h.slice
    injection hv with e1 e2 e3
    subst e1; subst e2; subst e3
    exact ⟨_, _, rfl, hc, .inl (List.eq_nil_of_length_eq_zero (by omega)), k⟩
set_option maxRecDepth 100000 in
set_option maxHeartbeats 4000000 in
theorem kept_any (RB MB n p : Nat) (ss : List R2) (w : World) (h : Ring w RB MB n p ss) (hn : 0 < n) (hn2 : n ≤ 1000) (hp : p ≤ 100000) :
    Calls Tryd.prog 33 #[.pointer (some ⟨RB, 0, none⟩)] w (NwU (keptL ss n p) w) := by
  obtain ⟨i0, hi0, hz0, hz1, hz2⟩ := info_parts infoRng
  obtain ⟨f, hf⟩ : ∃ f, p - n = f := ⟨_, rfl⟩
  have hfi : max ((p : Int) - (n : Int)) 0 = (f : Int) := by omega
  have HLn : Hid ((keptL ss n p).length = p - f) := Lib.hid (by rw [keptL_len, hf])
  have HS := Lib.hid (fun (k : Nat) (hk : k < p - f) => keptL_snoc (ss := ss) (n := n) (p := p) (k := k) (by rw [hf]; exact hk))
  rw [hf] at HS
  have hfp : f ≤ p := by omega
  clear hf
  have pnw : IntKind.i64.wrap ((p : Int) - (n : Int)) = (p : Int) - (n : Int) := IntWalk.i64_in _ ⟨by omega, by omega⟩
  obtain ⟨c0, c1, f1, hne, hw, hl⟩ := id h
  have HR := Lib.hid h
  have HWr := Lib.hid hw
  have HL := Lib.hid hl
  clear h hw hl
  go_enter Tryd.func33, Tryd.ntmps33
  go_wp2_with fail
  go_quiet (fail)
  go_wp2_with fail
  all_goals
    go_loopw [3, 4] (fun u i wr => ∃ (k : Nat) (x : Option Addr) (cx : Nat), k ≤ p - f ∧ i = .int .i64 ((f + k : Nat) : Int) ∧ u = .slice x k cx ∧ Hid (OwnU wr w.heap.size (.slice x k cx) ((keptL ss n p).take k)) ∧ Keep w wr) (fun _ i _ => p - (intOf i).toNat)
    case atStart => exact ⟨0, none, 0, by omega, by first | rfl | (congr 1; omega), rfl, Lib.hid (ownU_nil _ _), (Keep.refl w).drewN _⟩
    case round =>
      obtain ⟨k, x, cx, hk, rfl, rfl, HO, hK⟩ := hrel
      have hsz := hK.size
      obtain ⟨i, hi⟩ : ∃ i, f + k = i := ⟨_, rfl⟩
      rw [hi]
      have c0' := hK.cell c0
      have c1' := hK.cell c1
      have i0' : (0 : Int) ≤ (i : Int) := by omega
      by_cases hlt : i < p
      · have HSk := Lib.hid (HS.out k (by omega))
        rw [hi] at HSk
        obtain ⟨q, hq⟩ : ∃ q, i % n = q := ⟨_, rfl⟩
        rw [hq] at HSk
        have hqn : q < n := by rw [← hq]; exact Nat.mod_lt _ hn
        have ht : Int.tmod (i : Int) (n : Int) = (q : Int) := by rw [← hq]; exact (Int.ofNat_tmod i n).symm
        have ht2 : (i : Int) % (n : Int) = (q : Int) := by omega
        have qw : IntKind.i64.wrap (q : Int) = (q : Int) := IntWalk.i64_in _ ⟨by omega, by omega⟩
        have n0 : ((n : Int) == 0) = false := beq_eq_false_iff_ne.2 (by omega)
        have n1 : ¬ ((n : Int) = 0) := by omega
        have n2 : (n : Int) ≠ -1 := by omega
        have n3 : ¬ (n = 0) := by omega
        have q0 : (0 : Int) ≤ (q : Int) := by omega
        have q1 : (q : Int) < (n : Int) := by omega
        have dlt : decide (i < p) = true := decide_eq_true hlt
        obtain ⟨⟨x0, x1⟩, _⟩ := (HWr.out.keep hK) q (by rw [HL.out]; exact hqn)
        generalize ss.getD q u0 = s at *
        obtain ⟨L, hL⟩ : ∃ L, (keptL ss n p).take k = L := ⟨_, rfl⟩
        have HLk : Hid (L.length = k) := Lib.hid (by rw [← hL, List.length_take, HLn.out]; omega)
        rw [hL] at HO HSk
        clear hL hq
        have hownD : (wr.alloc (.cells #[.int .i64 (uL s), .int .i64 (uH s)] 31)).drew.ownsRow w.heap.size 31 2 (.slice x k cx) k (flatU L) := by
          have h9 := (HO.out).keep (((Keep.refl wr).alloc (.cells #[.int .i64 (uL s), .int .i64 (uH s)] 31)).drew)
          unfold OwnU at h9
          rw [HLk.out] at h9
          exact h9
        have hNews : ∀ j u, (uc s)[j]? = some u → (wr.alloc (.cells #[.int .i64 (uL s), .int .i64 (uH s)] 31)).drew.cell? ((⟨wr.heap.size, 0, none⟩ : Addr).add j) = some u :=
          newsU_one (r := s) (⟨World.cell?_alloc_new wr _ _ 0, World.cell?_alloc_new wr _ _ 1⟩ : At2 (wr.alloc (.cells #[.int .i64 (uL s), .int .i64 (uH s)] 31)).drew wr.heap.size 0 s)
        have HEnd : Hid (∀ (w9 : World) (v' : Value), w9.ownsRow w.heap.size 31 2 v' (k + 1) (flatU L ++ uc s) → ∃ x' c', v' = .slice x' (k + 1) c' ∧ Hid (OwnU w9 w.heap.size (.slice x' (k + 1) c') ((keptL ss n p).take (k + 1)))) := Lib.hid (fun w9 v' ho => by
          have h9 : OwnU w9 w.heap.size v' (L ++ [s]) := by
            unfold OwnU
            rw [flatU_app, flatU_one, List.length_append, HLk.out]
            exact ho
          obtain ⟨g', c', hv, hc', _, _, _⟩ := h9.form (by simp)
          rw [List.length_append, HLk.out] at hv
          subst hv
          exact ⟨_, c', rfl, Lib.hid (by rw [HSk.out]; exact h9)⟩)
        go_wp2_with fail
        go_region_law (
          (refine step_app_ownA rfl _ _ _ rfl w.heap.size 31 i0 _ 2 16 Tryd.underlying41 hi0 hz0 hz1 hz2 rfl (by decide) (.slice x k cx) k (flatU L) rfl hownD ⟨wr.heap.size, 0, none⟩ 1 1 (uc s) rfl rfl hNews (uc_one s) (by unfold maxLen; omega) (by omega) (by first | omega | (simp; omega)) ?_
           intro v' w9 hown' hgrow))
        all_goals
          have HK2 : Hid (Keep w w9) := Lib.hid (Below.grown (hK.alloc (.cells #[.int .i64 (uL s), .int .i64 (uH s)] 31)).drew hgrow (hK.alloc (.cells #[.int .i64 (uL s), .int .i64 (uH s)] 31)).drew.size (fun q hq => (hownD.lt q hq).1))
          obtain ⟨x', c', rfl, HN2⟩ := HEnd.out w9 v' hown'
          clear hgrow hownD hown'
          go_wp2
          go_roundw
          case rel => exact ⟨k + 1, x', c', by omega, by first | (congr 1; omega) | (go_num), rfl, HN2, HK2.out⟩
          case measure => simp [intOf]; omega
      · have dlt : decide (i < p) = false := decide_eq_false hlt
        have hkp : k = p - f := by omega
        have HF : Hid (OwnU wr w.heap.size (.slice x k cx) (keptL ss n p)) := Lib.hid (by
          have h1 := HO.out
          rw [List.take_of_length_le (by rw [HLn.out]; omega)] at h1
          exact h1)
        clear hkp
        go_wp2
        go_ret
        exact nwU_own HF.out (Nat.le_refl _) hK
/-- A new slice of sums and a bool. -/
def NwUB (L : List R2) (b : Bool) (w : World) (e : Ending) (w' : World) : Prop := ∃ (a : Option Addr) (c : Nat), e = .returned (.tuple #[.slice a L.length c, .bool b]) ∧ L.length ≤ c ∧ FrU w w' a L ∧ Keep w w'
theorem kept_full {L : List R2} {n : Nat} (h : L.length = n) : keptL L n n = L := by
  apply List.ext_getElem
  · rw [keptL_len]; omega
  · intro i h1 h2
    simp only [keptL, List.getElem_map, List.getElem_range, Nat.sub_self, Nat.zero_add]
    rw [Nat.mod_eq_of_lt (by omega)]
    simp [List.getD_eq_getElem?_getD, h2]
theorem fill_set {L : List R2} {n k : Nat} (hl : L.length = n) (hk : k < n) : (L.take k ++ List.replicate (n - k) u0).set k (L.getD k u0) = L.take (k + 1) ++ List.replicate (n - (k + 1)) u0 := by
  have e : List.replicate (n - k) u0 = u0 :: List.replicate (n - (k + 1)) u0 := by
    rw [← List.replicate_succ]; congr 1; omega
  have hg : L.getD k u0 = L[k] := by simp [List.getD_eq_getElem?_getD, show k < L.length by omega]
  have ht : (L.take k).length = k := by rw [List.length_take]; omega
  rw [e, List.set_append_right _ _ (by omega), ht, Nat.sub_self, List.set_cons_zero, hg, List.take_succ_eq_append_getElem (by omega), List.append_assoc]
  rfl
set_option maxRecDepth 100000 in
set_option maxHeartbeats 4000000 in
theorem su_impl (a : Option Addr) (cap : Nat) (zs : List Int) (w : World) (h : Ls w a zs) (hm : zs.length ≤ 1048576) :
    Calls Tryd.prog 15 #[.slice a zs.length cap] w (NwUB (suL zs) (sqB zs) w) := by
  have HQ := Lib.hid (sqv_impl a cap zs w h (by omega))
  rcases Bool.eq_false_or_eq_true (sqB zs) with hs | hs
  case' inr =>
    have HN := Lib.hid (And.intro (suL_no hs) hs)
    rw [hs] at HQ
    clear hs
    go_enter Tryd.func15, Tryd.ntmps15
    go_wp2_with fail
    refine HQ.out.mono ?_
    rintro e w1 ⟨rfl, rfl⟩
    go_wp2
    go_ret2
    rw [HN.out.1, HN.out.2]
    exact ⟨none, 0, rfl, Nat.le_refl _, .inl rfl, Keep.refl _⟩
  have HY := Lib.hid (And.intro (suL_yes hs) hs)
  have hl := (sq_facts hs).2
  have HAt := Lib.hid (fun (k : Nat) (hk : k < zs.length) => sq_at hs hk)
  have HBd := Lib.hid (fun (k : Nat) (hk : k ≤ zs.length) => su_bd hs hk)
  have HStep := Lib.hid (fun (k : Nat) (hk : k < zs.length) => su_sadd (zs := zs) hk)
  have HG := Lib.hid (fun (k : Nat) (hk : k ≤ zs.length) => sul_at (zs := zs) hk)
  obtain ⟨n, hn⟩ : ∃ n, zs.length + 1 = n := ⟨_, rfl⟩
  have ne : (zs.length : Int) + 1 = (n : Int) := by omega
  have HLn : Hid ((sul zs).length = n) := Lib.hid (by rw [sul_len, hn])
  have hn13 : n ≤ 13 := by omega
  have hn2 : 2 ≤ n := by omega
  have HN1 := Lib.hid hn
  rw [hs] at HQ
  clear hs hn
  go_enter Tryd.func15, Tryd.ntmps15
  go_wp2_with fail
  refine HQ.out.mono ?_
  rintro e w1 ⟨rfl, rfl⟩
  go_wp2_with fail
  refine (newRing n _ (by omega)).mono ?_
  rintro e w2 ⟨rfl, hR, k2, hs2⟩
  have hRA := hR.keep ((Keep.refl w2).alloc (.cells #[.int .i64 0, .int .i64 0] 31))
  have t0 : (w2.alloc (.cells #[.int .i64 0, .int .i64 0] 31)).cell? ⟨w2.heap.size, 0, none⟩ = some (.int .i64 0) := World.cell?_alloc_new w2 _ _ 0
  have t1 : (w2.alloc (.cells #[.int .i64 0, .int .i64 0] 31)).cell? ⟨w2.heap.size, 1, none⟩ = some (.int .i64 0) := World.cell?_alloc_new w2 _ _ 1
  have tf0 : (w2.alloc (.cells #[.int .i64 0, .int .i64 0] 31)).frozen? ⟨w2.heap.size, 0, none⟩ = false := World.frozen?_alloc_at _ _ _ _ rfl
  have tf1 : (w2.alloc (.cells #[.int .i64 0, .int .i64 0] 31)).frozen? ⟨w2.heap.size, 1, none⟩ = false := World.frozen?_alloc_at _ _ _ _ rfl
  obtain ⟨TB, hTB⟩ : ∃ TB, w2.heap.size = TB := ⟨_, rfl⟩
  rw [hTB] at t0 t1 tf0 tf1 hs2
  have hK2 : Keep w (w2.alloc (.cells #[.int .i64 0, .int .i64 0] 31)) := k2.alloc _
  have hT1 : TB ≠ w.heap.size + 1 := by omega
  have hT2 : TB ≠ w.heap.size := by omega
  have hTw : w.heap.size ≤ TB := by omega
  have hpush := fun W (h : Ring W (w.heap.size + 1) w.heap.size n 0 (List.replicate n u0)) => push_any (w.heap.size + 1) w.heap.size n 0 0 (List.replicate n u0) (0, 0) W h (by omega) (by omega) (by omega) (by simp)
  go_wp2_with fail
  clear hTB
  refine (hpush _ hRA).mono ?_
  rintro e w3 ⟨rfl, hR3, h2w3⟩
  have T0 := h2w3.cell t0 hT1 hT2
  have T1 := h2w3.cell t1 hT1 hT2
  have TF0 := h2w3.still t0 tf0 hT1 hT2
  have TF1 := h2w3.still t1 tf1 hT1 hT2
  have hK3 := h2w3.keep hK2 (by omega) (Nat.le_refl _)
  have hRep : (List.replicate n u0).set 0 ((0, 0) : R2) = (sul zs).take 1 ++ List.replicate (n - 1) u0 := by
    have e := fill_set (L := sul zs) (n := n) (k := 0) HLn.out (by omega)
    have e2 : (sul zs).getD 0 u0 = (0, 0) := HG.out 0 (by omega)
    rw [e2] at e
    simpa using e
  rw [hRep] at hR3
  clear hRep hpush hRA hR t0 t1 tf0 tf1 h2w3 hK2
  have hR3' : Hid (Ring w3 (w.heap.size + 1) w.heap.size n 1 ((sul zs).take 1 ++ List.replicate (n - 1) u0)) := Lib.hid hR3
  clear hR3
  go_wp2_with fail
  go_loopw [21] (fun i wr => ∃ k : Nat, k ≤ zs.length ∧ i = .int .i64 k ∧ Hid (Ring wr (w.heap.size + 1) w.heap.size n (k + 1) ((sul zs).take (k + 1) ++ List.replicate (n - (k + 1)) u0)) ∧
      (wr.cell? ⟨TB, 0, none⟩ = some (.int .i64 (su zs k).1) ∧ wr.cell? ⟨TB, 1, none⟩ = some (.int .i64 (su zs k).2)) ∧ (wr.frozen? ⟨TB, 0, none⟩ = false ∧ wr.frozen? ⟨TB, 1, none⟩ = false) ∧ Keep w wr) (fun i _ => zs.length - (intOf i).toNat)
  case atStart => exact ⟨0, by omega, rfl, hR3', ⟨T0, T1⟩, ⟨TF0, TF1⟩, hK3⟩
  case round =>
    obtain ⟨k, hk, rfl, HR, ⟨c0, c1⟩, ⟨f0, f1⟩, hK⟩ := hrel
    clear T0 T1 TF0 TF1 hK3 hR3'
    by_cases hlt : k < zs.length
    · obtain ⟨b, off, rfl, hb, cz⟩ := (h.keep hK).at_ hlt
      have bx := HAt.out k hlt
      obtain ⟨⟨b0, b1⟩, b2, b3⟩ := HBd.out k hk
      have HS := Lib.hid (HStep.out k hlt)
      have HG1 := Lib.hid (HG.out (k + 1) (by omega))
      obtain ⟨⟨d0, d1⟩, d2, d3⟩ := HBd.out (k + 1) (by omega)
      rw [HStep.out k hlt] at d0 d1 d2 d3
      have k0 : (0 : Int) ≤ (k : Int) := by omega
      have kz : (k : Int) < (zs.length : Int) := by omega
      generalize su zs k = s0 at *
      generalize zs.getD k 0 = x at *
      obtain ⟨t, m⟩ := s0
      dsimp only at c0 c1 b0 b1 b2 b3
      have HSa : Hid (su zs (k + 1) = sadd (t, m) x) := HS
      obtain ⟨s1, hs1⟩ : ∃ s1, sadd (t, m) x = s1 := ⟨_, rfl⟩
      have HW := Lib.hid (fun W => with_any t m x W (by omega) (by omega) (by omega) (by omega) (by omega) (by omega))
      rw [hs1] at HW HSa
      obtain ⟨t', m'⟩ := s1
      clear hs1 HS d0 d1 d2 d3
      go_wp2_with fail
      refine (HW.out _).mono ?_
      rintro e w5 ⟨rfl, k5⟩
      have e0 := k5.cell c0
      have e1 := k5.cell c1
      have g0 := k5.still c0 f0
      have g1 := k5.still c1 f1
      have HR5 := Lib.hid (((HR.out.keep k5).other (B := TB) (o := 0) (u := .int .i64 t') hT1 hT2).other (B := TB) (o := 1) (u := .int .i64 m') hT1 hT2)
      have hfill := fill_set (L := sul zs) (n := n) (k := k + 1) HLn.out (by have := HN1.out; omega)
      have hg1 : (sul zs).getD (k + 1) u0 = (t', m') := (HG1.out).trans HSa.out
      rw [hg1] at hfill
      have hpush := fun W (h : Ring W (w.heap.size + 1) w.heap.size n (k + 1) ((sul zs).take (k + 1) ++ List.replicate (n - (k + 1)) u0)) => push_any (w.heap.size + 1) w.heap.size n (k + 1) (k + 1) _ (t', m') W h (by omega) (by omega) (by omega) (Nat.mod_eq_of_lt (by have := HN1.out; omega))
      rw [hfill] at hpush
      have HPush := Lib.hid hpush
      clear hpush hfill hg1
      go_wp2_with fail
      refine (HPush.out _ HR5.out).mono ?_
      rintro e w6 ⟨rfl, hR6, h26⟩
      have q0 : w6.cell? ⟨TB, 0, none⟩ = some (.int .i64 t') := h26.cell (by go_simp) hT1 hT2
      have q1 : w6.cell? ⟨TB, 1, none⟩ = some (.int .i64 m') := h26.cell (by go_simp) hT1 hT2
      have r0 : w6.frozen? ⟨TB, 0, none⟩ = false := h26.still (v := .int .i64 t') (by go_simp) (by go_simp) hT1 hT2
      have r1 : w6.frozen? ⟨TB, 1, none⟩ = false := h26.still (v := .int .i64 m') (by go_simp) (by go_simp) hT1 hT2
      have hK6 : Keep w w6 := h26.keep (((hK.trans k5).setCell hTw _).setCell hTw _) (by omega) (Nat.le_refl _)
      have HR6 := Lib.hid hR6
      clear hR6 HR5 HR HPush
      go_wp2
      go_roundw
      case rel => exact ⟨k + 1, by omega, by go_num, HR6, by rw [HSa.out]; exact ⟨q0, q1⟩, ⟨r0, r1⟩, hK6⟩
      case measure => simp [intOf]; omega
    · obtain rfl : k = zs.length := by omega
      have HRf : Hid (Ring wr (w.heap.size + 1) w.heap.size n n (sul zs)) := Lib.hid (by
        have h1 := HR.out
        have hnn := HN1.out
        rw [hnn, List.take_of_length_le (by rw [HLn.out]; exact Nat.le_refl _), Nat.sub_self] at h1
        simpa using h1)
      have HKp := Lib.hid (kept_any (w.heap.size + 1) w.heap.size n n (sul zs) wr HRf.out (by omega) (by omega) (by omega))
      rw [kept_full HLn.out] at HKp
      go_wp2_with fail
      refine HKp.out.mono ?_
      rintro e w7 ⟨x7, c7, rfl, hc7, hF7, k7⟩
      go_wp2
      go_ret2
      rw [HY.out.1, HY.out.2]
      exact ⟨x7, c7, rfl, hc7, hF7.mono hK.size, hK.trans k7⟩
end Go.Proofs.YtohoeonfoolpdaaDoor
namespace Go.Proofs.YtohoeonfoolpdaaDoor
open Go.RowKit
set_option linter.unusedVariables false

/-- The date of a day. -/
noncomputable def dOf (n c : Int) : Int × Int × Int :=
  open Classical in if h : ∃ t : Int × Int × Int, dv t.1 t.2.1 t.2.2 c = true ∧ dn t.1 t.2.1 t.2.2 c = n then Classical.choose h else (0, 0, 0)
theorem dOf_of {n c y m d : Int} (h1 : dv y m d c = true) (h2 : dn y m d c = n) : dOf n c = (y, m, d) := by
  have h : ∃ t : Int × Int × Int, dv t.1 t.2.1 t.2.2 c = true ∧ dn t.1 t.2.1 t.2.2 c = n := ⟨(y, m, d), h1, h2⟩
  rw [dOf, dif_pos h]
  obtain ⟨a, b⟩ := Classical.choose_spec h
  obtain ⟨e1, e2, e3⟩ := dn_inj a h1 (b.trans h2.symm)
  exact Prod.ext e1 (Prod.ext e2 e3)
/-- Day behind day: the same month, or the next one. -/
def Nx (a b : Int × Int × Int) (c : Int) : Prop :=
  (a.2.2 ≠ mlen a.1 a.2.1 c ∧ b.1 = a.1 ∧ b.2.1 = a.2.1 ∧ b.2.2 = a.2.2 + 1) ∨ (a.2.2 = mlen a.1 a.2.1 c ∧ b.2.2 = 1 ∧ ((a.2.1 < 12 ∧ b.1 = a.1 ∧ b.2.1 = a.2.1 + 1) ∨ (a.2.1 = 12 ∧ b.1 = a.1 + 1 ∧ b.2.1 = 1)))
theorem dv_next {y m d c y' m' d' : Int} (h : dv y m d c = true) (h' : dv y' m' d' c = true) (e : dn y' m' d' c = dn y m d c + 1) : Nx (y, m, d) (y', m', d') c := by
  have hf := dv_facts h
  rcases later 1 (by omega) (by omega) h with ⟨h1, h2, h3⟩ | ⟨h1, h1b, h2, h3⟩ | ⟨h1, h1b, h1c, h2, h3⟩ | ⟨h1, h1b, h1c, h2⟩
  · obtain ⟨rfl, rfl, rfl⟩ := dn_inj h' h2 (e.trans h3.symm)
    exact .inl ⟨by dsimp only; omega, rfl, rfl, rfl⟩
  · obtain ⟨rfl, rfl, e3⟩ := dn_inj h' h2 (e.trans h3.symm)
    exact .inr ⟨by dsimp only; omega, by dsimp only; omega, .inl ⟨h1b, rfl, rfl⟩⟩
  · obtain ⟨rfl, rfl, e3⟩ := dn_inj h' h2 (e.trans h3.symm)
    exact .inr ⟨by dsimp only; omega, by dsimp only; omega, .inr ⟨h1b, rfl, rfl⟩⟩
  · have := dn_ok h'
    rw [e, h2] at this; cases this
theorem Nx.month {a b : Int × Int × Int} {c : Int} (h : Nx a b c) (ha : 1 ≤ a.2.1) : (a.2.2 ≠ mlen a.1 a.2.1 c → b.1 = a.1 ∧ b.2.1 = a.2.1) ∧ (a.2.2 = mlen a.1 a.2.1 c → b.2.1 ≠ a.2.1) := by
  rcases h with ⟨h1, h2, h3, _⟩ | ⟨h1, _, ⟨h2, h3, h4⟩ | ⟨h2, h3, h4⟩⟩
  · exact ⟨fun _ => ⟨h2, h3⟩, fun e => absurd e h1⟩
  · exact ⟨fun e => absurd h1 e, fun _ => by omega⟩
  · exact ⟨fun e => absurd h1 e, fun _ => by omega⟩

/-- The months of the first k days, as the model has them; dates by 'dt'. -/
def mthPut (L : List R4) (t : Int × Int × Int) (z : Int) : List R4 :=
  match L.getLast? with
  | none => [(t.1, t.2.1, (sadd (0, 0) z).1, (sadd (0, 0) z).2)]
  | some r => if rD r = t.2.1 then L.dropLast ++ [(rS r, rD r, (sadd (rK r, rV r) z).1, (sadd (rK r, rV r) z).2)] else L ++ [(t.1, t.2.1, (sadd (0, 0) z).1, (sadd (0, 0) z).2)]
def mthN (dt : Nat → Int × Int × Int) (zs : List Int) : Nat → List R4
  | 0 => []
  | k + 1 => mthPut (mthN dt zs k) (dt k) (zs.getD k 0)
/-- A month ends with day k. -/
def mthE (dt : Nat → Int × Int × Int) (c : Int) (n k : Nat) : Bool := decide (k + 1 = n) || decide ((dt k).2.2 = mlen (dt k).1 (dt k).2.1 c)
/-- Where the open month began, and the months that are closed, as the program has them. -/
def mthB (dt : Nat → Int × Int × Int) (c : Int) (n : Nat) : Nat → Nat
  | 0 => 0
  | k + 1 => if mthE dt c n k then k + 1 else mthB dt c n k
def mthR (dt : Nat → Int × Int × Int) (zs : List Int) (b k : Nat) : R4 := ((dt k).1, (dt k).2.1, (su zs (k + 1)).1 - (su zs b).1, (su zs (k + 1)).2 - (su zs b).2)
def mthC (dt : Nat → Int × Int × Int) (zs : List Int) (c : Int) (n : Nat) : Nat → List R4
  | 0 => []
  | k + 1 => if mthE dt c n k then mthC dt zs c n k ++ [mthR dt zs (mthB dt c n k) k] else mthC dt zs c n k
theorem mthB_le (dt : Nat → Int × Int × Int) (c : Int) (n : Nat) : ∀ k, mthB dt c n k ≤ k
  | 0 => Nat.le_refl _
  | k + 1 => by
    have := mthB_le dt c n k
    rw [mthB]; split <;> omega
theorem mthC_len (dt : Nat → Int × Int × Int) (zs : List Int) (c : Int) (n : Nat) : ∀ k, (mthC dt zs c n k).length ≤ k
  | 0 => Nat.le_refl _
  | k + 1 => by
    have := mthC_len dt zs c n k
    rw [mthC]; split
    · simp; omega
    · omega
theorem mthN_len (dt : Nat → Int × Int × Int) (zs : List Int) : ∀ k, (mthN dt zs k).length ≤ k
  | 0 => Nat.le_refl _
  | k + 1 => by
    have := mthN_len dt zs k
    rw [mthN, mthPut]; split
    · simp
    · rename_i r hr
      have hne : mthN dt zs k ≠ [] := by intro e; rw [e] at hr; cases hr
      have := List.length_pos_iff.2 hne
      split <;> simp <;> omega
theorem sadd_diff (s b : R2) (z : Int) : ((sadd s z).1 - b.1, (sadd s z).2 - b.2) = sadd (s.1 - b.1, s.2 - b.2) z := by
  unfold sadd; split <;> simp <;> omega
/-- The dates of days that follow each other. -/
def Run (dt : Nat → Int × Int × Int) (c : Int) (n : Nat) : Prop := ∀ k, k + 1 < n → Nx (dt k) (dt (k + 1)) c ∧ 1 ≤ (dt k).2.1
theorem mth_key {dt : Nat → Int × Int × Int} {zs : List Int} {c : Int} {n : Nat} (hr : Run dt c n) (hn : n ≤ zs.length) : ∀ k, k < n →
    mthN dt zs (k + 1) = mthC dt zs c n k ++ [mthR dt zs (mthB dt c n k) k]
  | 0, hk => by
    have e : su zs 1 = sadd (su zs 0) (zs.getD 0 0) := su_sadd (by omega)
    have e0 : su zs 0 = (0, 0) := su_zero zs
    show mthPut [] (dt 0) (zs.getD 0 0) = [] ++ [mthR dt zs 0 0]
    rw [mthPut, mthR, e, e0]
    simp
  | k + 1, hk => by
    have ih := mth_key hr hn k (by omega)
    have e : su zs (k + 1 + 1) = sadd (su zs (k + 1)) (zs.getD (k + 1) 0) := su_sadd (by omega)
    obtain ⟨hx, h1⟩ := hr k hk
    obtain ⟨hsame, hnew⟩ := hx.month h1
    show mthPut (mthN dt zs (k + 1)) (dt (k + 1)) (zs.getD (k + 1) 0) = _
    rw [ih, mthPut]
    have hl : (mthC dt zs c n k ++ [mthR dt zs (mthB dt c n k) k]).getLast? = some (mthR dt zs (mthB dt c n k) k) := by simp
    rw [hl]
    have hrd : rD (mthR dt zs (mthB dt c n k) k) = (dt k).2.1 := rfl
    have hb := mthB_le dt c n k
    have eR : ∀ b, mthR dt zs b (k + 1) = ((dt (k + 1)).1, (dt (k + 1)).2.1, (sadd ((su zs (k + 1)).1 - (su zs b).1, (su zs (k + 1)).2 - (su zs b).2) (zs.getD (k + 1) 0)).1, (sadd ((su zs (k + 1)).1 - (su zs b).1, (su zs (k + 1)).2 - (su zs b).2) (zs.getD (k + 1) 0)).2) := fun b => by
      rw [← sadd_diff, mthR, e]
    by_cases he : (dt k).2.2 = mlen (dt k).1 (dt k).2.1 c
    · have hE : mthE dt c n k = true := by simp [mthE, he]
      have hne := hnew he
      simp only [hrd]
      rw [if_neg (fun e9 => hne e9.symm), mthC, if_pos hE, mthB, if_pos hE, eR, Int.sub_self, Int.sub_self]
    · have hE : mthE dt c n k = false := by simp [mthE, he]; omega
      obtain ⟨s1, s2⟩ := hsame he
      simp only [hrd]
      rw [if_pos s2.symm, List.dropLast_concat, mthC, if_neg (by rw [hE]; decide), mthB, if_neg (by rw [hE]; decide), eR, s1, s2]
      rfl
theorem mth_all {dt : Nat → Int × Int × Int} {zs : List Int} {c : Int} (hr : Run dt c zs.length) (h0 : 0 < zs.length) : mthC dt zs c zs.length zs.length = mthN dt zs zs.length := by
  obtain ⟨k, hk⟩ : ∃ k, zs.length = k + 1 := ⟨zs.length - 1, by omega⟩
  have h := mth_key hr (Nat.le_refl _) k (by omega)
  have hE : mthE dt c zs.length k = true := by simp [mthE, hk]
  have e : mthC dt zs c zs.length (k + 1) = mthC dt zs c zs.length k ++ [mthR dt zs (mthB dt c zs.length k) k] := by rw [mthC, if_pos hE]
  rw [← h, ← hk] at e
  exact e
/-- What MonthsOf answers. -/
def mthOk (zs : List Int) (f c : Int) : Bool := sqB zs && (List.range zs.length).all fun k => dayOk (f + (k : Int)) c
noncomputable def mthD (f c : Int) (k : Nat) : Int × Int × Int := dOf (f + (k : Int)) c
noncomputable def mthL (zs : List Int) (f c : Int) : List R4 := if mthOk zs f c then mthN (mthD f c) zs zs.length else []
theorem mthOk_facts {zs : List Int} {f c : Int} (h : mthOk zs f c = true) : sqB zs = true ∧ ∀ k, k < zs.length → dayOk (f + (k : Int)) c = true := by
  simp only [mthOk, Bool.and_eq_true] at h
  exact ⟨h.1, fun k hk => List.all_eq_true.1 h.2 k (List.mem_range.2 hk)⟩
theorem mthOk_bad {zs : List Int} {f c : Int} {k : Nat} (hk : k < zs.length) (h : dayOk (f + (k : Int)) c = false) : mthOk zs f c = false := by
  rcases Bool.eq_false_or_eq_true (mthOk zs f c) with h9 | h9
  · have := (mthOk_facts h9).2 k hk
    rw [h] at this; cases this
  · exact h9
theorem mthOk_sq {zs : List Int} {f c : Int} (h : sqB zs = false) : mthOk zs f c = false := by rw [mthOk, h]; rfl
theorem mthOk_mk {zs : List Int} {f c : Int} (h : sqB zs = true) (h2 : ∀ k, k < zs.length → dayOk (f + (k : Int)) c = true) : mthOk zs f c = true := by
  rw [mthOk, h, Bool.true_and]; exact List.all_eq_true.2 fun k hk => h2 k (List.mem_range.1 hk)
theorem mthD_run {f c : Int} {n : Nat} (h : ∀ k, k < n → ∃ y m d, dv y m d c = true ∧ dn y m d c = f + (k : Int)) : Run (mthD f c) c n := by
  intro k hk
  obtain ⟨y, m, d, h1, h2⟩ := h k (by omega)
  obtain ⟨y', m', d', h3, h4⟩ := h (k + 1) hk
  rw [mthD, mthD, dOf_of h1 h2, dOf_of h3 h4]
  exact ⟨dv_next h1 h3 (by rw [h4, h2]; omega), (dv_facts h1).2.2.2.1⟩
theorem mthL_no {zs : List Int} {f c : Int} (h : mthOk zs f c = false) : mthL zs f c = [] := by simp [mthL, h]
theorem mthL_yes {zs : List Int} {f c : Int} (h : mthOk zs f c = true) : mthL zs f c = mthN (mthD f c) zs zs.length := by simp [mthL, h]
theorem mthL_len {zs : List Int} (f c : Int) : (mthL zs f c).length ≤ 12 := by
  cases h : mthOk zs f c
  · rw [mthL_no h]; simp
  · rw [mthL_yes h]
    have := mthN_len (mthD f c) zs zs.length
    have := (sq_facts (mthOk_facts h).1).2
    omega
end Go.Proofs.YtohoeonfoolpdaaDoor
namespace Go.Proofs.YtohoeonfoolpdaaDoor
open Go.RowKit
set_option linter.unusedVariables false

/-- Reports in a block that is new since w. -/
def FrR (w w' : World) (a : Option Addr) (ys : List R4) : Prop := ys = [] ∨ ∃ g, a = some ⟨g, 0, none⟩ ∧ w.heap.size ≤ g ∧ g < w'.heap.size ∧ WrR w' g ys
theorem FrR.rs {w w' : World} {a : Option Addr} {ys : List R4} (h : FrR w w' a ys) : Rs w' a ys := by
  rcases h with h | ⟨g, rfl, _, _, h⟩
  · exact .inl h
  · exact h.rs
theorem FrR.keep {w w' w'' : World} {a : Option Addr} {ys : List R4} (h : FrR w w' a ys) (k : Keep w' w'') : FrR w w'' a ys := by
  rcases h with h | ⟨g, ha, hg, hl, h⟩
  · exact .inl h
  · exact .inr ⟨g, ha, hg, Nat.lt_of_lt_of_le hl k.size, h.keep k⟩
theorem flatR_len : ∀ rs : List R4, (flatR rs).length = rs.length * 4
  | [] => rfl
  | r :: rs => by
    have h := flatR_len rs
    unfold flatR at *
    rw [List.flatMap_cons, List.length_append, h]
    simp [rc]; omega
theorem flatR_app (rs qs : List R4) : flatR (rs ++ qs) = flatR rs ++ flatR qs := by simp [flatR]
theorem flatR_one (r : R4) : flatR [r] = rc r := by simp [flatR]
theorem flatR_at : ∀ (rs : List R4) (i t : Nat), i < rs.length → t < 4 → (flatR rs)[i * 4 + t]? = (rc (rs.getD i r0))[t]?
  | [], _, _, h, _ => by cases h
  | r :: rs, 0, t, _, ht => by
    have e : flatR (r :: rs) = rc r ++ flatR rs := by simp [flatR]
    rw [e, List.getElem?_append_left (by simp [rc]; omega)]
    simp
  | r :: rs, i + 1, t, h, ht => by
    have e : flatR (r :: rs) = rc r ++ flatR rs := by simp [flatR]
    have h1 : i < rs.length := by simpa using h
    rw [e, List.getElem?_append_right (by simp [rc]; omega)]
    have e2 : (i + 1) * 4 + t - (rc r).length = i * 4 + t := by simp [rc]; omega
    rw [e2, flatR_at rs i t h1 ht]
    simp
theorem at4_of {w : World} {b o : Nat} {r : R4} (h : ∀ t, t < 4 → w.cell? ⟨b, o + t, none⟩ = (rc r)[t]?) : At4 w b o r :=
  ⟨(h 0 (by omega)).trans rfl, (h 1 (by omega)).trans rfl, (h 2 (by omega)).trans rfl, (h 3 (by omega)).trans rfl⟩
theorem At4.rc_at {w : World} {b o : Nat} {r : R4} (h : At4 w b o r) (t : Nat) (ht : t < 4) : w.cell? ⟨b, o + t, none⟩ = (rc r)[t]? := by
  have h4 : t = 0 ∨ t = 1 ∨ t = 2 ∨ t = 3 := by omega
  rcases h4 with rfl | rfl | rfl | rfl
  · exact h.s
  · exact h.d
  · exact h.k
  · exact h.v
/-- The cells of a slice of reports, to be appended. -/
theorem rc_one (r : R4) : ∀ u ∈ rc r, u.oneCell' = true := by
  intro u hu
  simp only [rc, List.mem_cons, List.not_mem_nil, or_false] at hu
  obtain rfl | rfl | rfl | rfl := hu <;> rfl
theorem own_cap {w : World} {base e size g n c : Nat} {xs : List Value} (h : w.ownsRow base e size (.slice (some ⟨g, 0, none⟩) n c) n xs) : n ≤ c := by
  rcases h.2 with ⟨h', _⟩ | ⟨g', cap', cur, h', _, _, h2, _⟩
  · simp at h'
  · simp only [Value.slice.injEq, Option.some.injEq, Addr.mk.injEq, and_true, true_and] at h'
    obtain ⟨rfl, rfl⟩ := h'
    exact h2
theorem wrR_ownE {w : World} {base e g n c : Nat} {ys : List R4} (h : w.ownsRow base e 4 (.slice (some ⟨g, 0, none⟩) n c) n (flatR ys)) (hn : n = ys.length) : WrR w g ys := by
  subst hn
  intro j hj
  refine ⟨at4_of fun t ht => ?_, ⟨World.ownsRow.frozenAt h _, World.ownsRow.frozenAt h _, World.ownsRow.frozenAt h _, World.ownsRow.frozenAt h _⟩⟩
  rw [World.ownsRow.cellAt h _ (by omega), flatR_at ys j t hj ht]
theorem frR_ownE {w wr : World} {base e : Nat} {ga : Option Addr} {c : Nat} {ys : List R4} (h : wr.ownsRow base e 4 (.slice ga ys.length c) ys.length (flatR ys)) (hb : w.heap.size ≤ base) : FrR w wr ga ys ∧ ys.length ≤ c := by
  by_cases hz : ys = []
  · exact ⟨.inl hz, by rw [hz]; exact Nat.zero_le _⟩
  · obtain ⟨g, c', he, _, _⟩ := h.form (List.length_pos_iff.2 hz)
    simp only [Value.slice.injEq] at he
    obtain ⟨rfl, _, rfl⟩ := he
    exact ⟨.inr ⟨g, rfl, Nat.le_trans hb (World.ownsRow.lt h g rfl).1, (World.ownsRow.lt h g rfl).2, wrR_ownE h rfl⟩, own_cap h⟩
theorem own_keepM {w w' : World} {base e n size : Nat} {v : Value} {xs : List Value} (h : w.ownsRow base e size v n xs) (k : Keep w w') : w'.ownsRow base e size v n xs := by
  refine World.ownsRow.kept h (⟨Below.os k, Below.tape k, Below.output k, Below.size k, fun i hi _ => Below.block k i hi⟩ : w.grownBy w' none) ?_
  cases hv : v.ownBlock with
  | none => left; rfl
  | some k => right; simp
theorem own_two {w w' : World} {base e n size RB MB : Nat} {v : Value} {xs : List Value} (h : w.ownsRow base e size v n xs) (t : Two RB MB w w') (h1 : RB < base) (h2 : MB < base) : w'.ownsRow base e size v n xs := by
  refine ⟨h.1, ?_⟩
  rcases h.2 with hn | ⟨g, cap, cur, rfl, hb, hgg, rest⟩
  · exact .inl hn
  · refine .inr ⟨g, cap, cur, rfl, hb, ?_, rest⟩
    rw [t.block g (Array.getElem?_eq_some_iff.1 hgg).1 (by omega) (by omega)]
    exact hgg
theorem Ring.below {w w' : World} {RB MB n p B : Nat} {ss : List R2} (h : Ring w RB MB n p ss) (hb : Below B w w') (h1 : RB < B) (h2 : MB < B) : Ring w' RB MB n p ss := by
  obtain ⟨c0, c1, f1, hne, hw, hl⟩ := h
  refine ⟨(hb.cell (p := ⟨RB, 0, none⟩) h1).trans c0, (hb.cell (p := ⟨RB, 1, none⟩) h1).trans c1, (hb.frozen (p := ⟨RB, 1, none⟩) h1).trans f1, hne, fun j hj => ?_, hl⟩
  obtain ⟨⟨a, b⟩, ⟨c, d⟩⟩ := hw j hj
  exact ⟨⟨(hb.cell (p := ⟨MB, _, none⟩) h2).trans a, (hb.cell (p := ⟨MB, _, none⟩) h2).trans b⟩, ⟨(hb.frozen (p := ⟨MB, _, none⟩) h2).trans c, (hb.frozen (p := ⟨MB, _, none⟩) h2).trans d⟩⟩
theorem ring2 {ss : List R2} {p q : Nat} {sl s' : R2} (hl : ss.length = 2) (hp : 1 ≤ p) (hq : p % 2 = q) (h : ss.getD ((p - 1) % 2) u0 = sl) : keptL (ss.set q s') 2 (p + 1) = [sl, s'] ∧ (ss.set q s').getD ((p + 1 - 1) % 2) u0 = s' := by
  have e : p + 1 - 2 = p - 1 := by omega
  have e2 : p + 1 - (p + 1 - 2) = 2 := by omega
  have e3 : p - 1 + 1 = p := by omega
  have hne : q ≠ (p - 1) % 2 := by omega
  have hq2 : q < ss.length := by omega
  have hq3 : (p - 1) % 2 < ss.length := by omega
  constructor
  · rw [keptL, e2, e]
    simp only [List.range_succ, List.range_zero, List.nil_append, List.map_append, List.map_cons, List.map_nil, Nat.add_zero, e3, hq]
    rw [← h]
    simp [List.getD_eq_getElem?_getD, hne, hq2]
  · rw [show p + 1 - 1 = p by omega, hq]
    simp [List.getD_eq_getElem?_getD, hq2]
theorem Rs.below {B : Nat} {w w' : World} {a : Option Addr} {rs : List R4} (h : Rs w a rs) (hl : Lo B a rs.length) (hb : Below B w w') : Rs w' a rs := by
  rcases h with h | ⟨b, off, ha, hlt, hc⟩
  · exact .inl h
  · rcases hl with hl | hl
    · exact .inl (List.eq_nil_of_length_eq_zero hl)
    · exact .inr ⟨b, off, ha, Nat.lt_of_lt_of_le hlt hb.size, fun i hi => (hc i hi).same fun j => hb.cell (p := ⟨b, j, none⟩) (hl b off ha)⟩
theorem Rs.lo {w : World} {a : Option Addr} {rs : List R4} (h : Rs w a rs) : Lo w.heap.size a rs.length := by
  rcases h with h | ⟨b, off, ha, hlt, hc⟩
  · left; rw [h]; rfl
  · right; intro b' o' hb'; rw [ha] at hb'; injection hb' with hb'; injection hb' with hb' _ _; omega
theorem Rs.onlyLo {B : Nat} {w w' : World} {a : Option Addr} {rs : List R4} (h : Rs w a rs) (hl : Lo B a rs.length) (ho : Only B w w') : Rs w' a rs := by
  rcases h with h | ⟨b, off, ha, hlt, hc⟩
  · exact .inl h
  · rcases hl with hl | hl
    · exact .inl (List.eq_nil_of_length_eq_zero hl)
    · have hne : b < B := hl b off ha
      exact .inr ⟨b, off, ha, Nat.lt_of_lt_of_le hlt ho.size, fun i hi => (hc i hi).same fun j => ho.cell b j hlt (by omega)⟩
theorem FrR.mono {w0 w w' : World} {a : Option Addr} {ys : List R4} (h : FrR w w' a ys) (hs : w0.heap.size ≤ w.heap.size) : FrR w0 w' a ys := by
  rcases h with h | ⟨g, ha, hg, hl, h⟩
  · exact .inl h
  · exact .inr ⟨g, ha, Nat.le_trans hs hg, hl, h⟩
theorem FrR.only {B : Nat} {w w' w'' : World} {a : Option Addr} {ys : List R4} (h : FrR w w' a ys) (ho : Only B w' w'') (hB : B < w.heap.size) : FrR w w'' a ys := by
  rcases h with h | ⟨g, ha, hg, hl, h⟩
  · exact .inl h
  · refine .inr ⟨g, ha, hg, Nat.lt_of_lt_of_le hl ho.size, fun j hj => ?_⟩
    obtain ⟨h1, h2⟩ := h j hj
    exact ⟨h1.same fun i => ho.cell g i hl (by omega), ⟨(ho.frozen g _ hl (by omega)).trans h2.f0, (ho.frozen g _ hl (by omega)).trans h2.f1, (ho.frozen g _ hl (by omega)).trans h2.f2, (ho.frozen g _ hl (by omega)).trans h2.f3⟩⟩
theorem FrR.drewN {w w' : World} {a : Option Addr} {ys : List R4} (h : FrR w w' a ys) (n : Nat) : FrR w (w'.drewN n) a ys := h.keep ((Keep.refl w').drewN n)

theorem wrap_wf {a : Int} (h : (Lit.int .i64 a).wf = true) : IntKind.i64.wrap a = a := by
  simp [Lit.wf, IntKind.min, IntKind.max, IntKind.signed, IntKind.bits] at h
  exact IntWalk.i64_in _ (by omega)
theorem infoMon : (Tryd.prog.info? 33).map (fun i => (i.zero, i.size, i.bytes)) = some (some (.agg #[.int .i64 0, .int .i64 0, .int .i64 0, .int .i64 0]), 4, 32) := by kernel_rfl
theorem newsM (w : World) {s d k v : Int} :
    ∀ j u, (rc (s, d, k, v))[j]? = some u → (w.alloc (.cells #[.int .i64 s, .int .i64 d, .int .i64 k, .int .i64 v] 33)).cell? ((⟨w.heap.size, 0, none⟩ : Addr).add j) = some u := by
  intro j u hj
  rw [Addr.add_lit, Nat.zero_add, World.cell?_alloc_new, ← hj]
  simp [rc, rS, rD, rK, rV]
set_option maxHeartbeats 400000 in
theorem eqSum_sameM (t v : Int) (w : World) :
    Calls Tryd.prog 57 #[.agg #[.int .i64 t, .int .i64 v], .agg #[.int .i64 t, .int .i64 v]] w fun e w' => e = .returned (.bool true) ∧ Keep w w' := by
  go_enter Tryd.func57, Tryd.ntmps57
  go_wp2
  go_ret
  exact ⟨rfl, ((Keep.refl w).alloc _).alloc _⟩
set_option maxRecDepth 100000 in
set_option maxHeartbeats 1000000 in
theorem eqMon_same (s d t v : Int) (w : World) :
    Calls Tryd.prog 43 #[.agg #[.int .i64 s, .int .i64 d, .int .i64 t, .int .i64 v], .agg #[.int .i64 s, .int .i64 d, .int .i64 t, .int .i64 v]] w fun e w' => e = .returned (.bool true) ∧ Keep w w' := by
  go_enter Tryd.func43, Tryd.ntmps43
  go_wp2_with fail
  refine (eqSum_sameM t v _).mono ?_
  rintro e w1 ⟨rfl, k1⟩
  go_wp2
  go_ret
  exact ⟨rfl, (((Keep.refl w).alloc _).alloc _).trans k1⟩
set_option maxHeartbeats 1000000 in
theorem eqM_same (a b : Option Addr) (c d : Nat) (rs : List R4) (w : World) (h1 : Rs w a rs) (h2 : Rs w b rs) (hm : rs.length ≤ 1048576) :
    Calls Tryd.prog 17 #[.slice a rs.length c, .slice b rs.length d] w fun e w' => e = .returned (.bool true) ∧ Keep w w' := by
  go_enter Tryd.func17, Tryd.ntmps17
  go_wp2_with fail
  go_loopw [5] (fun i wr => ∃ k : Nat, k ≤ rs.length ∧ i = .int .i64 k ∧ Keep w wr) (fun i _ => rs.length - (intOf i).toNat)
  case atStart => exact ⟨0, by omega, rfl, Keep.refl w⟩
  case round =>
    obtain ⟨k, hk, rfl, hK⟩ := hrel
    by_cases hlt : k < rs.length
    · obtain ⟨b1, o1, rfl, _, ⟨c0, c1, c2, c3⟩⟩ := (h1.keep hK).at_ hlt
      obtain ⟨b2, o2, rfl, _, ⟨e0, e1, e2, e3⟩⟩ := (h2.keep hK).at_ hlt
      generalize rS (rs.getD k r0) = x0 at c0 e0
      generalize rD (rs.getD k r0) = x1 at c1 e1
      generalize rK (rs.getD k r0) = x2 at c2 e2
      generalize rV (rs.getD k r0) = x3 at c3 e3
      have k0 : (0 : Int) ≤ (k : Int) := by omega
      have k1 : (k : Int) < (rs.length : Int) := by omega
      go_wp2_with fail
      go_region_held3 (fun w' => w'.cell? ⟨b1, o1 + k * 4, none⟩ = some (.int .i64 x0) ∧ w'.cell? ⟨b1, o1 + k * 4 + 1, none⟩ = some (.int .i64 x1) ∧ w'.cell? ⟨b1, o1 + k * 4 + 2, none⟩ = some (.int .i64 x2) ∧ w'.cell? ⟨b1, o1 + k * 4 + 3, none⟩ = some (.int .i64 x3) ∧
          w'.cell? ⟨b2, o2 + k * 4, none⟩ = some (.int .i64 x0) ∧ w'.cell? ⟨b2, o2 + k * 4 + 1, none⟩ = some (.int .i64 x1) ∧ w'.cell? ⟨b2, o2 + k * 4 + 2, none⟩ = some (.int .i64 x2) ∧ w'.cell? ⟨b2, o2 + k * 4 + 3, none⟩ = some (.int .i64 x3)) (go_keep)
        ((go_at_call 43; refine (eqMon_same x0 x1 x2 x3 _).mono ?_; rintro e w1 ⟨rfl, hk1⟩; have kk := ((Keep.refl wr).drew).trans hk1; have f0 := kk.cell c0; have f1 := kk.cell c1; have f2 := kk.cell c2; have f3 := kk.cell c3; have g0 := kk.cell e0; have g1 := kk.cell e1; have g2 := kk.cell e2; have g3 := kk.cell e3))
      have hK2 := hK.trans kk
      go_wp2
      go_roundw
      case rel => exact ⟨k + 1, by omega, by go_num, hK2⟩
      case measure => simp [intOf]; omega
    · go_wp2
      go_ret
      exact ⟨rfl, hK⟩
set_option maxHeartbeats 1000000 in
theorem markM (g c : Nat) (rs : List R4) (w : World) (h : WrR w g rs) (hm : rs.length ≤ 1048576) :
    Calls Tryd.prog 20 #[.slice (some ⟨g, 0, none⟩) rs.length c, .int .i64 1] w fun e w' => e = .returned (.int .i64 (1 + 4 * (rs.length : Int))) ∧ Only g w w' ∧ ∃ ys, ys.length = rs.length ∧ WrR w' g ys ∧ MkR ys := by
  go_enter Tryd.func20, Tryd.ntmps20
  go_wp2_with fail
  go_loopw [1, 5] (fun q i wr => ∃ (k : Nat) (ys : List R4), k ≤ rs.length ∧ i = .int .i64 k ∧ q = .int .i64 (1 + 4 * (k : Int)) ∧ Hid (ys.length = rs.length ∧ WrR wr g ys ∧ ∀ i, i < k → ys.getD i r0 = mk4 i) ∧ Only g w wr) (fun _ i _ => rs.length - (intOf i).toNat)
  case atStart => exact ⟨0, rs, by omega, rfl, rfl, Lib.hid ⟨rfl, h, fun i hi => by omega⟩, Only.refl g w⟩
  case round =>
    obtain ⟨k, ys, hk, rfl, rfl, HW, hO⟩ := hrel
    by_cases hlt : k < rs.length
    · obtain ⟨⟨x0, x1, x2, x3⟩, ⟨y0, y1, y2, y3⟩⟩ := HW.out.2.1 k (by have := HW.out.1; omega)
      have HW2 : Hid ((ys.set k (mk4 k)).length = rs.length ∧ WrR (put4 wr g (k * 4) (mk4 k)) g (ys.set k (mk4 k)) ∧ ∀ i, i < k + 1 → (ys.set k (mk4 k)).getD i r0 = mk4 i) := Lib.hid (by
        obtain ⟨l, W, m⟩ := HW.out
        refine ⟨by rw [List.length_set]; exact l, W.set (by omega) _, fun i hi => ?_⟩
        by_cases e : i = k
        · subst e; simp [List.getD_eq_getElem?_getD, show i < ys.length by omega]
        · have e2 : k ≠ i := fun h => e h.symm
          have := m i (by omega)
          rw [← this]
          simp [List.getD_eq_getElem?_getD, e2])
      have HO := Lib.hid ((((hO.put1 (k * 4) (.int .i64 (rS (mk4 k)))).put1 (k * 4 + 1) (.int .i64 (rD (mk4 k)))).put1 (k * 4 + 2) (.int .i64 (rK (mk4 k)))).put1 (k * 4 + 3) (.int .i64 (rV (mk4 k))))
      go_wp2
      go_roundw
      case rel => exact ⟨k + 1, ys.set k (mk4 k), by omega, by go_num, by congr 1, HW2, HO.out⟩
      case measure => simp [intOf]; omega
    · obtain rfl : k = rs.length := by omega
      go_wp2
      go_ret
      exact ⟨rfl, hO, ys, HW.out.1, HW.out.2.1, fun i hi => HW.out.2.2 i (by have := HW.out.1; omega)⟩
set_option maxHeartbeats 1000000 in
theorem heldM (a : Option Addr) (c : Nat) (ys : List R4) (w : World) (h : Rs w a ys) (hk' : MkR ys) (hm : ys.length ≤ 1048576) :
    Calls Tryd.prog 21 #[.slice a ys.length c, .int .i64 1] w fun e w' => e = .returned (.int .i64 (1 + 4 * (ys.length : Int))) ∧ w = w' := by
  have HM := Lib.hid hk'
  clear hk'
  go_enter Tryd.func21, Tryd.ntmps21
  go_wp2_with fail
  go_loop [1, 5] (fun q i => ∃ k : Nat, k ≤ ys.length ∧ i = .int .i64 k ∧ q = .int .i64 (1 + 4 * (k : Int))) (fun _ i => ys.length - (intOf i).toNat)
  case atStart => exact ⟨0, by omega, rfl, rfl⟩
  case round =>
    obtain ⟨k, hk, rfl, rfl⟩ := hrel
    by_cases hlt : k < ys.length
    · obtain ⟨b, off, rfl, _, hc⟩ := h.at_ hlt
      rw [HM.out k hlt] at hc
      obtain ⟨c0, c1, c2, c3⟩ := hc
      simp only [rS, rD, rK, rV, mk4] at c0 c1 c2 c3
      go_wp2
      go_round
      case rel => exact ⟨k + 1, by omega, by go_num, by congr 1⟩
      case measure => simp [intOf]; omega
    · obtain rfl : k = ys.length := by omega
      go_wp2
      go_ret
      exact ⟨rfl, rfl⟩
set_option maxHeartbeats 400000 in
theorem markM0 (a : Option Addr) (c : Nat) (w : World) :
    Calls Tryd.prog 20 #[.slice a 0 c, .int .i64 1] w fun e w' => e = .returned (.int .i64 1) ∧ w = w' := by
  go_enter Tryd.func20, Tryd.ntmps20
  go_wp2_with fail
  go_loop [1, 5] (fun q i => i = .int .i64 0 ∧ q = .int .i64 1) (fun _ i => 0)
  case atStart => exact ⟨rfl, rfl⟩
  case round =>
    obtain ⟨rfl, rfl⟩ := hrel
    go_wp2
    go_ret
    exact ⟨rfl, rfl⟩
/-- Marks on fresh reports. -/
theorem markFM (a : Option Addr) (c : Nat) (rs : List R4) (w0 w : World) (h : FrR w0 w a rs) (hm : rs.length ≤ 1048576) :
    Calls Tryd.prog 20 #[.slice a rs.length c, .int .i64 1] w fun e w' => e = .returned (.int .i64 (1 + 4 * (rs.length : Int))) ∧ (w0.heap.size ≤ w.heap.size → Below w0.heap.size w w') ∧ ∃ ys, ys.length = rs.length ∧ Rs w' a ys ∧ MkR ys := by
  rcases h with rfl | ⟨g, rfl, hg, hl, h⟩
  · refine (markM0 a c w).mono fun e w' ⟨he, hw⟩ => ?_
    subst hw
    exact ⟨he, fun _ => Below.refl _ _, [], rfl, .inl rfl, fun i hi => by simp at hi⟩
  · refine (markM g c rs w h hm).mono fun e w' ⟨he, ho, ys, hy, hw, hk⟩ => ⟨he, fun hs => ho.below hg hs, ys, hy, hw.rs, hk⟩
set_option maxHeartbeats 1000000 in
theorem sM_same (a b : Option Addr) (c d : Nat) (rs : List R4) (w : World) (h1 : Rs w a rs) (h2 : Rs w b rs) (hm : rs.length ≤ 1048576) :
    Calls Tryd.prog 10 #[.slice a rs.length c, .slice b rs.length d] w fun e w' => e = .returned (.bool true) ∧ Keep w w' := by
  go_enter Tryd.func10, Tryd.ntmps10
  go_wp2_with fail
  go_loopw [5] (fun i wr => ∃ k : Nat, k ≤ rs.length ∧ i = .int .i64 k ∧ Keep w wr) (fun i _ => rs.length - (intOf i).toNat)
  case atStart => exact ⟨0, by omega, rfl, Keep.refl w⟩
  case round =>
    obtain ⟨k, hk, rfl, hK⟩ := hrel
    by_cases hlt : k < rs.length
    · obtain ⟨b1, o1, rfl, _, ⟨c0, c1, c2, c3⟩⟩ := (h1.keep hK).at_ hlt
      obtain ⟨b2, o2, rfl, _, ⟨e0, e1, e2, e3⟩⟩ := (h2.keep hK).at_ hlt
      generalize rS (rs.getD k r0) = x0 at c0 e0
      generalize rD (rs.getD k r0) = x1 at c1 e1
      generalize rK (rs.getD k r0) = x2 at c2 e2
      generalize rV (rs.getD k r0) = x3 at c3 e3
      have k0 : (0 : Int) ≤ (k : Int) := by omega
      have k1 : (k : Int) < (rs.length : Int) := by omega
      go_wp2_with fail
      go_quiet (fail)
      have hK2 : Keep w (wr.drewN nq) := hK.drewN nq
      go_wp2
      go_roundw
      case rel => exact ⟨k + 1, by omega, by go_num, hK2⟩
      case measure => simp [intOf]; omega
    · go_wp2
      go_ret
      exact ⟨rfl, hK⟩
end Go.Proofs.YtohoeonfoolpdaaDoor
namespace Go.Proofs.YtohoeonfoolpdaaDoor
open Go.RowKit
set_option linter.unusedVariables false

theorem smOk_ne {s : Int × Int} (h : ¬ ((-999999 ≤ s.1 ∧ s.1 ≤ 999999) ∧ 0 ≤ s.2 ∧ s.2 ≤ 99)) : smOk s = false := by
  cases h9 : smOk s
  · rfl
  · exact absurd (smOk_facts h9) h
set_option maxHeartbeats 1000000 in
theorem inl_any (t m : Int) (w : World) :
    Calls Tryd.prog 47 #[.agg #[.int .i64 t, .int .i64 m]] w fun e w' => e = .returned (.bool (smOk (t, m))) ∧ Keep w w' := by
  by_cases h0 : -999999 ≤ t
  case' neg =>
    have e : smOk (t, m) = false := smOk_ne (s := (t, m)) (fun h => h0 (by have := h.1; have := h.2; dsimp only at *; omega))
    have d0 : decide (-999999 ≤ t) = false := decide_eq_false h0
    rw [e]
    clear e
    go_enter Tryd.func47, Tryd.ntmps47
    go_wp2
    go_ret
    exact ⟨rfl, (Keep.refl w).alloc _⟩
  by_cases h1 : t ≤ 999999
  case' neg =>
    have e : smOk (t, m) = false := smOk_ne (s := (t, m)) (fun h => h1 (by have := h.1; have := h.2; dsimp only at *; omega))
    have d0 : decide (-999999 ≤ t) = true := decide_eq_true h0
    have d1 : decide (t ≤ 999999) = false := decide_eq_false h1
    rw [e]
    clear e
    go_enter Tryd.func47, Tryd.ntmps47
    go_wp2
    go_ret
    exact ⟨rfl, (Keep.refl w).alloc _⟩
  by_cases h2 : 0 ≤ m
  case' neg =>
    have e : smOk (t, m) = false := smOk_ne (s := (t, m)) (fun h => h2 (by have := h.1; have := h.2; dsimp only at *; omega))
    have d0 : decide (-999999 ≤ t) = true := decide_eq_true h0
    have d1 : decide (t ≤ 999999) = true := decide_eq_true h1
    have d2 : decide (0 ≤ m) = false := decide_eq_false h2
    rw [e]
    clear e
    go_enter Tryd.func47, Tryd.ntmps47
    go_wp2
    go_ret
    exact ⟨rfl, (Keep.refl w).alloc _⟩
  by_cases h3 : m ≤ 99
  case' neg =>
    have e : smOk (t, m) = false := smOk_ne (s := (t, m)) (fun h => h3 (by have := h.1; have := h.2; dsimp only at *; omega))
    have d0 : decide (-999999 ≤ t) = true := decide_eq_true h0
    have d1 : decide (t ≤ 999999) = true := decide_eq_true h1
    have d2 : decide (0 ≤ m) = true := decide_eq_true h2
    have d3 : decide (m ≤ 99) = false := decide_eq_false h3
    rw [e]
    clear e
    go_enter Tryd.func47, Tryd.ntmps47
    go_wp2
    go_ret
    exact ⟨rfl, (Keep.refl w).alloc _⟩
  have e : smOk (t, m) = true := smOk_mk (s := (t, m)) ⟨⟨h0, h1⟩, h2, h3⟩
  have d0 : decide (-999999 ≤ t) = true := decide_eq_true h0
  have d1 : decide (t ≤ 999999) = true := decide_eq_true h1
  have d2 : decide (0 ≤ m) = true := decide_eq_true h2
  have d3 : decide (m ≤ 99) = true := decide_eq_true h3
  rw [e]
  clear e
  go_enter Tryd.func47, Tryd.ntmps47
  go_wp2
  go_ret
  exact ⟨rfl, (Keep.refl w).alloc _⟩
set_option maxRecDepth 100000 in
set_option maxHeartbeats 4000000 in
theorem sb_impl (a : Option Addr) (c : Nat) (ss : List R2) (f t : Int) (w : World) (h : Rr w a ss) (hm : ss.length ≤ 1048576) (f0 : -1000000 ≤ f) (f1 : f ≤ 1000000) (t0 : -1000000 ≤ t) (t1 : t ≤ 1000000) :
    Calls Tryd.prog 32 #[.slice a ss.length c, .int .i64 f, .int .i64 t] w fun e w' => e = .returned (.tuple #[.agg #[.int .i64 (sbV ss f t).1, .int .i64 (sbV ss f t).2], .bool (sbB ss f t)]) ∧ Keep w w' := by
  by_cases h0 : 1 ≤ ss.length
  case' neg =>
    have e := sbB_len (ss := ss) (f := f) (t := t) (by omega)
    rw [sbV_no e, e]
    have d0 : decide (ss.length < 1) = true := decide_eq_true (by omega)
    clear e
    go_enter Tryd.func32, Tryd.ntmps32
    go_wp2
    refine bodyPost_ret (v := .tuple #[.agg #[.int .i64 0, .int .i64 0], .bool false]) (by simp [results, Tryd.results32, go_sem, *]) rfl ⟨rfl, ?_⟩
    first | exact (Keep.refl w).alloc _ | exact (((Keep.refl w).alloc _).setCell (by simp) _).setCell (by simp) _
  by_cases h1 : ss.length ≤ 13
  case' neg =>
    have e := sbB_len (ss := ss) (f := f) (t := t) (by omega)
    rw [sbV_no e, e]
    have d0 : decide (ss.length < 1) = false := decide_eq_false (by omega)
    have d1 : decide (13 < ss.length) = true := decide_eq_true (by omega)
    clear e
    go_enter Tryd.func32, Tryd.ntmps32
    go_wp2
    refine bodyPost_ret (v := .tuple #[.agg #[.int .i64 0, .int .i64 0], .bool false]) (by simp [results, Tryd.results32, go_sem, *]) rfl ⟨rfl, ?_⟩
    first | exact (Keep.refl w).alloc _ | exact (((Keep.refl w).alloc _).setCell (by simp) _).setCell (by simp) _
  by_cases h2 : 0 ≤ f
  case' neg =>
    have e := sbB_arg (ss := ss) (f := f) (t := t) (by omega)
    rw [sbV_no e, e]
    have d0 : decide (ss.length < 1) = false := decide_eq_false (by omega)
    have d1 : decide (13 < ss.length) = false := decide_eq_false (by omega)
    have d2 : decide (f < 0) = true := decide_eq_true (by omega)
    clear e
    go_enter Tryd.func32, Tryd.ntmps32
    go_wp2
    refine bodyPost_ret (v := .tuple #[.agg #[.int .i64 0, .int .i64 0], .bool false]) (by simp [results, Tryd.results32, go_sem, *]) rfl ⟨rfl, ?_⟩
    first | exact (Keep.refl w).alloc _ | exact (((Keep.refl w).alloc _).setCell (by simp) _).setCell (by simp) _
  by_cases h3 : f ≤ t
  case' neg =>
    have e := sbB_arg (ss := ss) (f := f) (t := t) (by omega)
    rw [sbV_no e, e]
    have d0 : decide (ss.length < 1) = false := decide_eq_false (by omega)
    have d1 : decide (13 < ss.length) = false := decide_eq_false (by omega)
    have d2 : decide (f < 0) = false := decide_eq_false (by omega)
    have d3 : decide (t < f) = true := decide_eq_true (by omega)
    clear e
    go_enter Tryd.func32, Tryd.ntmps32
    go_wp2
    refine bodyPost_ret (v := .tuple #[.agg #[.int .i64 0, .int .i64 0], .bool false]) (by simp [results, Tryd.results32, go_sem, *]) rfl ⟨rfl, ?_⟩
    first | exact (Keep.refl w).alloc _ | exact (((Keep.refl w).alloc _).setCell (by simp) _).setCell (by simp) _
  by_cases h4 : t < (ss.length : Int)
  case' neg =>
    have e := sbB_arg (ss := ss) (f := f) (t := t) (by omega)
    rw [sbV_no e, e]
    have d0 : decide (ss.length < 1) = false := decide_eq_false (by omega)
    have d1 : decide (13 < ss.length) = false := decide_eq_false (by omega)
    have d2 : decide (f < 0) = false := decide_eq_false (by omega)
    have d3 : decide (t < f) = false := decide_eq_false (by omega)
    have d4 : decide ((ss.length : Int) ≤ t) = true := decide_eq_true (by omega)
    clear e
    go_enter Tryd.func32, Tryd.ntmps32
    go_wp2
    refine bodyPost_ret (v := .tuple #[.agg #[.int .i64 0, .int .i64 0], .bool false]) (by simp [results, Tryd.results32, go_sem, *]) rfl ⟨rfl, ?_⟩
    first | exact (Keep.refl w).alloc _ | exact (((Keep.refl w).alloc _).setCell (by simp) _).setCell (by simp) _
  have d0 : decide (ss.length < 1) = false := decide_eq_false (by omega)
  have d1 : decide (13 < ss.length) = false := decide_eq_false (by omega)
  have d2 : decide (f < 0) = false := decide_eq_false (by omega)
  have d3 : decide (t < f) = false := decide_eq_false (by omega)
  have d4 : decide ((ss.length : Int) ≤ t) = false := decide_eq_false (by omega)
  obtain ⟨i, rfl⟩ : ∃ i : Nat, f = (i : Int) := ⟨f.toNat, by omega⟩
  obtain ⟨j, rfl⟩ : ∃ j : Nat, t = (j : Int) := ⟨t.toNat, by omega⟩
  have hij : i ≤ j := by omega
  have hjl : j < ss.length := by omega
  have hA := Lib.hid (fun (h3 : smOk (ss.getD i u0) = true) (h4 : smOk (ss.getD j u0) = true) => sbB_mk (ss := ss) (f := (i : Int)) (t := (j : Int)) (by omega) (by omega) h3 h4)
  have hB := Lib.hid (fun (h3 : smOk (ss.getD i u0) = false) => sbB_low (ss := ss) (f := (i : Int)) (t := (j : Int)) h3)
  have hC := Lib.hid (fun (h3 : smOk (ss.getD j u0) = false) => sbB_high (ss := ss) (f := (i : Int)) (t := (j : Int)) h3)
  obtain ⟨b, off, rfl, hb, hat⟩ := h.all (by omega)
  obtain ⟨x0, x1⟩ := hat i (by omega)
  obtain ⟨y0, y1⟩ := hat j (by omega)
  have hi0 : (0 : Int) ≤ (i : Int) := by omega
  have hi1 : (i : Int) < (ss.length : Int) := by omega
  have hj0 : (0 : Int) ≤ (j : Int) := by omega
  have hj1 : (j : Int) < (ss.length : Int) := by omega
  have hV := Lib.hid (fun (h : sbB ss (i : Int) (j : Int) = true) => sbV_yes h)
  have hV0 := Lib.hid (fun (h : sbB ss (i : Int) (j : Int) = false) => sbV_no h)
  simp only [Int.toNat_natCast] at hV
  have hpe : ss.getD i (0, 0) = ss.getD i u0 := rfl
  have hqe : ss.getD j (0, 0) = ss.getD j u0 := rfl
  rw [hpe, hqe] at hV
  clear hpe hqe hat
  generalize ss.getD i u0 = p at *
  generalize ss.getD j u0 = q at *
  obtain ⟨p1, p2⟩ := p
  obtain ⟨q1, q2⟩ := q
  unfold uL at x0 y0
  unfold uH at x1 y1
  dsimp only at x0 x1 y0 y1
  go_enter Tryd.func32, Tryd.ntmps32
  go_wp2_with fail
  have x0_1 : (w.alloc (.cells #[.int .i64 0, .int .i64 0] 31)).cell? ⟨b, off + i * 2, none⟩ = some (.int .i64 p1) := Keep.cell ((Keep.refl w).alloc (.cells #[.int .i64 0, .int .i64 0] 31)) x0
  have x1_1 : (w.alloc (.cells #[.int .i64 0, .int .i64 0] 31)).cell? ⟨b, off + i * 2 + 1, none⟩ = some (.int .i64 p2) := Keep.cell ((Keep.refl w).alloc (.cells #[.int .i64 0, .int .i64 0] 31)) x1
  have y0_1 : (w.alloc (.cells #[.int .i64 0, .int .i64 0] 31)).cell? ⟨b, off + j * 2, none⟩ = some (.int .i64 q1) := Keep.cell ((Keep.refl w).alloc (.cells #[.int .i64 0, .int .i64 0] 31)) y0
  have y1_1 : (w.alloc (.cells #[.int .i64 0, .int .i64 0] 31)).cell? ⟨b, off + j * 2 + 1, none⟩ = some (.int .i64 q2) := Keep.cell ((Keep.refl w).alloc (.cells #[.int .i64 0, .int .i64 0] 31)) y1
  have x0_2 : ((w.alloc (.cells #[.int .i64 0, .int .i64 0] 31)).alloc (.cells #[.int .i64 0, .int .i64 0] 31)).cell? ⟨b, off + i * 2, none⟩ = some (.int .i64 p1) := Keep.cell (((Keep.refl w).alloc (.cells #[.int .i64 0, .int .i64 0] 31)).alloc (.cells #[.int .i64 0, .int .i64 0] 31)) x0
  have x1_2 : ((w.alloc (.cells #[.int .i64 0, .int .i64 0] 31)).alloc (.cells #[.int .i64 0, .int .i64 0] 31)).cell? ⟨b, off + i * 2 + 1, none⟩ = some (.int .i64 p2) := Keep.cell (((Keep.refl w).alloc (.cells #[.int .i64 0, .int .i64 0] 31)).alloc (.cells #[.int .i64 0, .int .i64 0] 31)) x1
  have y0_2 : ((w.alloc (.cells #[.int .i64 0, .int .i64 0] 31)).alloc (.cells #[.int .i64 0, .int .i64 0] 31)).cell? ⟨b, off + j * 2, none⟩ = some (.int .i64 q1) := Keep.cell (((Keep.refl w).alloc (.cells #[.int .i64 0, .int .i64 0] 31)).alloc (.cells #[.int .i64 0, .int .i64 0] 31)) y0
  have y1_2 : ((w.alloc (.cells #[.int .i64 0, .int .i64 0] 31)).alloc (.cells #[.int .i64 0, .int .i64 0] 31)).cell? ⟨b, off + j * 2 + 1, none⟩ = some (.int .i64 q2) := Keep.cell (((Keep.refl w).alloc (.cells #[.int .i64 0, .int .i64 0] 31)).alloc (.cells #[.int .i64 0, .int .i64 0] 31)) y1
  have x0_3 : (((w.alloc (.cells #[.int .i64 0, .int .i64 0] 31)).alloc (.cells #[.int .i64 0, .int .i64 0] 31)).alloc (.cells #[.int .i64 0, .int .i64 0] 31)).cell? ⟨b, off + i * 2, none⟩ = some (.int .i64 p1) := Keep.cell ((((Keep.refl w).alloc (.cells #[.int .i64 0, .int .i64 0] 31)).alloc (.cells #[.int .i64 0, .int .i64 0] 31)).alloc (.cells #[.int .i64 0, .int .i64 0] 31)) x0
  have x1_3 : (((w.alloc (.cells #[.int .i64 0, .int .i64 0] 31)).alloc (.cells #[.int .i64 0, .int .i64 0] 31)).alloc (.cells #[.int .i64 0, .int .i64 0] 31)).cell? ⟨b, off + i * 2 + 1, none⟩ = some (.int .i64 p2) := Keep.cell ((((Keep.refl w).alloc (.cells #[.int .i64 0, .int .i64 0] 31)).alloc (.cells #[.int .i64 0, .int .i64 0] 31)).alloc (.cells #[.int .i64 0, .int .i64 0] 31)) x1
  have y0_3 : (((w.alloc (.cells #[.int .i64 0, .int .i64 0] 31)).alloc (.cells #[.int .i64 0, .int .i64 0] 31)).alloc (.cells #[.int .i64 0, .int .i64 0] 31)).cell? ⟨b, off + j * 2, none⟩ = some (.int .i64 q1) := Keep.cell ((((Keep.refl w).alloc (.cells #[.int .i64 0, .int .i64 0] 31)).alloc (.cells #[.int .i64 0, .int .i64 0] 31)).alloc (.cells #[.int .i64 0, .int .i64 0] 31)) y0
  have y1_3 : (((w.alloc (.cells #[.int .i64 0, .int .i64 0] 31)).alloc (.cells #[.int .i64 0, .int .i64 0] 31)).alloc (.cells #[.int .i64 0, .int .i64 0] 31)).cell? ⟨b, off + j * 2 + 1, none⟩ = some (.int .i64 q2) := Keep.cell ((((Keep.refl w).alloc (.cells #[.int .i64 0, .int .i64 0] 31)).alloc (.cells #[.int .i64 0, .int .i64 0] 31)).alloc (.cells #[.int .i64 0, .int .i64 0] 31)) y1
  have hn0 : b ≠ w.heap.size := by omega
  have hn1 : b ≠ w.heap.size + 1 := by omega
  have hn2 : b ≠ w.heap.size + 1 + 1 := by omega
  have hm0 : w.heap.size ≠ b := by omega
  have hm1 : w.heap.size + 1 ≠ b := by omega
  have hm2 : w.heap.size + 1 + 1 ≠ b := by omega
  have y0_a : ((w.alloc (.cells #[.int .i64 0, .int .i64 0] 31)).alloc (.cells #[.int .i64 p1, .int .i64 p2] 31)).cell? ⟨b, off + j * 2, none⟩ = some (.int .i64 q1) := Keep.cell (((Keep.refl w).alloc (.cells #[.int .i64 0, .int .i64 0] 31)).alloc (.cells #[.int .i64 p1, .int .i64 p2] 31)) y0
  have y1_a : ((w.alloc (.cells #[.int .i64 0, .int .i64 0] 31)).alloc (.cells #[.int .i64 p1, .int .i64 p2] 31)).cell? ⟨b, off + j * 2 + 1, none⟩ = some (.int .i64 q2) := Keep.cell (((Keep.refl w).alloc (.cells #[.int .i64 0, .int .i64 0] 31)).alloc (.cells #[.int .i64 p1, .int .i64 p2] 31)) y1
  have y0_b : (((w.alloc (.cells #[.int .i64 0, .int .i64 0] 31)).alloc (.cells #[.int .i64 p1, .int .i64 p2] 31)).alloc (.cells #[.int .i64 0, .int .i64 0] 31)).cell? ⟨b, off + j * 2, none⟩ = some (.int .i64 q1) := Keep.cell ((((Keep.refl w).alloc (.cells #[.int .i64 0, .int .i64 0] 31)).alloc (.cells #[.int .i64 p1, .int .i64 p2] 31)).alloc (.cells #[.int .i64 0, .int .i64 0] 31)) y0
  have y1_b : (((w.alloc (.cells #[.int .i64 0, .int .i64 0] 31)).alloc (.cells #[.int .i64 p1, .int .i64 p2] 31)).alloc (.cells #[.int .i64 0, .int .i64 0] 31)).cell? ⟨b, off + j * 2 + 1, none⟩ = some (.int .i64 q2) := Keep.cell ((((Keep.refl w).alloc (.cells #[.int .i64 0, .int .i64 0] 31)).alloc (.cells #[.int .i64 p1, .int .i64 p2] 31)).alloc (.cells #[.int .i64 0, .int .i64 0] 31)) y1
  have y0_c : (((w.alloc (.cells #[.int .i64 0, .int .i64 0] 31)).alloc (.cells #[.int .i64 0, .int .i64 0] 31)).alloc (.cells #[.int .i64 p1, .int .i64 p2] 31)).cell? ⟨b, off + j * 2, none⟩ = some (.int .i64 q1) := Keep.cell ((((Keep.refl w).alloc (.cells #[.int .i64 0, .int .i64 0] 31)).alloc (.cells #[.int .i64 0, .int .i64 0] 31)).alloc (.cells #[.int .i64 p1, .int .i64 p2] 31)) y0
  have y1_c : (((w.alloc (.cells #[.int .i64 0, .int .i64 0] 31)).alloc (.cells #[.int .i64 0, .int .i64 0] 31)).alloc (.cells #[.int .i64 p1, .int .i64 p2] 31)).cell? ⟨b, off + j * 2 + 1, none⟩ = some (.int .i64 q2) := Keep.cell ((((Keep.refl w).alloc (.cells #[.int .i64 0, .int .i64 0] 31)).alloc (.cells #[.int .i64 0, .int .i64 0] 31)).alloc (.cells #[.int .i64 p1, .int .i64 p2] 31)) y1
  go_region_law (fail)
  all_goals
    clear x0_1 x1_1 y0_1 y1_1 x0_2 x1_2 y0_2 y1_2 x0_3 x1_3 y0_3 y1_3 y0_a y1_a y0_b y1_b y0_c y1_c hn0 hn1 hn2 hm0 hm1 hm2 x0 x1 y0 y1 d0 d1 d2 d3 d4
    first
    | refine @abs_worldA (fun wq => Exit.then _ _ Exit.normal _ wq) (((w.alloc (.cells #[.int .i64 0, .int .i64 0] 31)).alloc (.cells #[.int .i64 p1, .int .i64 p2] 31)).alloc (.cells #[.int .i64 q1, .int .i64 q2] 31)).drew (fun wq => (wq.cell? ⟨w.heap.size + 1, 0, none⟩ = some (.int .i64 p1) ∧ wq.cell? ⟨w.heap.size + 1, 1, none⟩ = some (.int .i64 p2) ∧ wq.cell? ⟨w.heap.size + 1 + 1, 0, none⟩ = some (.int .i64 q1) ∧ wq.cell? ⟨w.heap.size + 1 + 1, 1, none⟩ = some (.int .i64 q2) ∧ (wq.cell? ⟨w.heap.size, 0, none⟩ = some (.int .i64 0) ∧ wq.cell? ⟨w.heap.size, 1, none⟩ = some (.int .i64 0)) ∧ (wq.frozen? ⟨w.heap.size, 0, none⟩ = false ∧ wq.frozen? ⟨w.heap.size, 1, none⟩ = false) ∧ Keep w wq)) ⟨by go_simp, by go_simp, by go_simp, by go_simp, ⟨by go_simp, by go_simp⟩, ⟨by go_simp, by go_simp⟩, ((((Keep.refl w).alloc (.cells #[.int .i64 0, .int .i64 0] 31)).alloc (.cells #[.int .i64 p1, .int .i64 p2] 31)).alloc (.cells #[.int .i64 q1, .int .i64 q2] 31)).drew⟩ ?_
    | refine @abs_worldA (fun wq => Exit.then _ _ Exit.normal _ wq) (((w.alloc (.cells #[.int .i64 0, .int .i64 0] 31)).alloc (.cells #[.int .i64 q1, .int .i64 q2] 31)).alloc (.cells #[.int .i64 p1, .int .i64 p2] 31)).drew (fun wq => (wq.cell? ⟨w.heap.size + 1 + 1, 0, none⟩ = some (.int .i64 p1) ∧ wq.cell? ⟨w.heap.size + 1 + 1, 1, none⟩ = some (.int .i64 p2) ∧ wq.cell? ⟨w.heap.size + 1, 0, none⟩ = some (.int .i64 q1) ∧ wq.cell? ⟨w.heap.size + 1, 1, none⟩ = some (.int .i64 q2) ∧ (wq.cell? ⟨w.heap.size, 0, none⟩ = some (.int .i64 0) ∧ wq.cell? ⟨w.heap.size, 1, none⟩ = some (.int .i64 0)) ∧ (wq.frozen? ⟨w.heap.size, 0, none⟩ = false ∧ wq.frozen? ⟨w.heap.size, 1, none⟩ = false) ∧ Keep w wq)) ⟨by go_simp, by go_simp, by go_simp, by go_simp, ⟨by go_simp, by go_simp⟩, ⟨by go_simp, by go_simp⟩, ((((Keep.refl w).alloc (.cells #[.int .i64 0, .int .i64 0] 31)).alloc (.cells #[.int .i64 q1, .int .i64 q2] 31)).alloc (.cells #[.int .i64 p1, .int .i64 p2] 31)).drew⟩ ?_
    rintro W ⟨s0, s1, r0, r1, ⟨n0, n1⟩, ⟨m0, m1⟩, kW⟩
    go_wp2_with fail
    refine (inl_any p1 p2 _).mono ?_
    rintro e w4 ⟨rfl, k4⟩
    have k4' := kW.trans k4
    have S0 := k4.cell s0
    have S1 := k4.cell s1
    have R0 := k4.cell r0
    have R1 := k4.cell r1
    have N0 := k4.cell n0
    have N1 := k4.cell n1
    have M0 := k4.still n0 m0
    have M1 := k4.still n1 m1
    clear s0 s1 r0 r1 n0 n1 m0 m1 kW k4
    rcases Bool.eq_false_or_eq_true (smOk (p1, p2)) with hp | hp
    case' inr =>
      have e := hB.out hp
      rw [hp]
      go_wp2
      refine bodyPost_ret (v := .tuple #[.agg #[.int .i64 0, .int .i64 0], .bool false]) (by simp [results, Tryd.results32, go_sem, *]) rfl ⟨by rw [hV0.out e, e], (k4'.setCell (Nat.le_refl _) _).setCell (Nat.le_refl _) _⟩
    rw [hp]
    go_wp2_with fail
    refine (inl_any q1 q2 _).mono ?_
    rintro e w5 ⟨rfl, k5⟩
    have k5' := k4'.trans k5
    have s0 := k5.cell S0
    have s1 := k5.cell S1
    have r0 := k5.cell R0
    have r1 := k5.cell R1
    have n0 := k5.cell N0
    have n1 := k5.cell N1
    have m0 := k5.still N0 M0
    have m1 := k5.still N1 M1
    clear S0 S1 R0 R1 N0 N1 M0 M1 k4' k5
    rcases Bool.eq_false_or_eq_true (smOk (q1, q2)) with hq | hq
    case' inr =>
      have e := hC.out hq
      rw [hq]
      go_wp2
      refine bodyPost_ret (v := .tuple #[.agg #[.int .i64 0, .int .i64 0], .bool false]) (by simp [results, Tryd.results32, go_sem, *]) rfl ⟨by rw [hV0.out e, e], (k5'.setCell (Nat.le_refl _) _).setCell (Nat.le_refl _) _⟩
    have e := hA.out hp hq
    obtain ⟨⟨a1, a2⟩, a3, a4⟩ := smOk_facts hp
    obtain ⟨⟨b1, b2⟩, b3, b4⟩ := smOk_facts hq
    dsimp only at a1 a2 a3 a4 b1 b2 b3 b4
    have pw1 : IntKind.i64.wrap (q1 - p1) = q1 - p1 := IntWalk.i64_in _ ⟨by omega, by omega⟩
    have pw2 : IntKind.i64.wrap (q2 - p2) = q2 - p2 := IntWalk.i64_in _ ⟨by omega, by omega⟩
    rw [hq]
    go_wp2
    refine bodyPost_ret (v := .tuple #[.agg #[.int .i64 (q1 - p1), .int .i64 (q2 - p2)], .bool true]) (by simp [results, Tryd.results32, go_sem, *]) rfl ⟨by rw [hV.out e, e], (k5'.setCell (Nat.le_refl _) _).setCell (Nat.le_refl _) _⟩
end Go.Proofs.YtohoeonfoolpdaaDoor
namespace Go.Proofs.YtohoeonfoolpdaaDoor
open Go.RowKit
set_option linter.unusedVariables false

def MthPost (zs : List Int) (f c : Int) (w : World) (e : Ending) (w' : World) : Prop :=
  ∃ (a : Option Addr) (cp : Nat), e = .returned (.tuple #[.slice a (mthL zs f c).length cp, .bool (mthOk zs f c)]) ∧ (mthL zs f c).length ≤ cp ∧ FrR w w' a (mthL zs f c) ∧ Keep w w'
theorem mth_no {zs : List Int} {f c : Int} {w w' : World} {a : Option Addr} {cp : Nat} (h : mthOk zs f c = false) (k : Keep w w') : MthPost zs f c w (.returned (.tuple #[.slice a 0 cp, .bool false])) w' :=
  ⟨a, cp, by rw [mthL_no h, h]; rfl, by rw [mthL_no h]; exact Nat.zero_le _, by rw [mthL_no h]; exact .inl rfl, k⟩
theorem Two.blk {RB MB : Nat} {w w' : World} (h : Two RB MB w w') : w.heap.size ≤ w'.heap.size := h.size
set_option maxRecDepth 100000 in
set_option maxHeartbeats 8000000 in
theorem mth_impl (a : Option Addr) (cap : Nat) (zs : List Int) (f c : Int) (w : World) (T : Tabs w) (h : Ls w a zs) (hm : zs.length ≤ 1048576) (hfw : IntKind.i64.wrap f = f) :
    Calls Tryd.prog 8 #[.slice a zs.length cap, .int .i64 f, .int .i64 c] w (MthPost zs f c w) := by
  have HSU0 := Lib.hid (su_impl a cap zs w h hm)
  rcases Bool.eq_false_or_eq_true (sqB zs) with hs | hs
  case' inr =>
    have HN := Lib.hid (mthOk_sq (f := f) (c := c) hs)
    rw [suL_no hs, hs] at HSU0
    clear hs
    go_enter Tryd.func8, Tryd.ntmps8
    go_wp2_with fail
    refine HSU0.out.mono ?_
    rintro e w1 ⟨x1, c1, rfl, _, _, k1⟩
    go_wp2
    go_ret2
    exact mth_no HN.out k1
  obtain ⟨i0, hi, hz0, hz1, hz2⟩ := info_parts infoMon
  have hl := (sq_facts hs).2
  have HSQ := Lib.hid hs
  have HLs := Lib.hid h
  rw [suL_yes hs, hs] at HSU0
  clear hs h
  go_enter Tryd.func8, Tryd.ntmps8
  go_wp2_with fail
  refine HSU0.out.mono ?_
  rintro e w1 ⟨x1, c1, rfl, hc1, hF1, k1⟩
  have HRR := Lib.hid hF1.rr
  have HK1 := Lib.hid k1
  have HT := Lib.hid (T.keep k1)
  have HL1 := Lib.hid (sul_len zs)
  clear HSU0 hF1 T
  go_wp2_with fail
  refine (newRing 2 _ (by omega)).mono ?_
  rintro e w2 ⟨rfl, hR2, k2, hs2⟩
  have hs2' : w1.heap.size ≤ w2.heap.size := k2.size
  obtain ⟨b1, o1, rfl, _, ⟨g0, g1⟩⟩ := (HRR.out.keep k2).at_ (i := 0) (by rw [HL1.out]; omega)
  have e0 : (sul zs).getD 0 u0 = su zs 0 := sul_at (by omega)
  rw [e0, Nat.zero_mul, Nat.add_zero] at g0 g1
  have HS0 : Hid (su zs 0 = ((0 : Int), (0 : Int))) := Lib.hid (su_zero zs)
  rw [HS0.out] at g0 g1
  simp only [uL, uH] at g0 g1
  have HPu := Lib.hid (push_any (w1.heap.size + 1) w1.heap.size 2 0 0 (List.replicate 2 u0) (0, 0) w2 hR2 (by omega) (by omega) (by omega) (by simp))
  obtain ⟨N1, hN1⟩ : ∃ N1, (sul zs).length = N1 := ⟨_, rfl⟩
  have hN0 : 0 < N1 := by rw [← hN1, HL1.out]; omega
  rw [hN1]
  clear hR2 e0
  go_wp2_with fail
  refine HPu.out.mono ?_
  rintro e w3 ⟨rfl, hR3, h23⟩
  have K3 : Keep w1 w3 := h23.keep k2 (by omega) (Nat.le_refl _)
  have h23s := h23.size
  have HR3 := Lib.hid hR3
  rw [show (List.replicate 2 u0).set 0 ((0, 0) : R2) = [(0, 0), u0] from rfl] at HR3
  clear hR3 h23 HPu g0 g1
  rw [← hN1]
  clear hN1 hN0
  go_wp2_with fail
  go_loopw [10, 32] (fun u i wr => ∃ (k n c' : Nat) (ga : Option Addr) (p : Nat) (ss : List R2), k ≤ zs.length ∧ i = .int .i64 k ∧ u = .slice ga n c' ∧ Hid (n = (mthC (mthD f c) zs c zs.length k).length) ∧
      Hid (wr.ownsRow w2.heap.size 33 4 (.slice ga n c') n (flatR (mthC (mthD f c) zs c zs.length k))) ∧ Hid (Ring wr (w1.heap.size + 1) w1.heap.size 2 p ss) ∧
      Hid (1 ≤ p ∧ p ≤ k + 1 ∧ ss.getD ((p - 1) % 2) u0 = su zs (mthB (mthD f c) c zs.length k)) ∧ Keep w1 wr ∧ w2.heap.size ≤ wr.heap.size ∧ Hid (∀ j, j < k → ∃ y m d, dv y m d c = true ∧ dn y m d c = f + (j : Int))) (fun _ i _ => zs.length - (RowKit.intOf i).toNat)
  case atStart => exact ⟨0, 0, 0, none, 1, _, by omega, rfl, rfl, Lib.hid rfl, Lib.hid (World.ownsRow_nil _ _ _ _), HR3, Lib.hid ⟨by omega, by omega, by rw [mthB, HS0.out]; rfl⟩, K3, h23s, Lib.hid (fun j hj => absurd hj (by omega))⟩
  case round =>
    clear HR3 K3 HS0
    obtain ⟨k, n, c', ga, p, ss, hk, rfl, rfl, HLN, HOW, HRG, HPP, hK, hszr, HDT⟩ := hrel
    have hsz := hK.size
    have hln := mthC_len (mthD f c) zs c zs.length k
    by_cases hlt : k < zs.length
    · have hfk : IntKind.i64.wrap (f + (k : Int)) = f + (k : Int) := by
        by_cases k0 : k = 0
        · subst k0; simpa using hfw
        · obtain ⟨y, m, d, h1, h2⟩ := HDT.out 0 (by omega)
          have hb := dn_bd h1
          exact IntWalk.i64_in _ (by omega)
      rcases Bool.eq_false_or_eq_true (dayOk (f + (k : Int)) c) with hd | hd
      case' inr =>
        have HNO := Lib.hid (mthOk_bad (zs := zs) hlt hd)
        have HDO := Lib.hid (dateof_impl_no (f + (k : Int)) c wr (HT.out.keep hK) hd)
        clear hd
        go_wp2_with fail
        refine HDO.out.mono ?_
        rintro e w4 ⟨rfl, k4⟩
        go_wp2
        go_ret2
        exact mth_no HNO.out (((HK1.out.trans hK).trans k4).alloc _)
      have HDO := Lib.hid (dateof_impl_yes (f + (k : Int)) c wr (HT.out.keep hK) hd)
      go_wp2_with fail
      refine HDO.out.mono ?_
      rintro e w4 ⟨y, m, d, rfl, hdv, hdn, k4⟩
      obtain ⟨hcO, y1, y2, m1, m2, dd1, dd2⟩ := dv_facts hdv
      have HDK : Hid (mthD f c k = (y, m, d)) := Lib.hid (dOf_of hdv hdn)
      have HDN : Hid (∀ j, j < k + 1 → ∃ y m d, dv y m d c = true ∧ dn y m d c = f + (j : Int)) := Lib.hid (fun j hj => by
        by_cases e : j < k
        · exact HDT.out j e
        · obtain rfl : j = k := by omega
          exact ⟨y, m, d, hdv, hdn⟩)
      have HE : Hid (mthE (mthD f c) c zs.length k = (decide (k + 1 = zs.length) || decide (d = mlen y m c))) := Lib.hid (by rw [mthE, HDK.out])
      have HCy : Hid (mthE (mthD f c) c zs.length k = true → mthC (mthD f c) zs c zs.length (k + 1) = mthC (mthD f c) zs c zs.length k ++ [(y, m, (su zs (k + 1)).1 - (su zs (mthB (mthD f c) c zs.length k)).1, (su zs (k + 1)).2 - (su zs (mthB (mthD f c) c zs.length k)).2)]) := Lib.hid (fun h9 => by rw [mthC, if_pos h9, mthR, HDK.out])
      have HBy : Hid (mthE (mthD f c) c zs.length k = true → mthB (mthD f c) c zs.length (k + 1) = k + 1) := Lib.hid (fun h9 => by rw [mthB, if_pos h9])
      have HCn : Hid (mthE (mthD f c) c zs.length k = false → mthC (mthD f c) zs c zs.length (k + 1) = mthC (mthD f c) zs c zs.length k ∧ mthB (mthD f c) c zs.length (k + 1) = mthB (mthD f c) c zs.length k) := Lib.hid (fun h9 => ⟨by rw [mthC, if_neg (by rw [h9]; decide)], by rw [mthB, if_neg (by rw [h9]; decide)]⟩)
      have KD : Keep w1 (w4.alloc (.cells #[.int .i64 y, .int .i64 m, .int .i64 d] 38)) := (hK.trans k4).alloc _
      have HOD := Lib.hid ((own_keepM HOW.out k4).alloc (.cells #[.int .i64 y, .int .i64 m, .int .i64 d] 38))
      have HRD := Lib.hid ((HRG.out.keep k4).keep ((Keep.refl w4).alloc (.cells #[.int .i64 y, .int .i64 m, .int .i64 d] 38)))
      have d0 : (w4.alloc (.cells #[.int .i64 y, .int .i64 m, .int .i64 d] 38)).cell? ⟨w4.heap.size, 0, none⟩ = some (.int .i64 y) := World.cell?_alloc_new w4 _ _ 0
      have d1 : (w4.alloc (.cells #[.int .i64 y, .int .i64 m, .int .i64 d] 38)).cell? ⟨w4.heap.size, 1, none⟩ = some (.int .i64 m) := World.cell?_alloc_new w4 _ _ 1
      have d2 : (w4.alloc (.cells #[.int .i64 y, .int .i64 m, .int .i64 d] 38)).cell? ⟨w4.heap.size, 2, none⟩ = some (.int .i64 d) := World.cell?_alloc_new w4 _ _ 2
      have T13 : Hid (∀ n, Tabs ((w4.alloc (.cells #[.int .i64 y, .int .i64 m, .int .i64 d] 38)).drewN n)) := Lib.hid (fun n => ((HT.out.keep KD).drewN n))
      have hlw : IntKind.i64.wrap ((zs.length : Int) - 1) = (zs.length : Int) - 1 := IntWalk.i64_in _ (by omega)
      have hyk : yOk y = true := by simp [yOk, inB]; omega
      have HLK : Hid (k + 1 ≤ zs.length) := Lib.hid hlt
      clear hdv hdn hd HDO dd1 dd2 y1 y2
      by_cases hlast : k + 1 = zs.length
      · have hb1 : ((k : Int) == (zs.length : Int) - 1) = true := by simp; omega
        have HLA := Lib.hid hlast
        clear hlast
        go_wp2_with fail
        go_quiet (fail)
        have KQ : Keep (w4.alloc (.cells #[.int .i64 y, .int .i64 m, .int .i64 d] 38)) ((w4.alloc (.cells #[.int .i64 y, .int .i64 m, .int .i64 d] 38)).drewN nq) := (Keep.refl _).drewN nq
        replace d0 := KQ.cell d0
        replace d1 := KQ.cell d1
        replace HOD := Lib.hid (own_keepM HOD.out KQ)
        replace HRD := Lib.hid (HRD.out.keep KQ)
        replace KD := KD.trans KQ
        have hszD : w2.heap.size ≤ ((w4.alloc (.cells #[.int .i64 y, .int .i64 m, .int .i64 d] 38)).drewN nq).heap.size := by have h8 := KQ.size; have h9 := k4.size; simp at h8 h9 ⊢; omega
        have hD1 : w4.heap.size ≠ w1.heap.size + 1 := by have h9 := k4.size; omega
        have hD2 : w4.heap.size ≠ w1.heap.size := by have h9 := k4.size; omega
        clear KQ d2
        generalize (w4.alloc (.cells #[.int .i64 y, .int .i64 m, .int .i64 d] 38)).drewN nq = W5 at *
        have HC1 := Lib.hid (HCy.out (by rw [HE.out]; simp [HLA.out]))
        have HB1 := Lib.hid (HBy.out (by rw [HE.out]; simp [HLA.out]))
        obtain ⟨j, hj⟩ : ∃ j, Hid (k + 1 = j) := ⟨_, Lib.hid rfl⟩
        obtain ⟨b2, o2, ho2, _, g0, g1⟩ := (HRR.out.keep KD).at_ (i := j) (by rw [HL1.out, ← hj.out]; omega)
        obtain ⟨rfl, rfl⟩ : b2 = b1 ∧ o2 = o1 := by simp only [Option.some.injEq, Addr.mk.injEq] at ho2; exact ⟨ho2.1.symm, ho2.2.1.symm⟩
        clear ho2
        have eS : (sul zs).getD j u0 = su zs (k + 1) := (sul_at (zs := zs) (show j ≤ zs.length by rw [← hj.out]; omega)).trans (by rw [← hj.out])
        rw [eS] at g0 g1
        clear eS
        obtain ⟨⟨q0, q1⟩, q2, q3⟩ := su_bd HSQ.out (k := k + 1) (by omega)
        obtain ⟨⟨r0, r1⟩, r2, r3⟩ := su_bd HSQ.out (k := mthB (mthD f c) c zs.length k) (by have := mthB_le (mthD f c) c zs.length k; omega)
        obtain ⟨st1, sn1, HSU⟩ : ∃ st1 sn1, Hid (su zs (k + 1) = (st1, sn1)) := ⟨_, _, Lib.hid rfl⟩
        obtain ⟨t0, n0, HSB0⟩ : ∃ t0 n0, Hid (su zs (mthB (mthD f c) c zs.length k) = (t0, n0)) := ⟨_, _, Lib.hid rfl⟩
        obtain ⟨st, hst⟩ : ∃ st, st = st1 - t0 := ⟨_, rfl⟩
        obtain ⟨sn, hsn⟩ : ∃ sn, sn = sn1 - n0 := ⟨_, rfl⟩
        rw [HSU.out] at g0 g1 q0 q1 q2 q3
        rw [HSB0.out] at r0 r1 r2 r3
        simp only [uL, uH] at g0 g1
        dsimp only at q0 q1 q2 q3 r0 r1 r2 r3
        rw [HSU.out, HSB0.out] at HC1
        dsimp only at HC1
        rw [← hst, ← hsn] at HC1
        have HSV : Hid (sbV [(t0, n0), (st1, sn1)] 0 1 = (st, sn)) := Lib.hid (by
          have hb : sbB [(t0, n0), (st1, sn1)] 0 1 = true := sbB_mk (by simp) (by simp) (smOk_mk (by simp; omega)) (smOk_mk (by simp; omega))
          rw [sbV_yes hb, hst, hsn]; rfl)
        have hp1 := HPP.out.1
        have hp2 := HPP.out.2.1
        have HR2 := Lib.hid (ring2 (s' := (st1, sn1)) HRD.out.ln hp1 rfl (HPP.out.2.2.trans HSB0.out))
        have HPush := Lib.hid (fun W (hk : Keep W5 W) => push_any (w1.heap.size + 1) w1.heap.size 2 p (p % 2) ss (st1, sn1) W (HRD.out.keep hk) (by omega) (by omega) (by omega) rfl)
        have j0 : (0 : Int) ≤ (j : Int) := by omega
        have j1 : (j : Int) < ((sul zs).length : Int) := by rw [HL1.out, ← hj.out]; omega
        have j2 : j < (sul zs).length := by rw [HL1.out, ← hj.out]; omega
        have jw : IntKind.i64.wrap ((k : Int) + 1) = (j : Int) := by rw [show (k : Int) + 1 = (j : Int) by rw [← hj.out]; omega]; exact IntWalk.i64_in _ (by rw [← hj.out]; omega)
        clear HCy HBy HCn HE HRD q0 q1 q2 q3 r0 r1 r2 r3 hst hsn HOW HRG
        go_wp2_with fail
        refine (HPush.out _ (Keep.refl _)).mono ?_
        rintro e w6 ⟨rfl, hR6, h26⟩
        have K6 : Keep w1 w6 := h26.keep KD (by omega) (by omega)
        have s26 := h26.size
        have hlen : n ≤ 12 := by rw [HLN.out]; omega
        have HO6 := Lib.hid (own_two HOD.out h26 (by omega) (by omega))
        obtain ⟨E1, E2⟩ := HR2.out
        have HKp := Lib.hid (kept_any (w1.heap.size + 1) w1.heap.size 2 (p + 1) _ w6 hR6 (by omega) (by omega) (by omega))
        rw [E1] at HKp
        have e0 := h26.cell d0 hD1 hD2
        have e1 := h26.cell d1 hD1 hD2
        have HR6 := Lib.hid hR6
        clear hR6 h26
        go_wp2_with fail
        refine HKp.out.mono ?_
        rintro e w7 ⟨x7, c7, rfl, hc7, hF7, k7⟩
        have HSB := Lib.hid (sb_impl x7 c7 _ 0 1 w7 hF7.rr (by simp) (by omega) (by omega) (by omega) (by omega))
        rw [HSV.out] at HSB
        clear HKp hF7
        go_wp2_with fail
        refine HSB.out.mono ?_
        rintro e w8 ⟨rfl, k8⟩
        have k68 := k7.trans k8
        have f0 := k68.cell e0
        have f1 := k68.cell e1
        have K8 : Keep w1 w8 := K6.trans k68
        have HO8 := Lib.hid (own_keepM HO6.out k68)
        have HR8 := Lib.hid (HR6.out.keep k68)
        have s8 := K8.size
        have s68 := k68.size
        have hw28 : w2.heap.size ≤ w8.heap.size := by omega
        clear k7 k8 k68 HO6 HR6 e0 e1 HSB
        have hl48 : w4.heap.size < w8.heap.size := by have h9 := World.block_lt_of_cell? w8 _ f0; simpa using h9
        have hn48 : w4.heap.size ≠ w8.heap.size := by omega
        have hown := HO8.out.alloc (.cells #[.int .i64 st, .int .i64 sn] 31)
        go_wp2_with (at_builtin; go_loud (refine wpList_append_own _ rfl _ _ 26 rfl w2.heap.size 33 i0 (.agg #[.int .i64 0, .int .i64 0, .int .i64 0, .int .i64 0]) 4 32 Tryd.underlying26 hi hz0 hz1 hz2 rfl (by decide) _ _ _ rfl (hown.alloc _) ⟨w8.heap.size + 1, 0, none⟩ 1 1 (rc (y, m, st, sn)) rfl rfl ?c1a ?c2a ?c3a ?c4a ?c5a ?_))
        case c1a =>
          have h9 := newsM (w8.alloc (.cells #[.int .i64 st, .int .i64 sn] 31)) (s := y) (d := m) (k := st) (v := sn)
          simpa using h9
        case c2a => exact rc_one _
        case c3a => unfold maxLen; omega
        case c4a => omega
        case c5a => first | omega | (simp; omega)
        intro v' w9 hown' hgrow hnil
        obtain ⟨g', c', rfl, hbg, hlg⟩ := hown'.form (by omega)
        have KA : Keep w1 ((w8.alloc (.cells #[.int .i64 st, .int .i64 sn] 31)).alloc (.cells #[.int .i64 y, .int .i64 m, .int .i64 st, .int .i64 sn] 33)) := (K8.alloc _).alloc _
        have HN : Hid (w9.ownsRow w2.heap.size 33 4 (.slice (some ⟨g', 0, none⟩) (n + 1) c') (n + 1) (flatR (mthC (mthD f c) zs c zs.length (k + 1)))) := Lib.hid (by rw [HC1.out, flatR_app, flatR_one]; exact hown')
        have HN2 : Hid (n + 1 = (mthC (mthD f c) zs c zs.length (k + 1)).length) := Lib.hid (by rw [HC1.out, List.length_append, ← HLN.out]; rfl)
        have HS9 : Hid (w2.heap.size ≤ w9.heap.size) := Lib.hid (by have h9 := hgrow.size; simp at h9; omega)
        have HK9 : Hid (Keep w1 w9) := Lib.hid (Below.grown KA hgrow KA.size (fun q hq => Nat.le_trans hs2' ((HO8.out.lt q hq).1)))
        have HB9 : Hid (Below w2.heap.size w8 w9) := Lib.hid (Below.grown (B := w2.heap.size) ((((Below.refl w2.heap.size w8).alloc (by omega) _).alloc (by simp; omega) _)) hgrow (by simp; omega) (fun q hq => (HO8.out.lt q hq).1))
        have HR9 := Lib.hid (HR8.out.below HB9.out (by omega) (by omega))
        have HP9 : Hid (1 ≤ p + 1 ∧ p + 1 ≤ k + 1 + 1 ∧ (ss.set (p % 2) (st1, sn1)).getD ((p + 1 - 1) % 2) u0 = su zs (mthB (mthD f c) c zs.length (k + 1))) := Lib.hid ⟨by omega, by omega, by rw [E2, HB1.out, HSU.out]⟩
        clear hown' hgrow hnil hown HB9 HR8 HO8 KA E1 E2
        go_wp2
        go_roundw
        case rel => exact ⟨k + 1, n + 1, c', some ⟨g', 0, none⟩, p + 1, _, HLK.out, by rw [← hj.out], rfl, HN2, HN, HR9, HP9, HK9.out, HS9.out, HDN⟩
        case measure => have h9 := HLK.out; have h8 := hj.out; simp [RowKit.intOf]; omega
      have hb1 : ((k : Int) == (zs.length : Int) - 1) = false := by simp; omega
      have hb2 : ¬ (k : Int) = (zs.length : Int) - 1 := by omega
      obtain ⟨ml, hml⟩ : ∃ ml, mlen y m c = ml := ⟨_, rfl⟩
      have HML := Lib.hid (fun n => mon_impl y m c _ (T13.out n) hcO hyk m1 m2)
      rw [hml] at HML HE
      clear hml
      by_cases hmd : d = ml
      · have hd1 : (d == ml) = true := beq_iff_eq.2 hmd
        have HMD := Lib.hid hmd
        clear hmd
        go_wp2_with fail
        go_quiet ((go_at_call 31; exact quietS (HML.out _)))
        have KQ : Keep (w4.alloc (.cells #[.int .i64 y, .int .i64 m, .int .i64 d] 38)) ((w4.alloc (.cells #[.int .i64 y, .int .i64 m, .int .i64 d] 38)).drewN nq) := (Keep.refl _).drewN nq
        replace d0 := KQ.cell d0
        replace d1 := KQ.cell d1
        replace HOD := Lib.hid (own_keepM HOD.out KQ)
        replace HRD := Lib.hid (HRD.out.keep KQ)
        replace KD := KD.trans KQ
        have hszD : w2.heap.size ≤ ((w4.alloc (.cells #[.int .i64 y, .int .i64 m, .int .i64 d] 38)).drewN nq).heap.size := by have h8 := KQ.size; have h9 := k4.size; simp at h8 h9 ⊢; omega
        have hD1 : w4.heap.size ≠ w1.heap.size + 1 := by have h9 := k4.size; omega
        have hD2 : w4.heap.size ≠ w1.heap.size := by have h9 := k4.size; omega
        clear KQ d2
        generalize (w4.alloc (.cells #[.int .i64 y, .int .i64 m, .int .i64 d] 38)).drewN nq = W5 at *
        have HC1 := Lib.hid (HCy.out (by rw [HE.out]; simp [HMD.out]))
        have HB1 := Lib.hid (HBy.out (by rw [HE.out]; simp [HMD.out]))
        obtain ⟨j, hj⟩ : ∃ j, Hid (k + 1 = j) := ⟨_, Lib.hid rfl⟩
        obtain ⟨b2, o2, ho2, _, g0, g1⟩ := (HRR.out.keep KD).at_ (i := j) (by rw [HL1.out, ← hj.out]; omega)
        obtain ⟨rfl, rfl⟩ : b2 = b1 ∧ o2 = o1 := by simp only [Option.some.injEq, Addr.mk.injEq] at ho2; exact ⟨ho2.1.symm, ho2.2.1.symm⟩
        clear ho2
        have eS : (sul zs).getD j u0 = su zs (k + 1) := (sul_at (zs := zs) (show j ≤ zs.length by rw [← hj.out]; omega)).trans (by rw [← hj.out])
        rw [eS] at g0 g1
        clear eS
        obtain ⟨⟨q0, q1⟩, q2, q3⟩ := su_bd HSQ.out (k := k + 1) (by omega)
        obtain ⟨⟨r0, r1⟩, r2, r3⟩ := su_bd HSQ.out (k := mthB (mthD f c) c zs.length k) (by have := mthB_le (mthD f c) c zs.length k; omega)
        obtain ⟨st1, sn1, HSU⟩ : ∃ st1 sn1, Hid (su zs (k + 1) = (st1, sn1)) := ⟨_, _, Lib.hid rfl⟩
        obtain ⟨t0, n0, HSB0⟩ : ∃ t0 n0, Hid (su zs (mthB (mthD f c) c zs.length k) = (t0, n0)) := ⟨_, _, Lib.hid rfl⟩
        obtain ⟨st, hst⟩ : ∃ st, st = st1 - t0 := ⟨_, rfl⟩
        obtain ⟨sn, hsn⟩ : ∃ sn, sn = sn1 - n0 := ⟨_, rfl⟩
        rw [HSU.out] at g0 g1 q0 q1 q2 q3
        rw [HSB0.out] at r0 r1 r2 r3
        simp only [uL, uH] at g0 g1
        dsimp only at q0 q1 q2 q3 r0 r1 r2 r3
        rw [HSU.out, HSB0.out] at HC1
        dsimp only at HC1
        rw [← hst, ← hsn] at HC1
        have HSV : Hid (sbV [(t0, n0), (st1, sn1)] 0 1 = (st, sn)) := Lib.hid (by
          have hb : sbB [(t0, n0), (st1, sn1)] 0 1 = true := sbB_mk (by simp) (by simp) (smOk_mk (by simp; omega)) (smOk_mk (by simp; omega))
          rw [sbV_yes hb, hst, hsn]; rfl)
        have hp1 := HPP.out.1
        have hp2 := HPP.out.2.1
        have HR2 := Lib.hid (ring2 (s' := (st1, sn1)) HRD.out.ln hp1 rfl (HPP.out.2.2.trans HSB0.out))
        have HPush := Lib.hid (fun W (hk : Keep W5 W) => push_any (w1.heap.size + 1) w1.heap.size 2 p (p % 2) ss (st1, sn1) W (HRD.out.keep hk) (by omega) (by omega) (by omega) rfl)
        have j0 : (0 : Int) ≤ (j : Int) := by omega
        have j1 : (j : Int) < ((sul zs).length : Int) := by rw [HL1.out, ← hj.out]; omega
        have j2 : j < (sul zs).length := by rw [HL1.out, ← hj.out]; omega
        have jw : IntKind.i64.wrap ((k : Int) + 1) = (j : Int) := by rw [show (k : Int) + 1 = (j : Int) by rw [← hj.out]; omega]; exact IntWalk.i64_in _ (by rw [← hj.out]; omega)
        clear HCy HBy HCn HE HRD q0 q1 q2 q3 r0 r1 r2 r3 hst hsn HOW HRG
        go_wp2_with fail
        refine (HPush.out _ (Keep.refl _)).mono ?_
        rintro e w6 ⟨rfl, hR6, h26⟩
        have K6 : Keep w1 w6 := h26.keep KD (by omega) (by omega)
        have s26 := h26.size
        have hlen : n ≤ 12 := by rw [HLN.out]; omega
        have HO6 := Lib.hid (own_two HOD.out h26 (by omega) (by omega))
        obtain ⟨E1, E2⟩ := HR2.out
        have HKp := Lib.hid (kept_any (w1.heap.size + 1) w1.heap.size 2 (p + 1) _ w6 hR6 (by omega) (by omega) (by omega))
        rw [E1] at HKp
        have e0 := h26.cell d0 hD1 hD2
        have e1 := h26.cell d1 hD1 hD2
        have HR6 := Lib.hid hR6
        clear hR6 h26
        go_wp2_with fail
        refine HKp.out.mono ?_
        rintro e w7 ⟨x7, c7, rfl, hc7, hF7, k7⟩
        have HSB := Lib.hid (sb_impl x7 c7 _ 0 1 w7 hF7.rr (by simp) (by omega) (by omega) (by omega) (by omega))
        rw [HSV.out] at HSB
        clear HKp hF7
        go_wp2_with fail
        refine HSB.out.mono ?_
        rintro e w8 ⟨rfl, k8⟩
        have k68 := k7.trans k8
        have f0 := k68.cell e0
        have f1 := k68.cell e1
        have K8 : Keep w1 w8 := K6.trans k68
        have HO8 := Lib.hid (own_keepM HO6.out k68)
        have HR8 := Lib.hid (HR6.out.keep k68)
        have s8 := K8.size
        have s68 := k68.size
        have hw28 : w2.heap.size ≤ w8.heap.size := by omega
        clear k7 k8 k68 HO6 HR6 e0 e1 HSB
        have hl48 : w4.heap.size < w8.heap.size := by have h9 := World.block_lt_of_cell? w8 _ f0; simpa using h9
        have hn48 : w4.heap.size ≠ w8.heap.size := by omega
        have hown := HO8.out.alloc (.cells #[.int .i64 st, .int .i64 sn] 31)
        go_wp2_with (at_builtin; go_loud (refine wpList_append_own _ rfl _ _ 26 rfl w2.heap.size 33 i0 (.agg #[.int .i64 0, .int .i64 0, .int .i64 0, .int .i64 0]) 4 32 Tryd.underlying26 hi hz0 hz1 hz2 rfl (by decide) _ _ _ rfl (hown.alloc _) ⟨w8.heap.size + 1, 0, none⟩ 1 1 (rc (y, m, st, sn)) rfl rfl ?c1a ?c2a ?c3a ?c4a ?c5a ?_))
        case c1a =>
          have h9 := newsM (w8.alloc (.cells #[.int .i64 st, .int .i64 sn] 31)) (s := y) (d := m) (k := st) (v := sn)
          simpa using h9
        case c2a => exact rc_one _
        case c3a => unfold maxLen; omega
        case c4a => omega
        case c5a => first | omega | (simp; omega)
        intro v' w9 hown' hgrow hnil
        obtain ⟨g', c', rfl, hbg, hlg⟩ := hown'.form (by omega)
        have KA : Keep w1 ((w8.alloc (.cells #[.int .i64 st, .int .i64 sn] 31)).alloc (.cells #[.int .i64 y, .int .i64 m, .int .i64 st, .int .i64 sn] 33)) := (K8.alloc _).alloc _
        have HN : Hid (w9.ownsRow w2.heap.size 33 4 (.slice (some ⟨g', 0, none⟩) (n + 1) c') (n + 1) (flatR (mthC (mthD f c) zs c zs.length (k + 1)))) := Lib.hid (by rw [HC1.out, flatR_app, flatR_one]; exact hown')
        have HN2 : Hid (n + 1 = (mthC (mthD f c) zs c zs.length (k + 1)).length) := Lib.hid (by rw [HC1.out, List.length_append, ← HLN.out]; rfl)
        have HS9 : Hid (w2.heap.size ≤ w9.heap.size) := Lib.hid (by have h9 := hgrow.size; simp at h9; omega)
        have HK9 : Hid (Keep w1 w9) := Lib.hid (Below.grown KA hgrow KA.size (fun q hq => Nat.le_trans hs2' ((HO8.out.lt q hq).1)))
        have HB9 : Hid (Below w2.heap.size w8 w9) := Lib.hid (Below.grown (B := w2.heap.size) ((((Below.refl w2.heap.size w8).alloc (by omega) _).alloc (by simp; omega) _)) hgrow (by simp; omega) (fun q hq => (HO8.out.lt q hq).1))
        have HR9 := Lib.hid (HR8.out.below HB9.out (by omega) (by omega))
        have HP9 : Hid (1 ≤ p + 1 ∧ p + 1 ≤ k + 1 + 1 ∧ (ss.set (p % 2) (st1, sn1)).getD ((p + 1 - 1) % 2) u0 = su zs (mthB (mthD f c) c zs.length (k + 1))) := Lib.hid ⟨by omega, by omega, by rw [E2, HB1.out, HSU.out]⟩
        clear hown' hgrow hnil hown HB9 HR8 HO8 KA E1 E2
        go_wp2
        go_roundw
        case rel => exact ⟨k + 1, n + 1, c', some ⟨g', 0, none⟩, p + 1, _, HLK.out, by rw [← hj.out], rfl, HN2, HN, HR9, HP9, HK9.out, HS9.out, HDN⟩
        case measure => have h9 := HLK.out; have h8 := hj.out; simp [RowKit.intOf]; omega
      · have hd1 : (d == ml) = false := beq_eq_false_iff_ne.2 hmd
        obtain ⟨e1, e2⟩ := HCn.out (by rw [HE.out, decide_eq_false hlast, decide_eq_false hmd]; rfl)
        have HE1 := Lib.hid e1
        have HE2 := Lib.hid e2
        clear e1 e2 HCn HCy HBy HE
        go_wp2_with fail
        go_quiet ((go_at_call 31; exact quietS (HML.out _)))
        have hk4 := k4.size
        go_wp2
        go_roundw
        case rel => exact ⟨k + 1, n, c', ga, p, ss, by omega, by go_num, rfl, Lib.hid (by rw [HE1.out]; exact HLN.out), Lib.hid (by rw [HE1.out]; exact own_keepM HOD.out ((Keep.refl _).drewN _)), Lib.hid (HRD.out.keep ((Keep.refl _).drewN _)), Lib.hid ⟨HPP.out.1, by have := HPP.out.2.1; omega, by rw [HE2.out]; exact HPP.out.2.2⟩, KD.drewN _, by simp; omega, HDN⟩
        case measure => simp [RowKit.intOf]; omega
    · obtain rfl : k = zs.length := by omega
      have HOK : Hid (mthOk zs f c = true) := Lib.hid (mthOk_mk HSQ.out (fun j hj => by
        obtain ⟨y, m, d, h1, h2⟩ := HDT.out j hj
        rw [← h2]; exact dn_ok h1))
      have HML : Hid (mthC (mthD f c) zs c zs.length zs.length = mthL zs f c) := Lib.hid (by
        rw [mthL_yes HOK.out]; exact mth_all (mthD_run HDT.out) (by omega))
      rw [HML.out] at HLN HOW
      have HF := Lib.hid (frR_ownE (w := w) (by have h1 := HOW.out; rw [HLN.out] at h1; exact h1) (Nat.le_trans HK1.out.size hs2'))
      go_wp2
      go_ret2
      exact ⟨ga, c', by rw [HLN.out, HOK.out]; rfl, HF.out.2, HF.out.1, HK1.out.trans hK⟩
end Go.Proofs.YtohoeonfoolpdaaDoor
namespace Go.Proofs.YtohoeonfoolpdaaDoor
open Go.RowKit
set_option linter.unusedVariables false

theorem flat_put (M : List R4) (y m T N T' N' : Int) {q : Nat} (hq : M.length = q) :
    ((flatR (M ++ [(y, m, T, N)])).set (q * 4 + 2) (.int .i64 T')).set (q * 4 + 3) (.int .i64 N') = flatR (M ++ [(y, m, T', N')]) := by
  have hl : (flatR M).length = q * 4 := by rw [flatR_len, hq]
  rw [flatR_app, flatR_app, flatR_one, flatR_one, List.set_append_right _ _ (by omega), List.set_append_right _ _ (by omega), hl]
  rw [show q * 4 + 2 - q * 4 = 2 by omega, show q * 4 + 3 - q * 4 = 3 by omega]
  rfl
theorem sadd_bd {t m x B : Int} (hx : -20000 ≤ x ∧ x ≤ 20000) (ht : -B ≤ t ∧ t ≤ B) (hm : -B ≤ m ∧ m ≤ B) (hB : 0 ≤ B) : (-(B + 20000) ≤ (sadd (t, m) x).1 ∧ (sadd (t, m) x).1 ≤ B + 20000) ∧ (-(B + 20000) ≤ (sadd (t, m) x).2 ∧ (sadd (t, m) x).2 ≤ B + 20000) := by
  unfold sadd; split <;> dsimp only <;> omega
theorem mthN_bd' {zs : List Int} (h : ∀ k, k < zs.length → -20000 ≤ zs.getD k 0 ∧ zs.getD k 0 ≤ 20000) (dt : Nat → Int × Int × Int) : ∀ k, k ≤ zs.length → ∀ r ∈ mthN dt zs k, (-(20000 * (k : Int)) ≤ rK r ∧ rK r ≤ 20000 * (k : Int)) ∧ (-(20000 * (k : Int)) ≤ rV r ∧ rV r ≤ 20000 * (k : Int))
  | 0, _, r, hr => absurd hr (by simp [mthN])
  | k + 1, hk, r, hr => by
    have ih := mthN_bd' h dt k (by omega)
    have hz := h k (by omega)
    have h0 := sadd_bd (t := 0) (m := 0) (B := 20000 * (k : Int)) hz (by omega) (by omega) (by omega)
    rw [mthN, mthPut] at hr
    split at hr
    · obtain rfl := List.mem_singleton.1 hr
      simp only [rK, rV]; omega
    · rename_i q hq
      have hqm : q ∈ mthN dt zs k := List.mem_of_getLast? hq
      have h1 := sadd_bd hz (ih q hqm).1 (ih q hqm).2 (by omega)
      split at hr
      · rcases List.mem_append.1 hr with hr | hr
        · have h2 := ih r (List.dropLast_subset _ hr); omega
        · obtain rfl := List.mem_singleton.1 hr
          simp only [rK, rV] at h1 ⊢; omega
      · rcases List.mem_append.1 hr with hr | hr
        · have h2 := ih r hr; omega
        · obtain rfl := List.mem_singleton.1 hr
          simp only [rK, rV]; omega
theorem mthN_bd {zs : List Int} (h : sqB zs = true) (dt : Nat → Int × Int × Int) (k : Nat) (hk : k ≤ zs.length) (r : R4) (hr : r ∈ mthN dt zs k) : (-2000000 ≤ rK r ∧ rK r ≤ 2000000) ∧ (-2000000 ≤ rV r ∧ rV r ≤ 2000000) := by
  have h1 := mthN_bd' (fun j hj => by have := sq_at h hj; omega) dt k hk r hr
  have := (sq_facts h).2
  omega
theorem mthPut_new {L : List R4} {t : Int × Int × Int} {z : Int} (h : L = [] ∨ ∃ M r, L = M ++ [r] ∧ rD r ≠ t.2.1) : mthPut L t z = L ++ [(t.1, t.2.1, (sadd (0, 0) z).1, (sadd (0, 0) z).2)] := by
  rcases h with rfl | ⟨M, r, rfl, hr⟩
  · rfl
  · rw [mthPut]
    simp [hr]
theorem mthPut_old {M : List R4} {r : R4} {t : Int × Int × Int} {z : Int} (h : rD r = t.2.1) : mthPut (M ++ [r]) t z = M ++ [(rS r, rD r, (sadd (rK r, rV r) z).1, (sadd (rK r, rV r) z).2)] := by
  rw [mthPut]
  simp [h]
set_option maxRecDepth 100000 in
set_option maxHeartbeats 8000000 in
theorem mth_spec (a : Option Addr) (cap : Nat) (zs : List Int) (f c : Int) (w : World) (h : Ls w a zs) (hm : zs.length ≤ 1048576) (hfw : IntKind.i64.wrap f = f) :
    Calls Tryd.prog 9 #[.slice a zs.length cap, .int .i64 f, .int .i64 c] w (MthPost zs f c w) := by
  have HQ0 := Lib.hid (fun W (hk : Keep w W) => sqv_spec a cap zs W (h.keep hk) (by omega))
  rcases Bool.eq_false_or_eq_true (sqB zs) with hs | hs
  case' inr =>
    have HN := Lib.hid (mthOk_sq (f := f) (c := c) hs)
    rw [hs] at HQ0
    clear hs
    go_enter Tryd.func9, Tryd.ntmps9
    go_wp2_with fail
    refine (HQ0.out _ ((Keep.refl w).alloc _)).mono ?_
    rintro e w1 ⟨rfl, k1⟩
    go_wp2
    go_ret2
    exact mth_no HN.out (by rw [← k1]; exact (Keep.refl w).alloc _)
  obtain ⟨i0, hi, hz0, hz1, hz2⟩ := info_parts infoMon
  have hl := (sq_facts hs).2
  have HSQ := Lib.hid hs
  have HLs := Lib.hid h
  rw [hs] at HQ0
  clear hs h
  go_enter Tryd.func9, Tryd.ntmps9
  go_wp2_with fail
  refine (HQ0.out _ ((Keep.refl w).alloc _)).mono ?_
  rintro e w1 ⟨rfl, rfl⟩
  go_wp2_with fail
  go_loopw [8, 9] (fun u i wr => ∃ (k n : Nat) (ga : Option Addr) (c' : Nat), k ≤ zs.length ∧ i = .int .i64 k ∧ u = .slice ga n c' ∧ Hid (n = (mthN (mthD f c) zs k).length) ∧
      Hid (wr.ownsRow w.heap.size 33 4 (.slice ga n c') n (flatR (mthN (mthD f c) zs k))) ∧ Keep w wr ∧ Hid (∀ j, j < k → ∃ y m d, dv y m d c = true ∧ dn y m d c = f + (j : Int))) (fun _ i _ => zs.length - (RowKit.intOf i).toNat)
  case atStart => exact ⟨0, 0, _, _, by omega, rfl, rfl, Lib.hid rfl, Lib.hid (World.ownsRow_made w #[] 0 (Nat.le_refl _) (by unfold maxLen; omega) rfl), (Keep.refl w).alloc _, Lib.hid (fun j hj => absurd hj (by omega))⟩
  case round =>
    clear HQ0
    obtain ⟨k, n, ga, c', hk, rfl, rfl, HLN, HOW, hK, HDT⟩ := hrel
    have hsz := hK.size
    have hln := mthN_len (mthD f c) zs k
    by_cases hlt : k < zs.length
    · have hfk : IntKind.i64.wrap (f + (k : Int)) = f + (k : Int) := by
        by_cases k0 : k = 0
        · subst k0; simpa using hfw
        · obtain ⟨y, m, d, h1, h2⟩ := HDT.out 0 (by omega)
          have hb := dn_bd h1
          exact IntWalk.i64_in _ (by omega)
      rcases Bool.eq_false_or_eq_true (dayOk (f + (k : Int)) c) with hd | hd
      case' inr =>
        have HNO := Lib.hid (mthOk_bad (zs := zs) hlt hd)
        have HDO := Lib.hid (dateof_spec_no (f + (k : Int)) c wr hd)
        clear hd
        go_wp2_with fail
        refine HDO.out.mono ?_
        rintro e w4 ⟨rfl, k4⟩
        go_wp2
        go_ret2
        exact mth_no HNO.out (((hK.trans k4).alloc _).alloc _)
      have HDO := Lib.hid (dateof_spec_yes (f + (k : Int)) c wr hd)
      go_wp2_with fail
      refine HDO.out.mono ?_
      rintro e w4 ⟨y, m, d, rfl, hdv, hdn, k4⟩
      have HDK : Hid (mthD f c k = (y, m, d)) := Lib.hid (dOf_of hdv hdn)
      have HDN : Hid (∀ j, j < k + 1 → ∃ y m d, dv y m d c = true ∧ dn y m d c = f + (j : Int)) := Lib.hid (fun j hj => by
        by_cases e : j < k
        · exact HDT.out j e
        · obtain rfl : j = k := by omega
          exact ⟨y, m, d, hdv, hdn⟩)
      have hzb := sq_at HSQ.out hlt
      obtain ⟨z, HZ⟩ : ∃ z, Hid (zs.getD k 0 = z) := ⟨_, Lib.hid rfl⟩
      rw [HZ.out] at hzb
      have HM0 : Hid (mthN (mthD f c) zs (k + 1) = mthPut (mthN (mthD f c) zs k) (y, m, d) z) := Lib.hid (by rw [mthN, HDK.out, HZ.out])
      have KD : Keep w (w4.alloc (.cells #[.int .i64 y, .int .i64 m, .int .i64 d] 38)) := (hK.trans k4).alloc _
      have HOD := Lib.hid ((own_keepM HOW.out k4).alloc (.cells #[.int .i64 y, .int .i64 m, .int .i64 d] 38))
      have d0 : (w4.alloc (.cells #[.int .i64 y, .int .i64 m, .int .i64 d] 38)).cell? ⟨w4.heap.size, 0, none⟩ = some (.int .i64 y) := World.cell?_alloc_new w4 _ _ 0
      have d1 : (w4.alloc (.cells #[.int .i64 y, .int .i64 m, .int .i64 d] 38)).cell? ⟨w4.heap.size, 1, none⟩ = some (.int .i64 m) := World.cell?_alloc_new w4 _ _ 1
      clear hdv hdn hd HDO HDK HOW
      have hlen : n ≤ 12 := by rw [HLN.out]; omega
      rcases List.eq_nil_or_concat (mthN (mthD f c) zs k) with hnil | ⟨M, r, hcon⟩
      · have hn0 : n = 0 := by rw [HLN.out, hnil]; rfl
        have hn0d : ((n : Int) == 0) = true := by rw [hn0]; rfl
        have HM1 : Hid (∀ T' N', sadd ((0 : Int), (0 : Int)) z = (T', N') → mthN (mthD f c) zs (k + 1) = mthN (mthD f c) zs k ++ [(y, m, T', N')]) := Lib.hid (fun T' N' e => by rw [HM0.out, mthPut_new (.inl hnil), e])
        have HN0 := Lib.hid hn0
        clear hnil hn0 HM0
        go_wp2_with fail
        go_quiet (fail)
        have KQ : Keep (w4.alloc (.cells #[.int .i64 y, .int .i64 m, .int .i64 d] 38)) ((w4.alloc (.cells #[.int .i64 y, .int .i64 m, .int .i64 d] 38)).drewN nq) := (Keep.refl _).drewN nq
        replace d0 := KQ.cell d0
        replace d1 := KQ.cell d1
        have HOW := Lib.hid (own_keepM HOD.out KQ)
        have HK5 := Lib.hid (KD.trans KQ)
        clear KQ HOD
        generalize (w4.alloc (.cells #[.int .i64 y, .int .i64 m, .int .i64 d] 38)).drewN nq = W5 at *
        have hown := HOW.out
        have hs5 := HK5.out.size
        go_wp2_with (at_builtin; go_loud (refine wpList_append_own _ rfl _ _ 26 rfl w.heap.size 33 i0 (.agg #[.int .i64 0, .int .i64 0, .int .i64 0, .int .i64 0]) 4 32 Tryd.underlying26 hi hz0 hz1 hz2 rfl (by decide) _ _ _ rfl (hown.alloc _) ⟨W5.heap.size, 0, none⟩ 1 1 (rc (y, m, 0, 0)) rfl rfl (newsM W5) ?c1a ?c2a ?c3a ?c4a ?_))
        case c1a => exact rc_one _
        case c2a => unfold maxLen; omega
        case c3a => omega
        case c4a => first | omega | (simp; omega)
        intro v' W hown' hgrow hnil
        obtain ⟨g, c7, rfl, hbg, _⟩ := hown'.form (by omega)
        have HX : Hid (W.ownsRow w.heap.size 33 4 (.slice (some ⟨g, 0, none⟩) (n + 1) c7) (n + 1) (flatR (mthN (mthD f c) zs k ++ [(y, m, 0, 0)]))) := Lib.hid (by rw [flatR_app, flatR_one]; exact hown')
        have HKW : Hid (Keep w W) := Lib.hid (Below.grown (HK5.out.alloc (.cells #[.int .i64 y, .int .i64 m, .int .i64 0, .int .i64 0] 33)) hgrow (HK5.out.alloc (.cells #[.int .i64 y, .int .i64 m, .int .i64 0, .int .i64 0] 33)).size (fun q hq => (hown.lt q hq).1))
        have HQ : Hid ((mthN (mthD f c) zs k).length = n) := Lib.hid HLN.out.symm
        obtain ⟨b, off, hae, _, hcc⟩ := (HLs.out.keep HKW.out).all (by omega)
        have cz := hcc k hlt
        rw [HZ.out] at cz
        subst hae
        obtain ⟨T', N', HSA⟩ : ∃ T' N', Hid (sadd ((0 : Int), (0 : Int)) z = (T', N')) := ⟨_, _, Lib.hid rfl⟩
        have HAD := Lib.hid (fun W => ladd_any 0 0 z W (by omega) (by omega) (by omega) (by omega) (by omega) (by omega))
        rw [HSA.out] at HAD
        dsimp only at HAD
        have HMN := Lib.hid (HM1.out T' N' HSA.out)
        clear hown' hgrow hnil hown hcc
        generalize hMM : mthN (mthD f c) zs k = M at *
        clear hMM
        obtain ⟨nn, hnq⟩ : ∃ nn, nn = n + 1 := ⟨_, rfl⟩
        rw [← hnq] at HX ⊢
        have hq4 : (flatR (M ++ [(y, m, 0, 0)]))[n * 4 + 2]? = some (.int .i64 0) ∧ (flatR (M ++ [(y, m, 0, 0)]))[n * 4 + 3]? = some (.int .i64 0) := by
          have h2 := flatR_at (M ++ [(y, m, 0, 0)]) n 2 (by rw [List.length_append, HQ.out]; simp) (by omega)
          have h3 := flatR_at (M ++ [(y, m, 0, 0)]) n 3 (by rw [List.length_append, HQ.out]; simp) (by omega)
          have e9 : (M ++ [(y, m, 0, 0)]).getD n r0 = (y, m, 0, 0) := by
            rw [← HQ.out, List.getD_eq_getElem?_getD, List.getElem?_append_right (Nat.le_refl _)]; simp
          rw [e9] at h2 h3
          exact ⟨h2, h3⟩
        have c2 : W.cell? ⟨g, n * 4 + 2, none⟩ = some (.int .i64 0) := (World.ownsRow.cellAt HX.out _ (by omega)).trans hq4.1
        have c3 : W.cell? ⟨g, n * 4 + 3, none⟩ = some (.int .i64 0) := (World.ownsRow.cellAt HX.out _ (by omega)).trans hq4.2
        have f2 : W.frozen? ⟨g, n * 4 + 2, none⟩ = false := World.ownsRow.frozenAt HX.out _
        have f3 : W.frozen? ⟨g, n * 4 + 3, none⟩ = false := World.ownsRow.frozenAt HX.out _
        clear hq4
        have qw : IntKind.i64.wrap ((nn : Int) - 1) = (n : Int) := by
          rw [show (nn : Int) - 1 = (n : Int) by omega]; exact IntWalk.i64_in _ (by omega)
        have q0 : (0 : Int) ≤ (n : Int) := by omega
        have q1 : (n : Int) < (nn : Int) := by omega
        have q2 : n < nn := by omega
        have HSt : Hid (∀ W', Keep W W' → ((W'.setCell ⟨g, n * 4 + 2, none⟩ (.int .i64 T')).setCell ⟨g, n * 4 + 3, none⟩ (.int .i64 N')).ownsRow w.heap.size 33 4 (.slice (some ⟨g, 0, none⟩) nn c7) nn (flatR (M ++ [(y, m, T', N')]))) := Lib.hid (fun W' hk => by
          have h1 := (World.ownsRow.stored (World.ownsRow.stored (own_keepM HX.out hk) (n * 4 + 2) (.int .i64 T')).1 (n * 4 + 3) (.int .i64 N')).1
          rw [flat_put M y m 0 0 T' N' HQ.out] at h1
          exact h1)
        have HNQ : Hid (nn = n + 1) := Lib.hid hnq
        clear hnq
        go_wp2_with fail
        go_region_with ((go_at_call 36; refine (HAD.out _).mono ?_; rintro e wA ⟨rfl, kA⟩; have kA1 : Keep W wA := ((Keep.refl W).drewN 1).trans kA; have d2 := kA1.cell c2; have d3 := kA1.cell c3; have e2 := kA1.still c2 f2; have e3 := kA1.still c3 f3))
        all_goals
          have HFin := Lib.hid (HSt.out _ kA1)
          have HKF : Hid (Keep w ((wA.setCell ⟨g, n * 4 + 2, none⟩ (.int .i64 T')).setCell ⟨g, n * 4 + 3, none⟩ (.int .i64 N'))) := Lib.hid (((HKW.out.trans kA1).setCell hbg _).setCell hbg _)
          have HFL : Hid (Only w.heap.size w w) := Lib.hid (Only.refl _ _)
          go_wp2
          go_roundw
          case rel => exact ⟨k + 1, nn, some ⟨g, 0, none⟩, c7, by omega, by go_num, rfl, Lib.hid (by rw [HMN.out, List.length_append, HQ.out, HNQ.out]; rfl), Lib.hid (by rw [HMN.out]; exact HFin.out), HKF.out, HDN⟩
          case measure => simp [RowKit.intOf]; omega
      rw [List.concat_eq_append] at hcon
      obtain ⟨yy, mm, T, N⟩ := r
      have hql : n = M.length + 1 := by rw [HLN.out, hcon, List.length_append]; rfl
      obtain ⟨q, hq⟩ : ∃ q, M.length = q := ⟨_, rfl⟩
      rw [hq] at hql
      have HQ0 : Hid (M.length = q) := Lib.hid hq
      have hn0d : ((n : Int) == 0) = false := by simp; omega
      have hnn0 : ¬ (n : Int) = 0 := by omega
      have hqw : IntKind.i64.wrap ((n : Int) - 1) = (q : Int) := by
        rw [show (n : Int) - 1 = (q : Int) by omega]; exact IntWalk.i64_in _ (by omega)
      have hq0 : (0 : Int) ≤ (q : Int) := by omega
      have hq1 : (q : Int) < (n : Int) := by omega
      have hq2 : q < n := by omega
      have HNQ0 : Hid (n = q + 1) := Lib.hid hql
      obtain ⟨g0, c0', hv0, hbg0, hlg0⟩ := HOD.out.form (by omega)
      obtain ⟨rfl, rfl⟩ : ga = some ⟨g0, 0, none⟩ ∧ c' = c0' := by simp only [Value.slice.injEq] at hv0; exact ⟨hv0.1, hv0.2.2⟩
      clear hv0
      have hm1 : (w4.alloc (.cells #[.int .i64 y, .int .i64 m, .int .i64 d] 38)).cell? ⟨g0, q * 4 + 1, none⟩ = some (.int .i64 mm) := by
        rw [World.ownsRow.cellAt HOD.out _ (by omega), hcon]
        have h1 := flatR_at (M ++ [(yy, mm, T, N)]) q 1 (by rw [List.length_append, hq]; simp) (by omega)
        have e9 : (M ++ [(yy, mm, T, N)]).getD q r0 = (yy, mm, T, N) := by
          rw [← hq, List.getD_eq_getElem?_getD, List.getElem?_append_right (Nat.le_refl _)]; simp
        rw [e9] at h1
        exact h1
      clear hql hq
      by_cases hmm : mm = m
      · have hmd : (mm != m) = false := by simp [hmm]
        have HMN0 : Hid (mthN (mthD f c) zs (k + 1) = M ++ [(yy, mm, (sadd (T, N) z).1, (sadd (T, N) z).2)]) := Lib.hid (by rw [HM0.out, hcon, mthPut_old (by exact hmm)]; rfl)
        have HBD : Hid ((-2000000 ≤ T ∧ T ≤ 2000000) ∧ (-2000000 ≤ N ∧ N ≤ 2000000)) := Lib.hid (by
          have h9 := mthN_bd HSQ.out (mthD f c) k (by omega) (yy, mm, T, N) (by rw [hcon]; simp)
          simp only [rK, rV] at h9
          omega)
        have HMM := Lib.hid hmm
        clear hmm HM0
        go_wp2_with fail
        go_quiet (fail)
        have KQ : Keep (w4.alloc (.cells #[.int .i64 y, .int .i64 m, .int .i64 d] 38)) ((w4.alloc (.cells #[.int .i64 y, .int .i64 m, .int .i64 d] 38)).drewN nq) := (Keep.refl _).drewN nq
        replace d0 := KQ.cell d0
        replace d1 := KQ.cell d1
        have HOW := Lib.hid (own_keepM HOD.out KQ)
        have HK5 := Lib.hid (KD.trans KQ)
        clear KQ HOD
        generalize (w4.alloc (.cells #[.int .i64 y, .int .i64 m, .int .i64 d] 38)).drewN nq = W5 at *
        have HX : Hid (W5.ownsRow w.heap.size 33 4 (.slice (some ⟨g0, 0, none⟩) n c') n (flatR (M ++ [(yy, mm, T, N)]))) := Lib.hid (by rw [← hcon]; exact HOW.out)
        have HKW := HK5
        have HQ := HQ0
        obtain ⟨b, off, hae, _, hcc⟩ := (HLs.out.keep HKW.out).all (by omega)
        have cz := hcc k hlt
        rw [HZ.out] at cz
        subst hae
        obtain ⟨⟨bt0, bt1⟩, bn0, bn1⟩ := HBD.out
        obtain ⟨T', N', HSA⟩ : ∃ T' N', Hid (sadd (T, N) z = (T', N')) := ⟨_, _, Lib.hid rfl⟩
        have HAD := Lib.hid (fun W => ladd_any T N z W (by omega) (by omega) (by omega) (by omega) (by omega) (by omega))
        rw [HSA.out] at HAD
        dsimp only at HAD
        have HMN : Hid (mthN (mthD f c) zs (k + 1) = M ++ [(yy, mm, T', N')]) := Lib.hid (by rw [HMN0.out, HSA.out])
        clear hcc hcon HOW HMN0 bt0 bt1 bn0 bn1 hm1
        have hbg := hbg0
        have hnq := HNQ0.out
        clear HNQ0 hqw hq0 hq1 hq2
        have hq4 : (flatR (M ++ [(yy, mm, T, N)]))[q * 4 + 2]? = some (.int .i64 T) ∧ (flatR (M ++ [(yy, mm, T, N)]))[q * 4 + 3]? = some (.int .i64 N) := by
          have h2 := flatR_at (M ++ [(yy, mm, T, N)]) q 2 (by rw [List.length_append, HQ.out]; simp) (by omega)
          have h3 := flatR_at (M ++ [(yy, mm, T, N)]) q 3 (by rw [List.length_append, HQ.out]; simp) (by omega)
          have e9 : (M ++ [(yy, mm, T, N)]).getD q r0 = (yy, mm, T, N) := by
            rw [← HQ.out, List.getD_eq_getElem?_getD, List.getElem?_append_right (Nat.le_refl _)]; simp
          rw [e9] at h2 h3
          exact ⟨h2, h3⟩
        have c2 : W5.cell? ⟨g0, q * 4 + 2, none⟩ = some (.int .i64 T) := (World.ownsRow.cellAt HX.out _ (by omega)).trans hq4.1
        have c3 : W5.cell? ⟨g0, q * 4 + 3, none⟩ = some (.int .i64 N) := (World.ownsRow.cellAt HX.out _ (by omega)).trans hq4.2
        have f2 : W5.frozen? ⟨g0, q * 4 + 2, none⟩ = false := World.ownsRow.frozenAt HX.out _
        have f3 : W5.frozen? ⟨g0, q * 4 + 3, none⟩ = false := World.ownsRow.frozenAt HX.out _
        clear hq4
        have qw : IntKind.i64.wrap ((n : Int) - 1) = (q : Int) := by
          rw [show (n : Int) - 1 = (q : Int) by omega]; exact IntWalk.i64_in _ (by omega)
        have q0 : (0 : Int) ≤ (q : Int) := by omega
        have q1 : (q : Int) < (n : Int) := by omega
        have q2 : q < n := by omega
        have HSt : Hid (∀ W', Keep W5 W' → ((W'.setCell ⟨g0, q * 4 + 2, none⟩ (.int .i64 T')).setCell ⟨g0, q * 4 + 3, none⟩ (.int .i64 N')).ownsRow w.heap.size 33 4 (.slice (some ⟨g0, 0, none⟩) n c') n (flatR (M ++ [(yy, mm, T', N')]))) := Lib.hid (fun W' hk => by
          have h1 := (World.ownsRow.stored (World.ownsRow.stored (own_keepM HX.out hk) (q * 4 + 2) (.int .i64 T')).1 (q * 4 + 3) (.int .i64 N')).1
          rw [flat_put M yy mm T N T' N' HQ.out] at h1
          exact h1)
        have HNQ : Hid (n = q + 1) := Lib.hid hnq
        clear hnq
        go_wp2_with fail
        go_region_with ((go_at_call 36; refine (HAD.out _).mono ?_; rintro e wA ⟨rfl, kA⟩; have kA1 : Keep W5 wA := ((Keep.refl W5).drewN 1).trans kA; have d2 := kA1.cell c2; have d3 := kA1.cell c3; have e2 := kA1.still c2 f2; have e3 := kA1.still c3 f3))
        all_goals
          have HFin := Lib.hid (HSt.out _ kA1)
          have HKF : Hid (Keep w ((wA.setCell ⟨g0, q * 4 + 2, none⟩ (.int .i64 T')).setCell ⟨g0, q * 4 + 3, none⟩ (.int .i64 N'))) := Lib.hid (((HKW.out.trans kA1).setCell hbg _).setCell hbg _)
          have HFL : Hid (Only w.heap.size w w) := Lib.hid (Only.refl _ _)
          go_wp2
          go_roundw
          case rel => exact ⟨k + 1, n, some ⟨g0, 0, none⟩, c', by omega, by go_num, rfl, Lib.hid (by rw [HMN.out, List.length_append, HQ.out, HNQ.out]; rfl), Lib.hid (by rw [HMN.out]; exact HFin.out), HKF.out, HDN⟩
          case measure => simp [RowKit.intOf]; omega
      · have hmd : (mm != m) = true := by simp [hmm]
        have HM1 : Hid (∀ T' N', sadd ((0 : Int), (0 : Int)) z = (T', N') → mthN (mthD f c) zs (k + 1) = mthN (mthD f c) zs k ++ [(y, m, T', N')]) := Lib.hid (fun T' N' e => by rw [HM0.out, mthPut_new (t := (y, m, d)) (.inr ⟨M, _, hcon, by exact hmm⟩), e])
        have HCO := Lib.hid hcon
        clear hcon hmm HM0 HQ0
        go_wp2_with fail
        go_quiet (fail)
        have KQ : Keep (w4.alloc (.cells #[.int .i64 y, .int .i64 m, .int .i64 d] 38)) ((w4.alloc (.cells #[.int .i64 y, .int .i64 m, .int .i64 d] 38)).drewN nq) := (Keep.refl _).drewN nq
        replace d0 := KQ.cell d0
        replace d1 := KQ.cell d1
        have HOW := Lib.hid (own_keepM HOD.out KQ)
        have HK5 := Lib.hid (KD.trans KQ)
        clear KQ HOD
        generalize (w4.alloc (.cells #[.int .i64 y, .int .i64 m, .int .i64 d] 38)).drewN nq = W5 at *
        clear hm1
        have hown := HOW.out
        have hs5 := HK5.out.size
        go_wp2_with (at_builtin; go_loud (refine wpList_append_own _ rfl _ _ 26 rfl w.heap.size 33 i0 (.agg #[.int .i64 0, .int .i64 0, .int .i64 0, .int .i64 0]) 4 32 Tryd.underlying26 hi hz0 hz1 hz2 rfl (by decide) _ _ _ rfl (hown.alloc _) ⟨W5.heap.size, 0, none⟩ 1 1 (rc (y, m, 0, 0)) rfl rfl (newsM W5) ?c1a ?c2a ?c3a ?c4a ?_))
        case c1a => exact rc_one _
        case c2a => unfold maxLen; omega
        case c3a => omega
        case c4a => first | omega | (simp; omega)
        intro v' W hown' hgrow hnil
        obtain ⟨g, c7, rfl, hbg, _⟩ := hown'.form (by omega)
        have HX : Hid (W.ownsRow w.heap.size 33 4 (.slice (some ⟨g, 0, none⟩) (n + 1) c7) (n + 1) (flatR (mthN (mthD f c) zs k ++ [(y, m, 0, 0)]))) := Lib.hid (by rw [flatR_app, flatR_one]; exact hown')
        have HKW : Hid (Keep w W) := Lib.hid (Below.grown (HK5.out.alloc (.cells #[.int .i64 y, .int .i64 m, .int .i64 0, .int .i64 0] 33)) hgrow (HK5.out.alloc (.cells #[.int .i64 y, .int .i64 m, .int .i64 0, .int .i64 0] 33)).size (fun q hq => (hown.lt q hq).1))
        have HQ : Hid ((mthN (mthD f c) zs k).length = n) := Lib.hid HLN.out.symm
        obtain ⟨b, off, hae, _, hcc⟩ := (HLs.out.keep HKW.out).all (by omega)
        have cz := hcc k hlt
        rw [HZ.out] at cz
        subst hae
        obtain ⟨T', N', HSA⟩ : ∃ T' N', Hid (sadd ((0 : Int), (0 : Int)) z = (T', N')) := ⟨_, _, Lib.hid rfl⟩
        have HAD := Lib.hid (fun W => ladd_any 0 0 z W (by omega) (by omega) (by omega) (by omega) (by omega) (by omega))
        rw [HSA.out] at HAD
        dsimp only at HAD
        have HMN := Lib.hid (HM1.out T' N' HSA.out)
        clear hown' hgrow hnil hown hcc
        generalize hMM : mthN (mthD f c) zs k = M at *
        clear hMM
        obtain ⟨nn, hnq⟩ : ∃ nn, nn = n + 1 := ⟨_, rfl⟩
        rw [← hnq] at HX ⊢
        have hq4 : (flatR (M ++ [(y, m, 0, 0)]))[n * 4 + 2]? = some (.int .i64 0) ∧ (flatR (M ++ [(y, m, 0, 0)]))[n * 4 + 3]? = some (.int .i64 0) := by
          have h2 := flatR_at (M ++ [(y, m, 0, 0)]) n 2 (by rw [List.length_append, HQ.out]; simp) (by omega)
          have h3 := flatR_at (M ++ [(y, m, 0, 0)]) n 3 (by rw [List.length_append, HQ.out]; simp) (by omega)
          have e9 : (M ++ [(y, m, 0, 0)]).getD n r0 = (y, m, 0, 0) := by
            rw [← HQ.out, List.getD_eq_getElem?_getD, List.getElem?_append_right (Nat.le_refl _)]; simp
          rw [e9] at h2 h3
          exact ⟨h2, h3⟩
        have c2 : W.cell? ⟨g, n * 4 + 2, none⟩ = some (.int .i64 0) := (World.ownsRow.cellAt HX.out _ (by omega)).trans hq4.1
        have c3 : W.cell? ⟨g, n * 4 + 3, none⟩ = some (.int .i64 0) := (World.ownsRow.cellAt HX.out _ (by omega)).trans hq4.2
        have f2 : W.frozen? ⟨g, n * 4 + 2, none⟩ = false := World.ownsRow.frozenAt HX.out _
        have f3 : W.frozen? ⟨g, n * 4 + 3, none⟩ = false := World.ownsRow.frozenAt HX.out _
        clear hq4
        have qw : IntKind.i64.wrap ((nn : Int) - 1) = (n : Int) := by
          rw [show (nn : Int) - 1 = (n : Int) by omega]; exact IntWalk.i64_in _ (by omega)
        have q0 : (0 : Int) ≤ (n : Int) := by omega
        have q1 : (n : Int) < (nn : Int) := by omega
        have q2 : n < nn := by omega
        have HSt : Hid (∀ W', Keep W W' → ((W'.setCell ⟨g, n * 4 + 2, none⟩ (.int .i64 T')).setCell ⟨g, n * 4 + 3, none⟩ (.int .i64 N')).ownsRow w.heap.size 33 4 (.slice (some ⟨g, 0, none⟩) nn c7) nn (flatR (M ++ [(y, m, T', N')]))) := Lib.hid (fun W' hk => by
          have h1 := (World.ownsRow.stored (World.ownsRow.stored (own_keepM HX.out hk) (n * 4 + 2) (.int .i64 T')).1 (n * 4 + 3) (.int .i64 N')).1
          rw [flat_put M y m 0 0 T' N' HQ.out] at h1
          exact h1)
        have HNQ : Hid (nn = n + 1) := Lib.hid hnq
        clear hnq
        go_wp2_with fail
        go_region_with ((go_at_call 36; refine (HAD.out _).mono ?_; rintro e wA ⟨rfl, kA⟩; have kA1 : Keep W wA := ((Keep.refl W).drewN 1).trans kA; have d2 := kA1.cell c2; have d3 := kA1.cell c3; have e2 := kA1.still c2 f2; have e3 := kA1.still c3 f3))
        all_goals
          have HFin := Lib.hid (HSt.out _ kA1)
          have HKF : Hid (Keep w ((wA.setCell ⟨g, n * 4 + 2, none⟩ (.int .i64 T')).setCell ⟨g, n * 4 + 3, none⟩ (.int .i64 N'))) := Lib.hid (((HKW.out.trans kA1).setCell hbg _).setCell hbg _)
          have HFL : Hid (Only w.heap.size w w) := Lib.hid (Only.refl _ _)
          go_wp2
          go_roundw
          case rel => exact ⟨k + 1, nn, some ⟨g, 0, none⟩, c7, by omega, by go_num, rfl, Lib.hid (by rw [HMN.out, List.length_append, HQ.out, HNQ.out]; rfl), Lib.hid (by rw [HMN.out]; exact HFin.out), HKF.out, HDN⟩
          case measure => simp [RowKit.intOf]; omega
    · obtain rfl : k = zs.length := by omega
      have HOK : Hid (mthOk zs f c = true) := Lib.hid (mthOk_mk HSQ.out (fun j hj => by
        obtain ⟨y, m, d, h1, h2⟩ := HDT.out j hj
        rw [← h2]; exact dn_ok h1))
      have HML : Hid (mthN (mthD f c) zs zs.length = mthL zs f c) := Lib.hid (mthL_yes HOK.out).symm
      rw [HML.out] at HLN HOW
      have HF := Lib.hid (frR_ownE (w := w) (by have h1 := HOW.out; rw [HLN.out] at h1; exact h1) (Nat.le_refl _))
      go_wp2
      go_ret2
      exact ⟨ga, c', by rw [HLN.out, HOK.out]; rfl, HF.out.2, HF.out.1, hK⟩
end Go.Proofs.YtohoeonfoolpdaaDoor
namespace Go.Proofs.YtohoeonfoolpdaaDoor
open Go.RowKit
set_option linter.unusedVariables false

def ToIL (zs : List Int) (w : World) (e : Ending) (w' : World) : Prop := ∃ g, w.heap.size ≤ g ∧ g < w'.heap.size ∧ e = .returned (.slice (some ⟨g, 0, none⟩) zs.length zs.length) ∧ Wr w' g zs ∧ Keep w w'
set_option maxHeartbeats 1000000 in
theorem toI_lt (a : Option Addr) (cap : Nat) (zs : List Int) (w : World) (h : Ls w a zs) (hm : zs.length ≤ 1048576) :
    Calls Tryd.prog 16 #[.slice a zs.length cap] w (ToIL zs w) := by
  have hmk := fun W => run_make_row' (P := Tryd.prog) 23 3 (.int .i64 0) 8 Tryd.underlying23 infoInt rfl .i64 .i64 zs.length (by omega) (by omega) W
  go_enter Tryd.func16, Tryd.ntmps16
  go_wp2_with fail
  go_loopw [4] (fun i wr => ∃ k : Nat, k ≤ zs.length ∧ i = .int .i64 k ∧ Hid (Wr wr w.heap.size (zs.take k ++ List.replicate (zs.length - k) 0)) ∧ w.heap.size < wr.heap.size ∧ Keep w wr) (fun i _ => zs.length - (intOf i).toNat)
  case atStart =>
    refine ⟨0, by omega, rfl, Lib.hid ?_, by simp, (Keep.refl w).alloc _⟩
    intro j hj
    have hj' : j < zs.length := by simpa using hj
    refine ⟨(World.cell?_alloc_new w _ _ j).trans ?_, World.frozen?_alloc_at _ _ _ _ rfl⟩
    rw [made_at _ _ hj']
    simp [List.getD_eq_getElem?_getD, hj']
  case round =>
    obtain ⟨k, hk, rfl, HW, hlw, hK⟩ := hrel
    clear hmk
    by_cases hlt : k < zs.length
    · obtain ⟨b, off, rfl, hb, hc⟩ := (h.keep hK).at_ hlt
      have hl : (zs.take k ++ List.replicate (zs.length - k) 0).length = zs.length := by simp; omega
      obtain ⟨w1, w2⟩ := HW.out k (by rw [hl]; exact hlt)
      have HW2 := Lib.hid (HW.out.set (by rw [hl]; exact hlt) (zs.getD k 0))
      rw [part_set _ _ hlt] at HW2
      generalize (zs.take k ++ List.replicate (zs.length - k) 0).getD k 0 = y at w1
      generalize zs.getD k 0 = x at hc HW2
      clear hl
      go_wp2
      go_roundw
      case rel => exact ⟨k + 1, by omega, by go_num, HW2, by simpa [World.setCell] using hlw, hK.setCell (Nat.le_refl _) _⟩
      case measure => simp [intOf]; omega
    · have HW2 : Hid (Wr wr w.heap.size zs) := Lib.hid (by have h1 := HW.out; rw [List.take_of_length_le (by omega), show zs.length - k = 0 by omega] at h1; simpa using h1)
      go_wp2
      go_ret
      exact ⟨w.heap.size, Nat.le_refl _, hlw, rfl, HW2.out, hK⟩
set_option maxHeartbeats 1000000 in
theorem markW (g c : Nat) (zs : List Int) (q0 : Int) (w : World) (h : Wr w g zs) (hm : zs.length ≤ 1048576) (h0 : 0 ≤ q0) (h1 : q0 ≤ 4000000000) :
    Calls Tryd.prog 19 #[.slice (some ⟨g, 0, none⟩) zs.length c, .int .i64 q0] w fun e w' => e = .returned (.int .i64 (q0 + (zs.length : Int))) ∧ Only g w w' := by
  go_enter Tryd.func19, Tryd.ntmps19
  go_wp2_with fail
  go_loopw [1, 5] (fun q i wr => ∃ (k : Nat) (ys : List Int), k ≤ zs.length ∧ i = .int .i64 k ∧ q = .int .i64 (q0 + (k : Int)) ∧ Hid (ys.length = zs.length ∧ Wr wr g ys) ∧ Only g w wr) (fun _ i _ => zs.length - (intOf i).toNat)
  case atStart => exact ⟨0, zs, by omega, rfl, by simp, Lib.hid ⟨rfl, h⟩, Only.refl g w⟩
  case round =>
    obtain ⟨k, ys, hk, rfl, rfl, HW, hO⟩ := hrel
    by_cases hlt : k < zs.length
    · obtain ⟨x0, y0⟩ := HW.out.2 k (by have := HW.out.1; omega)
      have HW2 : Hid ((ys.set k (q0 + (k : Int))).length = zs.length ∧ Wr (wr.setCell ⟨g, k, none⟩ (.int .i64 (q0 + (k : Int)))) g (ys.set k (q0 + (k : Int)))) := Lib.hid (by
        obtain ⟨l, W⟩ := HW.out
        exact ⟨by rw [List.length_set]; exact l, W.set (by omega) _⟩)
      have HO := Lib.hid (hO.put1 k (.int .i64 (q0 + (k : Int))))
      go_wp2
      go_roundw
      case rel => exact ⟨k + 1, ys.set k (q0 + (k : Int)), by omega, by go_num, by congr 1; omega, HW2, HO.out⟩
      case measure => simp [intOf]; omega
    · obtain rfl : k = zs.length := by omega
      go_wp2
      go_ret
      exact ⟨rfl, hO⟩
end Go.Proofs.YtohoeonfoolpdaaDoor
