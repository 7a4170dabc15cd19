/- Rows of keys: a key lies in three cells. -/
import Derived.Test.YtamdfdbhkmgflaaDk
import Derived.Test.YtamdfdbhkmgflaaMk
import Derived.Test.YtamdfdbhkmgflaaMf
import Derived.Lib.AppendZeros
import Derived.WalkSpells
namespace Go.Proofs.Ytamdfdbhkmgflaa
open Go.RowKit
set_option linter.unusedVariables false

/-- The cells of a report. -/
def kc (r : K3) : List Value := [.int .i64 (kS r), .int .i64 (kD r), .int .i64 (kT r)]
def flatK (rs : List K3) : List Value := rs.flatMap kc
/-- The report r lies in block b from o on. -/
structure At3 (w : World) (b o : Nat) (r : K3) : Prop where
  s : w.cell? ⟨b, o, none⟩ = some (.int .i64 (kS r))
  d : w.cell? ⟨b, o + 1, none⟩ = some (.int .i64 (kD r))
  k : w.cell? ⟨b, o + 2, none⟩ = some (.int .i64 (kT r))
theorem At3.keep {w w' : World} {b o : Nat} {r : K3} (h : At3 w b o r) (k : Keep w w') : At3 w' b o r := ⟨k.cell h.s, k.cell h.d, k.cell h.k⟩
theorem At3.drewN {w : World} {b o : Nat} {r : K3} (h : At3 w b o r) (n : Nat) : At3 (w.drewN n) b o r := ⟨h.s, h.d, h.k⟩
theorem At3.same {w w' : World} {b o : Nat} {r : K3} (h : At3 w b o r) (hc : ∀ i, w'.cell? ⟨b, i, none⟩ = w.cell? ⟨b, i, none⟩) : At3 w' b o r :=
  ⟨(hc _).trans h.s, (hc _).trans h.d, (hc _).trans h.k⟩
def Ks (w : World) (a : Option Addr) (rs : List K3) : Prop :=
  rs = [] ∨ ∃ b off, a = some ⟨b, off, none⟩ ∧ b < w.heap.size ∧ ∀ i, i < rs.length → At3 w b (off + i * 3) (rs.getD i k0)
theorem Ks.nil (w : World) (a : Option Addr) : Ks w a [] := .inl rfl
theorem Ks.keep {w w' : World} {a : Option Addr} {rs : List K3} (h : Ks w a rs) (k : Keep w w') : Ks w' a rs := by
  rcases h with h | ⟨b, off, ha, hb, h⟩
  · exact .inl h
  · exact .inr ⟨b, off, ha, Nat.lt_of_lt_of_le hb k.size, fun i hi => (h i hi).keep k⟩
theorem Ks.alloc {w : World} {a : Option Addr} {rs : List K3} (h : Ks w a rs) (o : Obj) : Ks (w.alloc o) a rs := h.keep ((Keep.refl w).alloc o)
theorem Ks.drewN {w : World} {a : Option Addr} {rs : List K3} (h : Ks w a rs) (n : Nat) : Ks (w.drewN n) a rs := h.keep ((Keep.refl w).drewN n)
theorem Ks.at_ {w : World} {a : Option Addr} {rs : List K3} (h : Ks w a rs) {i : Nat} (hi : i < rs.length) :
    ∃ b off, a = some ⟨b, off, none⟩ ∧ b < w.heap.size ∧ At3 w b (off + i * 3) (rs.getD i k0) := by
  rcases h with rfl | ⟨b, off, ha, hb, h⟩
  · simp at hi
  · exact ⟨b, off, ha, hb, h i hi⟩
theorem Ks.all {w : World} {a : Option Addr} {rs : List K3} (h : Ks w a rs) (h0 : 0 < rs.length) :
    ∃ b off, a = some ⟨b, off, none⟩ ∧ b < w.heap.size ∧ ∀ i, i < rs.length → At3 w b (off + i * 3) (rs.getD i k0) := by
  rcases h with rfl | h
  · simp at h0
  · exact h
/-- Four cells that may be written. -/
structure Fr3 (w : World) (b o : Nat) : Prop where
  f0 : w.frozen? ⟨b, o, none⟩ = false
  f1 : w.frozen? ⟨b, o + 1, none⟩ = false
  f2 : w.frozen? ⟨b, o + 2, none⟩ = false
/-- Block g holds the reports ys from its beginning on, and may be written. -/
def WrK (w : World) (g : Nat) (ys : List K3) : Prop := ∀ j, j < ys.length → At3 w g (j * 3) (ys.getD j k0) ∧ Fr3 w g (j * 3)
theorem WrK.keep {w w' : World} {g : Nat} {ys : List K3} (h : WrK w g ys) (k : Keep w w') : WrK w' g ys :=
  fun j hj => ⟨(h j hj).1.keep k, ⟨k.still (h j hj).1.s (h j hj).2.f0, k.still (h j hj).1.d (h j hj).2.f1, k.still (h j hj).1.k (h j hj).2.f2⟩⟩
theorem WrK.ks {w : World} {g : Nat} {ys : List K3} (h : WrK w g ys) : Ks w (some ⟨g, 0, none⟩) ys := by
  by_cases h0 : ys = []
  · exact .inl h0
  · have hp : 0 < ys.length := List.length_pos_iff.2 h0
    exact .inr ⟨g, 0, rfl, World.block_lt_of_cell? w _ (h 0 hp).1.s, fun i hi => by rw [Nat.zero_add]; exact (h i hi).1⟩
/-- A report stored in four cells. -/
def put3 (w : World) (b o : Nat) (r : K3) : World := ((w.setCell ⟨b, o, none⟩ (.int .i64 (kS r))).setCell ⟨b, o + 1, none⟩ (.int .i64 (kD r))).setCell ⟨b, o + 2, none⟩ (.int .i64 (kT r))
theorem put3_far {w : World} {b o : Nat} {r : K3} {b' i : Nat} (h : b' ≠ b ∨ i < o ∨ o + 2 < i) : (put3 w b o r).cell? ⟨b', i, none⟩ = w.cell? ⟨b', i, none⟩ := by
  unfold put3
  rw [World.cell?_setCell_other _ _ _ _ (by intro e; simp only [Addr.mk.injEq] at e; omega), World.cell?_setCell_other _ _ _ _ (by intro e; simp only [Addr.mk.injEq] at e; omega),
    World.cell?_setCell_other _ _ _ _ (by intro e; simp only [Addr.mk.injEq] at e; omega)]
theorem put3_at {w : World} {b o : Nat} {r q : K3} (h : At3 w b o q) : At3 (put3 w b o r) b o r := by
  unfold put3
  refine ⟨?_, ?_, ?_⟩
  · rw [World.cell?_setCell_other _ _ _ _ (by simp), World.cell?_setCell_other _ _ _ _ (by simp)]
    exact World.cell?_setCell_same _ _ _ h.s
  · rw [World.cell?_setCell_other _ _ _ _ (by simp)]
    exact World.cell?_setCell_same _ _ _ ((World.cell?_setCell_other _ _ _ _ (by simp)).trans h.d)
  · exact World.cell?_setCell_same _ _ _ ((World.cell?_setCell_other _ _ _ _ (by simp)).trans ((World.cell?_setCell_other _ _ _ _ (by simp)).trans h.k))
theorem put3_frozen (w : World) (b o : Nat) (r : K3) (a : Addr) : (put3 w b o r).frozen? a = w.frozen? a := by
  unfold put3; rw [World.frozen?_setCell, World.frozen?_setCell, World.frozen?_setCell]
theorem put3_keep {a w : World} (h : Keep a w) {b o : Nat} {r : K3} (hb : a.heap.size ≤ b) : Keep a (put3 w b o r) :=
  ((h.setCell hb _).setCell hb _).setCell hb _
theorem WrK.set {w : World} {g : Nat} {ys : List K3} (h : WrK w g ys) {k : Nat} (hk : k < ys.length) (r : K3) : WrK (put3 w g (k * 3) r) g (ys.set k r) := by
  intro j hj
  rw [List.length_set] at hj
  obtain ⟨h1, h2⟩ := h j hj
  refine ⟨?_, ⟨?_, ?_, ?_⟩⟩
  · by_cases e : j = k
    · subst e
      have e2 : (ys.set j r).getD j k0 = r := by simp [List.getD_eq_getElem?_getD, hj]
      rw [e2]; exact put3_at h1
    · have e2 : (ys.set k r).getD j k0 = ys.getD j k0 := by
        have : k ≠ j := fun h => e h.symm
        simp [List.getD_eq_getElem?_getD, this]
      rw [e2]
      exact ⟨(put3_far (by omega)).trans h1.s, (put3_far (by omega)).trans h1.d, (put3_far (by omega)).trans h1.k⟩
  all_goals rw [put3_frozen]
  · exact h2.f0
  · exact h2.f1
  · exact h2.f2
theorem kpart_set (rs : List K3) (k : Nat) (hk : k < rs.length) : (rs.take k ++ List.replicate (rs.length - k) k0).set k (rs.getD k k0) = rs.take (k + 1) ++ List.replicate (rs.length - (k + 1)) k0 := by
  have e : List.replicate (rs.length - k) k0 = k0 :: List.replicate (rs.length - (k + 1)) k0 := by
    rw [← List.replicate_succ]; congr 1; omega
  have hg : rs.getD k k0 = rs[k] := by simp [List.getD_eq_getElem?_getD, hk]
  have hl : (rs.take k).length = k := by rw [List.length_take]; omega
  rw [e, List.set_append_right _ _ (by omega), hl, Nat.sub_self, List.set_cons_zero, hg, List.take_succ_eq_append_getElem hk, List.append_assoc]
  rfl
theorem Only.wrK {B : Nat} {w w' : World} (h : Only B w w') {g : Nat} {ys : List K3} (hy : WrK w g ys) (hne : g ≠ B) : WrK w' g ys := by
  intro j hj
  obtain ⟨h1, h2⟩ := hy j hj
  have hb := World.block_lt_of_cell? w _ h1.s
  exact ⟨⟨(h.cell g _ hb hne).trans h1.s, (h.cell g _ hb hne).trans h1.d, (h.cell g _ hb hne).trans h1.k⟩,
    ⟨(h.frozen g _ hb hne).trans h2.f0, (h.frozen g _ hb hne).trans h2.f1, (h.frozen g _ hb hne).trans h2.f2⟩⟩
theorem Only.ks {B : Nat} {w w' : World} (h : Only B w w') {a : Option Addr} {ys : List K3} (hy : Ks w a ys) (hne : ∀ b o, a = some ⟨b, o, none⟩ → b ≠ B) : Ks w' a ys := by
  rcases hy with hy | ⟨b, off, ha, hb, hc⟩
  · exact .inl hy
  · refine .inr ⟨b, off, ha, Nat.lt_of_lt_of_le hb h.size, fun i hi => ?_⟩
    have h1 := hc i hi
    have hn := hne b off ha
    exact ⟨(h.cell b _ hb hn).trans h1.s, (h.cell b _ hb hn).trans h1.d, (h.cell b _ hb hn).trans h1.k⟩
def mk3 (i : Nat) : K3 := (1 + 3 * (i : Int), 1 + 3 * (i : Int) + 1, 1 + 3 * (i : Int) + 1 + 1)
def MkK (ys : List K3) : Prop := ∀ i, i < ys.length → ys.getD i k0 = mk3 i
/-- Reports in a block that is new since w. -/
def FrK (w w' : World) (a : Option Addr) (ys : List K3) : Prop := ys = [] ∨ ∃ g, a = some ⟨g, 0, none⟩ ∧ w.heap.size ≤ g ∧ g < w'.heap.size ∧ WrK w' g ys
theorem FrK.ks {w w' : World} {a : Option Addr} {ys : List K3} (h : FrK w w' a ys) : Ks w' a ys := by
  rcases h with h | ⟨g, rfl, _, _, h⟩
  · exact .inl h
  · exact h.ks
theorem FrK.keep {w w' w'' : World} {a : Option Addr} {ys : List K3} (h : FrK w w' a ys) (k : Keep w' w'') : FrK w w'' a ys := by
  rcases h with h | ⟨g, ha, hg, hl, h⟩
  · exact .inl h
  · exact .inr ⟨g, ha, hg, Nat.lt_of_lt_of_le hl k.size, h.keep k⟩
theorem flatK_len : ∀ rs : List K3, (flatK rs).length = rs.length * 3
  | [] => rfl
  | r :: rs => by
    have h := flatK_len rs
    unfold flatK at *
    rw [List.flatMap_cons, List.length_append, h]
    simp [kc]; omega
theorem flatK_app (rs qs : List K3) : flatK (rs ++ qs) = flatK rs ++ flatK qs := by simp [flatK]
theorem flatK_one (r : K3) : flatK [r] = kc r := by simp [flatK]
theorem flatK_at : ∀ (rs : List K3) (i t : Nat), i < rs.length → t < 3 → (flatK rs)[i * 3 + t]? = (kc (rs.getD i k0))[t]?
  | [], _, _, h, _ => by cases h
  | r :: rs, 0, t, _, ht => by
    have e : flatK (r :: rs) = kc r ++ flatK rs := by simp [flatK]
    rw [e, List.getElem?_append_left (by simp [kc]; omega)]
    simp
  | r :: rs, i + 1, t, h, ht => by
    have e : flatK (r :: rs) = kc r ++ flatK rs := by simp [flatK]
    have h1 : i < rs.length := by simpa using h
    rw [e, List.getElem?_append_right (by simp [kc]; omega)]
    have e2 : (i + 1) * 3 + t - (kc r).length = i * 3 + t := by simp [kc]; omega
    rw [e2, flatK_at rs i t h1 ht]
    simp
theorem at3_of {w : World} {b o : Nat} {r : K3} (h : ∀ t, t < 3 → w.cell? ⟨b, o + t, none⟩ = (kc r)[t]?) : At3 w b o r :=
  ⟨(h 0 (by omega)).trans rfl, (h 1 (by omega)).trans rfl, (h 2 (by omega)).trans rfl⟩
theorem At3.kc_at {w : World} {b o : Nat} {r : K3} (h : At3 w b o r) (t : Nat) (ht : t < 3) : w.cell? ⟨b, o + t, none⟩ = (kc r)[t]? := by
  have h4 : t = 0 ∨ t = 1 ∨ t = 2 := by omega
  rcases h4 with rfl | rfl | rfl
  · exact h.s
  · exact h.d
  · exact h.k
/-- The cells of a slice of reports, to be appended. -/
theorem kc_one (r : K3) : ∀ u ∈ kc r, u.oneCell' = true := by
  intro u hu
  simp only [kc, List.mem_cons, List.not_mem_nil, or_false] at hu
  obtain rfl | rfl | rfl := hu <;> rfl
theorem own_capK {w : World} {base e size g n c : Nat} {xs : List Value} (h : w.ownsRow base e size (.slice (some ⟨g, 0, none⟩) n c) n xs) : n ≤ c := by
  rcases h.2 with ⟨h', _⟩ | ⟨g', cap', cur, h', _, _, h2, _⟩
  · simp at h'
  · simp only [Value.slice.injEq, Option.some.injEq, Addr.mk.injEq, and_true, true_and] at h'
    obtain ⟨rfl, rfl⟩ := h'
    exact h2
theorem wrK_ownE {w : World} {base e g n c : Nat} {ys : List K3} (h : w.ownsRow base e 3 (.slice (some ⟨g, 0, none⟩) n c) n (flatK ys)) (hn : n = ys.length) : WrK w g ys := by
  subst hn
  intro j hj
  refine ⟨at3_of fun t ht => ?_, ⟨World.ownsRow.frozenAt h _, World.ownsRow.frozenAt h _, World.ownsRow.frozenAt h _⟩⟩
  rw [World.ownsRow.cellAt h _ (by omega), flatK_at ys j t hj ht]
theorem frK_ownE {w wr : World} {base e : Nat} {ga : Option Addr} {c : Nat} {ys : List K3} (h : wr.ownsRow base e 3 (.slice ga ys.length c) ys.length (flatK ys)) (hb : w.heap.size ≤ base) : FrK w wr ga ys ∧ ys.length ≤ c := by
  by_cases hz : ys = []
  · exact ⟨.inl hz, by rw [hz]; exact Nat.zero_le _⟩
  · obtain ⟨g, c', he, _, _⟩ := h.form (List.length_pos_iff.2 hz)
    simp only [Value.slice.injEq] at he
    obtain ⟨rfl, _, rfl⟩ := he
    exact ⟨.inr ⟨g, rfl, Nat.le_trans hb (World.ownsRow.lt h g rfl).1, (World.ownsRow.lt h g rfl).2, wrK_ownE h rfl⟩, own_capK h⟩
theorem Ks.below {B : Nat} {w w' : World} {a : Option Addr} {rs : List K3} (h : Ks w a rs) (hl : Lo B a rs.length) (hb : Below B w w') : Ks w' a rs := by
  rcases h with h | ⟨b, off, ha, hlt, hc⟩
  · exact .inl h
  · rcases hl with hl | hl
    · exact .inl (List.eq_nil_of_length_eq_zero hl)
    · exact .inr ⟨b, off, ha, Nat.lt_of_lt_of_le hlt hb.size, fun i hi => (hc i hi).same fun j => hb.cell (p := ⟨b, j, none⟩) (hl b off ha)⟩
theorem Ks.lo {w : World} {a : Option Addr} {rs : List K3} (h : Ks w a rs) : Lo w.heap.size a rs.length := by
  rcases h with h | ⟨b, off, ha, hlt, hc⟩
  · left; rw [h]; rfl
  · right; intro b' o' hb'; rw [ha] at hb'; injection hb' with hb'; injection hb' with hb' _ _; omega
theorem Ks.onlyLo {B : Nat} {w w' : World} {a : Option Addr} {rs : List K3} (h : Ks w a rs) (hl : Lo B a rs.length) (ho : Only B w w') : Ks w' a rs := by
  rcases h with h | ⟨b, off, ha, hlt, hc⟩
  · exact .inl h
  · rcases hl with hl | hl
    · exact .inl (List.eq_nil_of_length_eq_zero hl)
    · have hne : b < B := hl b off ha
      exact .inr ⟨b, off, ha, Nat.lt_of_lt_of_le hlt ho.size, fun i hi => (hc i hi).same fun j => ho.cell b j hlt (by omega)⟩
theorem FrK.mono {w0 w w' : World} {a : Option Addr} {ys : List K3} (h : FrK w w' a ys) (hs : w0.heap.size ≤ w.heap.size) : FrK w0 w' a ys := by
  rcases h with h | ⟨g, ha, hg, hl, h⟩
  · exact .inl h
  · exact .inr ⟨g, ha, Nat.le_trans hs hg, hl, h⟩
theorem FrK.only {B : Nat} {w w' w'' : World} {a : Option Addr} {ys : List K3} (h : FrK w w' a ys) (ho : Only B w' w'') (hB : B < w.heap.size) : FrK w w'' a ys := by
  rcases h with h | ⟨g, ha, hg, hl, h⟩
  · exact .inl h
  · refine .inr ⟨g, ha, hg, Nat.lt_of_lt_of_le hl ho.size, fun j hj => ?_⟩
    obtain ⟨h1, h2⟩ := h j hj
    exact ⟨h1.same fun i => ho.cell g i hl (by omega), ⟨(ho.frozen g _ hl (by omega)).trans h2.f0, (ho.frozen g _ hl (by omega)).trans h2.f1, (ho.frozen g _ hl (by omega)).trans h2.f2⟩⟩
theorem FrK.drewN {w w' : World} {a : Option Addr} {ys : List K3} (h : FrK w w' a ys) (n : Nat) : FrK w (w'.drewN n) a ys := h.keep ((Keep.refl w').drewN n)
set_option maxRecDepth 100000 in
set_option maxHeartbeats 1000000 in
theorem eqKey_same (s d t : Int) (w : World) :
    Calls Try.prog 35 #[.agg #[.int .i64 s, .int .i64 d, .int .i64 t], .agg #[.int .i64 s, .int .i64 d, .int .i64 t]] w fun e w' => e = .returned (.bool true) ∧ Keep w w' := by
  go_enter Try.func35, Try.ntmps35
  go_wp2
  go_ret
  exact ⟨rfl, ((Keep.refl w).alloc _).alloc _⟩
set_option maxHeartbeats 1000000 in
theorem eqKs_same (a b : Option Addr) (c d : Nat) (rs : List K3) (w : World) (h1 : Ks w a rs) (h2 : Ks w b rs) (hm : rs.length ≤ 1048576) :
    Calls Try.prog 14 #[.slice a rs.length c, .slice b rs.length d] w fun e w' => e = .returned (.bool true) ∧ Keep w w' := by
  go_enter Try.func14, Try.ntmps14
  go_wp2_with fail
  go_loopw [5] (fun i wr => ∃ k : Nat, k ≤ rs.length ∧ i = .int .i64 k ∧ Keep w wr) (fun i _ => rs.length - (intOf i).toNat)
  case atStart => exact ⟨0, by omega, rfl, Keep.refl w⟩
  case round =>
    obtain ⟨k, hk, rfl, hK⟩ := hrel
    by_cases hlt : k < rs.length
    · obtain ⟨b1, o1, rfl, _, ⟨c0, c1, c2⟩⟩ := (h1.keep hK).at_ hlt
      obtain ⟨b2, o2, rfl, _, ⟨e0, e1, e2⟩⟩ := (h2.keep hK).at_ hlt
      generalize kS (rs.getD k k0) = x0 at c0 e0
      generalize kD (rs.getD k k0) = x1 at c1 e1
      generalize kT (rs.getD k k0) = x2 at c2 e2
      have k0 : (0 : Int) ≤ (k : Int) := by omega
      have k1 : (k : Int) < (rs.length : Int) := by omega
      go_wp2_with fail
      go_region_held3 (fun w' => w'.cell? ⟨b1, o1 + k * 3, none⟩ = some (.int .i64 x0) ∧ w'.cell? ⟨b1, o1 + k * 3 + 1, none⟩ = some (.int .i64 x1) ∧ w'.cell? ⟨b1, o1 + k * 3 + 2, none⟩ = some (.int .i64 x2) ∧
          w'.cell? ⟨b2, o2 + k * 3, none⟩ = some (.int .i64 x0) ∧ w'.cell? ⟨b2, o2 + k * 3 + 1, none⟩ = some (.int .i64 x1) ∧ w'.cell? ⟨b2, o2 + k * 3 + 2, none⟩ = some (.int .i64 x2)) (go_keep)
        ((go_at_call 35; refine (eqKey_same x0 x1 x2 _).mono ?_; rintro e w1 ⟨rfl, hk1⟩; have kk := ((Keep.refl wr).drew).trans hk1; have f0 := kk.cell c0; have f1 := kk.cell c1; have f2 := kk.cell c2; have g0 := kk.cell e0; have g1 := kk.cell e1; have g2 := kk.cell e2))
      have hK2 := hK.trans kk
      go_wp2
      go_roundw
      case rel => exact ⟨k + 1, by omega, by go_num, hK2⟩
      case measure => simp [intOf]; omega
    · go_wp2
      go_ret
      exact ⟨rfl, hK⟩
set_option maxHeartbeats 1000000 in
theorem markK (g c : Nat) (rs : List K3) (w : World) (h : WrK w g rs) (hm : rs.length ≤ 1048576) :
    Calls Try.prog 17 #[.slice (some ⟨g, 0, none⟩) rs.length c, .int .i64 1] w fun e w' => e = .returned (.int .i64 (1 + 3 * (rs.length : Int))) ∧ Only g w w' ∧ ∃ ys, ys.length = rs.length ∧ WrK w' g ys ∧ MkK ys := by
  go_enter Try.func17, Try.ntmps17
  go_wp2_with fail
  go_loopw [1, 5] (fun q i wr => ∃ (k : Nat) (ys : List K3), k ≤ rs.length ∧ i = .int .i64 k ∧ q = .int .i64 (1 + 3 * (k : Int)) ∧ Hid (ys.length = rs.length ∧ WrK wr g ys ∧ ∀ i, i < k → ys.getD i k0 = mk3 i) ∧ Only g w wr) (fun _ i _ => rs.length - (intOf i).toNat)
  case atStart => exact ⟨0, rs, by omega, rfl, rfl, Lib.hid ⟨rfl, h, fun i hi => by omega⟩, Only.refl g w⟩
  case round =>
    obtain ⟨k, ys, hk, rfl, rfl, HW, hO⟩ := hrel
    by_cases hlt : k < rs.length
    · obtain ⟨⟨x0, x1, x2⟩, ⟨y0, y1, y2⟩⟩ := HW.out.2.1 k (by have := HW.out.1; omega)
      have HW2 : Hid ((ys.set k (mk3 k)).length = rs.length ∧ WrK (put3 wr g (k * 3) (mk3 k)) g (ys.set k (mk3 k)) ∧ ∀ i, i < k + 1 → (ys.set k (mk3 k)).getD i k0 = mk3 i) := Lib.hid (by
        obtain ⟨l, W, m⟩ := HW.out
        refine ⟨by rw [List.length_set]; exact l, W.set (by omega) _, fun i hi => ?_⟩
        by_cases e : i = k
        · subst e; simp [List.getD_eq_getElem?_getD, show i < ys.length by omega]
        · have e2 : k ≠ i := fun h => e h.symm
          have := m i (by omega)
          rw [← this]
          simp [List.getD_eq_getElem?_getD, e2])
      have HO := Lib.hid (((hO.put1 (k * 3) (.int .i64 (kS (mk3 k)))).put1 (k * 3 + 1) (.int .i64 (kD (mk3 k)))).put1 (k * 3 + 2) (.int .i64 (kT (mk3 k))))
      go_wp2
      go_roundw
      case rel => exact ⟨k + 1, ys.set k (mk3 k), by omega, by go_num, by congr 1, HW2, HO.out⟩
      case measure => simp [intOf]; omega
    · obtain rfl : k = rs.length := by omega
      go_wp2
      go_ret
      exact ⟨rfl, hO, ys, HW.out.1, HW.out.2.1, fun i hi => HW.out.2.2 i (by have := HW.out.1; omega)⟩
set_option maxHeartbeats 1000000 in
theorem heldK (a : Option Addr) (c : Nat) (ys : List K3) (w : World) (h : Ks w a ys) (hk' : MkK ys) (hm : ys.length ≤ 1048576) :
    Calls Try.prog 18 #[.slice a ys.length c, .int .i64 1] w fun e w' => e = .returned (.int .i64 (1 + 3 * (ys.length : Int))) ∧ w = w' := by
  have HM := Lib.hid hk'
  clear hk'
  go_enter Try.func18, Try.ntmps18
  go_wp2_with fail
  go_loop [1, 5] (fun q i => ∃ k : Nat, k ≤ ys.length ∧ i = .int .i64 k ∧ q = .int .i64 (1 + 3 * (k : Int))) (fun _ i => ys.length - (intOf i).toNat)
  case atStart => exact ⟨0, by omega, rfl, rfl⟩
  case round =>
    obtain ⟨k, hk, rfl, rfl⟩ := hrel
    by_cases hlt : k < ys.length
    · obtain ⟨b, off, rfl, _, hc⟩ := h.at_ hlt
      rw [HM.out k hlt] at hc
      obtain ⟨c0, c1, c2⟩ := hc
      simp only [kS, kD, kT, mk3] at c0 c1 c2
      go_wp2
      go_round
      case rel => exact ⟨k + 1, by omega, by go_num, by congr 1⟩
      case measure => simp [intOf]; omega
    · obtain rfl : k = ys.length := by omega
      go_wp2
      go_ret
      exact ⟨rfl, rfl⟩
set_option maxHeartbeats 400000 in
theorem markK0 (a : Option Addr) (c : Nat) (w : World) :
    Calls Try.prog 17 #[.slice a 0 c, .int .i64 1] w fun e w' => e = .returned (.int .i64 1) ∧ w = w' := by
  go_enter Try.func17, Try.ntmps17
  go_wp2_with fail
  go_loop [1, 5] (fun q i => i = .int .i64 0 ∧ q = .int .i64 1) (fun _ i => 0)
  case atStart => exact ⟨rfl, rfl⟩
  case round =>
    obtain ⟨rfl, rfl⟩ := hrel
    go_wp2
    go_ret
    exact ⟨rfl, rfl⟩
/-- Marks on fresh reports. -/
theorem markFK (a : Option Addr) (c : Nat) (rs : List K3) (w0 w : World) (h : FrK w0 w a rs) (hm : rs.length ≤ 1048576) :
    Calls Try.prog 17 #[.slice a rs.length c, .int .i64 1] w fun e w' => e = .returned (.int .i64 (1 + 3 * (rs.length : Int))) ∧ (w0.heap.size ≤ w.heap.size → Below w0.heap.size w w') ∧ ∃ ys, ys.length = rs.length ∧ Ks w' a ys ∧ MkK ys := by
  rcases h with rfl | ⟨g, rfl, hg, hl, h⟩
  · refine (markK0 a c w).mono fun e w' ⟨he, hw⟩ => ?_
    subst hw
    exact ⟨he, fun _ => Below.refl _ _, [], rfl, .inl rfl, fun i hi => by simp at hi⟩
  · refine (markK g c rs w h hm).mono fun e w' ⟨he, ho, ys, hy, hw, hk⟩ => ⟨he, fun hs => ho.below hg hs, ys, hy, hw.ks, hk⟩
set_option maxHeartbeats 1000000 in
theorem sK_same (a b : Option Addr) (c d : Nat) (rs : List K3) (w : World) (h1 : Ks w a rs) (h2 : Ks w b rs) (hm : rs.length ≤ 1048576) :
    Calls Try.prog 9 #[.slice a rs.length c, .slice b rs.length d] w fun e w' => e = .returned (.bool true) ∧ Keep w w' := by
  go_enter Try.func9, Try.ntmps9
  go_wp2_with fail
  go_loopw [5] (fun i wr => ∃ k : Nat, k ≤ rs.length ∧ i = .int .i64 k ∧ Keep w wr) (fun i _ => rs.length - (intOf i).toNat)
  case atStart => exact ⟨0, by omega, rfl, Keep.refl w⟩
  case round =>
    obtain ⟨k, hk, rfl, hK⟩ := hrel
    by_cases hlt : k < rs.length
    · obtain ⟨b1, o1, rfl, _, ⟨c0, c1, c2⟩⟩ := (h1.keep hK).at_ hlt
      obtain ⟨b2, o2, rfl, _, ⟨e0, e1, e2⟩⟩ := (h2.keep hK).at_ hlt
      generalize kS (rs.getD k k0) = x0 at c0 e0
      generalize kD (rs.getD k k0) = x1 at c1 e1
      generalize kT (rs.getD k k0) = x2 at c2 e2
      have k0 : (0 : Int) ≤ (k : Int) := by omega
      have k1 : (k : Int) < (rs.length : Int) := by omega
      go_wp2_with fail
      go_quiet (fail)
      have hK2 : Keep w (wr.drewN nq) := hK.drewN nq
      go_wp2
      go_roundw
      case rel => exact ⟨k + 1, by omega, by go_num, hK2⟩
      case measure => simp [intOf]; omega
    · go_wp2
      go_ret
      exact ⟨rfl, hK⟩
end Go.Proofs.Ytamdfdbhkmgflaa
