/- The program reads a text of a series. -/
import Derived.Test.YtpdpcnblpcalaaaDoorBua
import Derived.Test.YtpdpcnblpcalaaaDoorBcb
import Derived.Test.YtpdpcnblpcalaaaDoorBge
import Derived.Test.YtpdpcnblpcalaaaDoorMg
namespace Go.Proofs.YtpdpcnblpcalaaaDoor
open Go.RowKit
set_option linter.unusedVariables false

theorem bWs_len (zs : List Int) : zs.length ≤ (bWs zs).length := by
  induction zs with
  | nil => exact Nat.le_refl _
  | cons v r ih => rw [bWs_cons]; simp; omega
theorem BulP.len {R : List UInt8} {s t f : Int} {zs : List Int} (h : BulP R s t f zs) : zs.length ≤ R.length := by
  rw [h.back.1, bdL_eq]
  have := bWs_len zs
  simp; omega
theorem frR_own {w wr : World} {base : Nat} {ga : Option Addr} {c : Nat} {ys : List R4} (h : wr.ownsRow base 31 4 (.slice ga ys.length c) ys.length (flatR ys)) (hb : w.heap.size ≤ base) : FrR w wr ga ys ∧ ys.length ≤ c := by
  by_cases hz : ys = []
  · exact ⟨.inl hz, by rw [hz]; exact Nat.zero_le _⟩
  · obtain ⟨g, c', he, _, _⟩ := h.form (List.length_pos_iff.2 hz)
    simp only [Value.slice.injEq] at he
    obtain ⟨rfl, _, rfl⟩ := he
    exact ⟨.inr ⟨g, rfl, Nat.le_trans hb (World.ownsRow.lt h g rfl).1, (World.ownsRow.lt h g rfl).2, wrR_own h rfl⟩, own_cap h⟩
theorem own_keepP {w w' : World} {base e n size : Nat} {v : Value} {xs : List Value} (h : w.ownsRow base e size v n xs) (k : Keep w w') : w'.ownsRow base e size v n xs := by
  refine World.ownsRow.kept h (⟨Below.os k, Below.tape k, Below.output k, Below.size k, fun i hi _ => Below.block k i hi⟩ : w.grownBy w' none) ?_
  cases hv : v.ownBlock with
  | none => left; rfl
  | some k => right; simp
theorem newsP (w : World) {s d k v : Int} :
    ∀ j u, (rc (s, d, k, v))[j]? = some u → (w.alloc (.cells #[.int .i64 s, .int .i64 d, .int .i64 k, .int .i64 v] 31)).cell? ((⟨w.heap.size, 0, none⟩ : Addr).add j) = some u := by
  intro j u hj
  rw [Addr.add_lit, Nat.zero_add, World.cell?_alloc_new, ← hj]
  simp [rc, rS, rD, rK, rV]

theorem ptr_ne (a : Addr) : ∀ W : World, Sem.run Tryd.prog (binOp .neq 51 (.iface 119 (.pointer (some a))) .nilIface) W = .ok (.bool true) W := fun W => by kernel_rfl
theorem nil_ne : ∀ W : World, Sem.run Tryd.prog (binOp .neq 51 .nilIface .nilIface) W = .ok (.bool false) W := fun W => by kernel_rfl
set_option maxRecDepth 100000 in
set_option maxHeartbeats 2000000 in
theorem rb_bad (p : ByteArray) (a : Addr) (w : World) (hc : ∀ W, Keep w W → Calls Tryd.prog 30 #[.string p] W fun e w' => e = .returned (.tuple #[.string ⟨#[]⟩, .iface 119 (.pointer (some a))]) ∧ Keep W w') :
    Calls Tryd.prog 27 #[.string p] w fun e w' => e = .returned (.tuple #[.agg #[.int .i64 0, .int .i64 0, .int .i64 0, .slice none 0 0], .iface 119 (.pointer (some a))]) ∧ Keep w w' := by
  have HC := Lib.hid hc
  have hN := ptr_ne a
  clear hc
  go_enter Tryd.func27, Tryd.ntmps27
  go_wp2_with fail
  refine (HC.out _ ((Keep.refl w).alloc _)).mono ?_
  rintro e w1 ⟨rfl, k1⟩
  have c0 := k1.new 0 (v := .int .i64 0) rfl
  have c1 := k1.new 1 (v := .int .i64 0) rfl
  have c2 := k1.new 2 (v := .int .i64 0) rfl
  have c3 := k1.new 3 (v := .slice none 0 0) rfl
  have f0 := k1.fresh 0
  have f1 := k1.fresh 1
  have f2 := k1.fresh 2
  have f3 := k1.fresh 3
  have HK : Hid (Keep w w1) := Lib.hid (((Keep.refl w).alloc _).trans k1)
  clear HC
  go_wp2
  refine bodyPost_ret (v := .tuple #[.agg #[.int .i64 0, .int .i64 0, .int .i64 0, .slice none 0 0], .iface 119 (.pointer (some a))]) (by simp [results, Tryd.results27, go_sem, *]) rfl ⟨rfl, ?_⟩
  repeat' (first | with_reducible exact HK.out | with_reducible refine Keep.setCell ?_ (by omega) _)
def RbPost (p : ByteArray) (a : Addr) (w : World) (e : Ending) (w' : World) : Prop :=
  Keep w w' ∧ ((∃ s t f zs v c, Bt p s t f zs ∧ OwnI w' w.heap.size (.slice v zs.length c) zs ∧ e = .returned (.tuple #[.agg #[.int .i64 s, .int .i64 t, .int .i64 f, .slice v zs.length c], .nilIface])) ∨
    ((∀ s t f zs, ¬ Bt p s t f zs) ∧ e = .returned (.tuple #[.agg #[.int .i64 0, .int .i64 0, .int .i64 0, .slice none 0 0], .iface 119 (.pointer (some a))])))
set_option maxRecDepth 100000 in
set_option maxHeartbeats 4000000 in
theorem rb_good (p : ByteArray) (m : Nat) (a : Addr) (w : World) (T : Tabs w) (ha : w.cell? ⟨0, 0, none⟩ = some (.iface 119 (.pointer (some a)))) (hp : p.size ≤ 1048576) (hm : m < p.size) (h32 : p[m] = 32) (hno : ∀ (j : Nat) (h : j < p.size), m < j → p[j] ≠ 32) (hx : gX p m = true) :
    Calls Tryd.prog 27 #[.string p] w (RbPost p a w) := by
  have HC := Lib.hid (fun W (hk : Keep w W) => cf_yes p m a W (T.keep hk) (hk.cell ha) hp hm h32 hno hx)
  have HOF : Hid (∀ s t f zs, BulP (p.extract 0 m).data.toList s t f zs → btOk s t f zs = true → Bt p s t f zs) := Lib.hid (fun s t f zs hP hok => Bt.of hm h32 hx hP hok)
  have HNO : Hid (∀ s t f zs, Bt p s t f zs → BulP (p.extract 0 m).data.toList s t f zs) := Lib.hid (fun s t f zs hb => (bt_front hm h32 hno hb).2)
  have hN := nil_ne
  obtain ⟨x, hxx⟩ : ∃ x, p.extract 0 m = x := ⟨_, rfl⟩
  have hxs : x.size ≤ 1048576 := by rw [← hxx, ByteArray.size_extract]; omega
  have HLX : Hid (x.data.toList.length ≤ 1048576) := Lib.hid (by rw [ba_len]; exact hxs)
  rw [hxx] at HC HOF HNO
  have HBS : Hid (w.heap.size ≠ 0) := Lib.hid (fun e9 => by
    have h9 := World.block_lt_of_cell? w _ ha
    simp only at h9; omega)
  clear hxx hx h32 hno hm
  go_enter Tryd.func27, Tryd.ntmps27
  go_wp2_with fail
  refine (HC.out _ ((Keep.refl w).alloc _)).mono ?_
  rintro e w1 ⟨rfl, k1⟩
  have hz1 : w.heap.size < w1.heap.size := by have := k1.size; simp at this; omega
  obtain ⟨W2, hW2⟩ : ∃ W2, W2 = w1.alloc (.cells #[.string x, .int .i64 0] 78) := ⟨_, rfl⟩
  have HK2 : Hid (Keep (w.alloc (.cells #[.int .i64 0, .int .i64 0, .int .i64 0, .slice none 0 0] 44)) W2) := Lib.hid (by rw [hW2]; exact k1.alloc _)
  have hcur : CurR W2 w1.heap.size x x.data.toList := by
    rw [hW2]
    exact ⟨0, ⟨World.cell?_alloc_new w1 _ _ 0, World.cell?_alloc_new w1 _ _ 1, World.frozen?_alloc_at _ _ _ _ rfl, by simp, by omega, hxs⟩, rfl⟩
  have hs2 : W2.heap.size = w1.heap.size + 1 := by rw [hW2]; simp
  clear HC
  go_wp2_with fail
  rw [← hW2]
  clear hW2
  refine (bul_R w1.heap.size x _ W2 hcur).mono ?_
  rintro e w3 ⟨o3, hh⟩
  have hz3 := o3.size
  have HK3 : Hid (Keep (w.alloc (.cells #[.int .i64 0, .int .i64 0, .int .i64 0, .slice none 0 0] 44)) w3) := Lib.hid (HK2.out.trans' o3 (by simp; omega))
  have HKw : Hid (Keep w w3) := Lib.hid (((Keep.refl w).alloc _).trans HK3.out)
  have hga := HKw.out.cell ha
  have c0 := HK3.out.new 0 (v := .int .i64 0) rfl
  have c1 := HK3.out.new 1 (v := .int .i64 0) rfl
  have c2 := HK3.out.new 2 (v := .int .i64 0) rfl
  have c3 := HK3.out.new 3 (v := .slice none 0 0) rfl
  have f0 := HK3.out.fresh 0
  have f1 := HK3.out.fresh 1
  have f2 := HK3.out.fresh 2
  have f3 := HK3.out.fresh 3
  have hzw3 : w.heap.size < w3.heap.size := by omega
  have HT3 := Lib.hid (T.keep HKw.out)
  clear hcur o3 HK2 hz3 k1 T
  rcases hh with ⟨s, t, f, zs, v, hP, hO, rfl⟩ | ⟨hn, s, t, f, rfl⟩
  case' inr =>
    have HN := Lib.hid (fun s t f zs hb => hn s t f zs (HNO.out s t f zs hb))
    clear hn HNO HOF
    go_wp2_with fail
    go_region_held3 (fun w'' => Keep w w'' ∧ w''.cell? ⟨0, 0, none⟩ = some (.iface 119 (.pointer (some a)))) ((go_split_ands; refine (fun hK => ⟨hK, hK.cell ha⟩ : Keep w _ → _) ?_; (repeat' (first | with_reducible exact HKw.out | with_reducible exact Keep.refl _ | with_reducible refine Keep.drew ?_ | with_reducible refine Keep.drewN ?_ _ | with_reducible refine Keep.setCell ?_ (Nat.le_refl _) _ | with_reducible refine Keep.alloc ?_ _)))) (fail)
    all_goals
      go_wp2
      refine bodyPost_ret (v := .tuple #[.agg #[.int .i64 0, .int .i64 0, .int .i64 0, .slice none 0 0], .iface 119 (.pointer (some a))]) (by simp [results, Tryd.results27, go_sem, *]) rfl ⟨?_, .inr ⟨HN.out, rfl⟩⟩
      (repeat' (first | with_reducible exact HKw.out | with_reducible exact Keep.refl _ | with_reducible refine Keep.drew ?_ | with_reducible refine Keep.drewN ?_ _ | with_reducible refine Keep.setCell ?_ (Nat.le_refl _) _ | with_reducible refine Keep.alloc ?_ _))
  obtain ⟨av, cv, rfl, hls⟩ := hO.ls
  have hb := hP.back
  have hln := hP.len
  have hlx := HLX.out
  have HV := Lib.hid (fun W (hk : Keep w3 W) => bv_impl av cv s t f zs W (hls.keep hk) (by omega) (by have := hb.2.2.2.1; unfold NumB at this; omega))
  have HO := Lib.hid hO
  obtain ⟨ok, hok⟩ : ∃ ok, btOk s t f zs = ok := ⟨_, rfl⟩
  rw [hok] at HV
  cases ok
  · have HN : Hid (∀ s t f zs, ¬ Bt p s t f zs) := Lib.hid (fun s1 t1 f1 zs1 hb1 => by
      obtain ⟨rfl, rfl, rfl, rfl⟩ := (HNO.out _ _ _ _ hb1).unique hP
      rw [hb1.1] at hok; cases hok)
    clear hb hln hok hP hO hls hlx HNO HOF
    go_wp2_with fail
    refine (HV.out _ ((Keep.refl w3).alloc _)).mono ?_
    rintro e w4 ⟨rfl, k4⟩
    have K4 : Keep w3 w4 := Keep.trans ((Keep.refl w3).alloc _) k4
    have HK4 : Hid (Keep w w4) := Lib.hid (HKw.out.trans K4)
    have hga4 := HK4.out.cell ha
    have d0 := K4.cell c0
    have g0 := K4.still c0 f0
    have d1 := K4.cell c1
    have g1 := K4.still c1 f1
    have d2 := K4.cell c2
    have g2 := K4.still c2 f2
    have d3 := K4.cell c3
    have g3 := K4.still c3 f3
    clear k4 K4 c0 c1 c2 c3 f0 f1 f2 f3
    go_wp2_with fail
    go_region_held3 (fun w'' => Keep w w'' ∧ w''.cell? ⟨0, 0, none⟩ = some (.iface 119 (.pointer (some a)))) ((go_split_ands; refine (fun hK => ⟨hK, hK.cell ha⟩ : Keep w _ → _) ?_; (repeat' (first | with_reducible exact HK4.out | with_reducible exact Keep.refl _ | with_reducible refine Keep.drew ?_ | with_reducible refine Keep.drewN ?_ _ | with_reducible refine Keep.setCell ?_ (Nat.le_refl _) _ | with_reducible refine Keep.alloc ?_ _)))) (fail)
    all_goals
      go_wp2
      refine bodyPost_ret (v := .tuple #[.agg #[.int .i64 0, .int .i64 0, .int .i64 0, .slice none 0 0], .iface 119 (.pointer (some a))]) (by simp [results, Tryd.results27, go_sem, *]) rfl ⟨?_, .inr ⟨HN.out, rfl⟩⟩
      (repeat' (first | with_reducible exact HK4.out | with_reducible exact Keep.refl _ | with_reducible refine Keep.drew ?_ | with_reducible refine Keep.drewN ?_ _ | with_reducible refine Keep.setCell ?_ (Nat.le_refl _) _ | with_reducible refine Keep.alloc ?_ _))
  · have HB := Lib.hid (HOF.out s t f zs hP hok)
    clear hb hln hok hP hO hls hlx HNO HOF
    go_wp2_with fail
    refine (HV.out _ ((Keep.refl w3).alloc _)).mono ?_
    rintro e w4 ⟨rfl, k4⟩
    have K4 : Keep w3 w4 := Keep.trans ((Keep.refl w3).alloc _) k4
    have b0 := k4.new 0 (v := .int .i64 s) rfl
    have b1 := k4.new 1 (v := .int .i64 t) rfl
    have b2 := k4.new 2 (v := .int .i64 f) rfl
    have b3 := k4.new 3 (v := .slice av zs.length cv) rfl
    have HK4 : Hid (Keep w w4) := Lib.hid (HKw.out.trans K4)
    have HO4 := Lib.hid (HO.out.keep K4)
    have hlt4 : w.heap.size < W2.heap.size := by omega
    have hz4 := K4.size
    have d0 := K4.cell c0
    have g0 := K4.still c0 f0
    have d1 := K4.cell c1
    have g1 := K4.still c1 f1
    have d2 := K4.cell c2
    have g2 := K4.still c2 f2
    have d3 := K4.cell c3
    have g3 := K4.still c3 f3
    clear k4 K4 c0 c1 c2 c3 f0 f1 f2 f3
    go_wp2
    refine bodyPost_ret (v := .tuple #[.agg #[.int .i64 s, .int .i64 t, .int .i64 f, .slice av zs.length cv], .nilIface]) (by simp [results, Tryd.results27, go_sem, *]) rfl ⟨?_, .inl ⟨s, t, f, zs, av, cv, HB.out, ?_, rfl⟩⟩
    · repeat' (first | with_reducible exact HK4.out | with_reducible refine Keep.setCell ?_ (Nat.le_refl _) _)
    · refine OwnI.base (OwnI.only (B := w.heap.size) HO4.out ?_ hlt4) (by omega)
      (repeat' (first | with_reducible exact Only.refl _ _ | with_reducible refine Only.trans ?_ (only_set _ _ _ _)))
theorem rb_any (p : ByteArray) (a : Addr) (w : World) (T : Tabs w) (ha : w.cell? ⟨0, 0, none⟩ = some (.iface 119 (.pointer (some a)))) (hp : p.size ≤ 1048576) :
    Calls Tryd.prog 27 #[.string p] w (RbPost p a w) := by
  rcases last_blank p with hno | ⟨m, hm, h32, hno⟩
  · refine (rb_bad p a w fun W hk => cf_none p a W (hk.cell ha) hp hno).mono ?_
    rintro e w1 ⟨rfl, k1⟩
    exact ⟨k1, .inr ⟨no_bt_blank hno, rfl⟩⟩
  · rcases Bool.eq_false_or_eq_true (gX p m) with hx | hx
    · exact rb_good p m a w T ha hp hm h32 hno hx
    · refine (rb_bad p a w fun W hk => cf_not p m a W (T.keep hk) (hk.cell ha) hp hm h32 hno hx).mono ?_
      rintro e w1 ⟨rfl, k1⟩
      exact ⟨k1, .inr ⟨fun s t f zs hb => (by rw [(bt_front hm h32 hno hb).1] at hx; cases hx), rfl⟩⟩
theorem infoRepB : (Tryd.prog.info? 31).map (fun i => (i.zero, i.size, i.bytes)) = some (some (.agg #[.int .i64 0, .int .i64 0, .int .i64 0, .int .i64 0]), 4, 32) := by kernel_rfl
def RpsPost (s t f : Int) (zs : List Int) (w : World) (e : Ending) (w' : World) : Prop :=
  ∃ (a : Option Addr) (c : Nat), e = .returned (.slice a (bvR s t f zs zs.length).length c) ∧ (bvR s t f zs zs.length).length ≤ c ∧ FrR w w' a (bvR s t f zs zs.length) ∧ Keep w w'
set_option maxRecDepth 100000 in
set_option maxHeartbeats 4000000 in
theorem rps_impl (av : Option Addr) (cv : Nat) (s t f : Int) (zs : List Int) (w : World) (h : Ls w av zs) (hm : zs.length ≤ 12) (hf : 0 ≤ f ∧ f ≤ 999) :
    Calls Tryd.prog 29 #[.agg #[.int .i64 s, .int .i64 t, .int .i64 f, .slice av zs.length cv]] w (RpsPost s t f zs w) := by
  obtain ⟨i0, hi, hz0, hz1, hz2⟩ := info_parts infoRepB
  obtain ⟨W1, hW1⟩ : ∃ W1, W1 = w.alloc (.cells #[.int .i64 s, .int .i64 t, .int .i64 f, .slice av zs.length cv] 44) := ⟨_, rfl⟩
  have K1 : Keep w W1 := by rw [hW1]; exact (Keep.refl w).alloc _
  have c0 : W1.cell? ⟨w.heap.size, 0, none⟩ = some (.int .i64 s) := by rw [hW1]; exact World.cell?_alloc_new w _ _ 0
  have c1 : W1.cell? ⟨w.heap.size, 1, none⟩ = some (.int .i64 t) := by rw [hW1]; exact World.cell?_alloc_new w _ _ 1
  have c2 : W1.cell? ⟨w.heap.size, 2, none⟩ = some (.int .i64 f) := by rw [hW1]; exact World.cell?_alloc_new w _ _ 2
  have c3 : W1.cell? ⟨w.heap.size, 3, none⟩ = some (.slice av zs.length cv) := by rw [hW1]; exact World.cell?_alloc_new w _ _ 3
  have HL := Lib.hid (h.keep K1)
  have HK1 := Lib.hid K1
  have hs1 := K1.size
  clear h K1
  go_enter Tryd.func29, Tryd.ntmps29
  go_wp2_with fail
  rw [← hW1]
  clear hW1
  generalize w.heap.size = bx at c0 c1 c2 c3 ⊢
  go_wp2_with fail
  go_loopw [3, 9] (fun u i wr => ∃ (k n c : Nat) (ga : Option Addr), k ≤ zs.length ∧ i = .int .i64 k ∧ u = .slice ga n c ∧ Hid (n = (bvR s t f zs k).length) ∧ Hid (wr.ownsRow W1.heap.size 31 4 (.slice ga n c) n (flatR (bvR s t f zs k))) ∧ Keep W1 wr) (fun _ i _ => zs.length - (RowKit.intOf i).toNat)
  case atStart => exact ⟨0, 0, 0, none, by omega, rfl, rfl, Lib.hid rfl, Lib.hid (World.ownsRow_nil W1 _ _ _), Keep.refl W1⟩
  case round =>
    obtain ⟨k, n, c, ga, hk, rfl, rfl, HLN, HW, hK⟩ := hrel
    have hsz := hK.size
    have hln := bvR_len s t f zs k
    by_cases hlt : k < zs.length
    · have HRP := Lib.hid (fun W (hw : Keep wr W) => rp_impl av cv s t f zs k W ((HL.out.keep hK).keep hw) hlt (by omega) (by omega))
      obtain ⟨b, off, hae, hb, hcc⟩ := (HL.out.keep hK).all (by omega)
      have cz := hcc k hlt
      have HY : Hid (zs.getD k 0 ≠ -9999 → bvR s t f zs (k + 1) = bvR s t f zs k ++ [(s, f + (k : Int), t, zs.getD k 0)]) := Lib.hid (fun hy => by rw [bvR, if_neg hy])
      have HNO : Hid (zs.getD k 0 = -9999 → bvR s t f zs (k + 1) = bvR s t f zs k) := Lib.hid (fun hy => by rw [bvR, if_pos hy, List.append_nil])
      generalize zs.getD k 0 = z at *
      have r0 := hK.cell c0
      have r1 := hK.cell c1
      have r2 := hK.cell c2
      have r3 := hK.cell c3
      clear hcc
      by_cases hz : z = -9999
      · have hzd : (z != -9999) = false := by simp [hz]
        replace HY := Lib.hid (HNO.out hz)
        clear HNO hz HRP
        subst hae
        go_wp2
        go_roundw
        case rel => exact ⟨k + 1, n, c, ga, by omega, by go_num, rfl, Lib.hid (by rw [HY.out]; exact HLN.out), Lib.hid (by rw [HY.out]; exact HW.out), hK⟩
        case measure => simp [RowKit.intOf]; omega
      · have hzd : (z != -9999) = true := by simp [hz]
        replace HY := Lib.hid (HY.out hz)
        clear HNO hz
        generalize f + (k : Int) = d at HRP HY
        subst hae
        go_wp2_with fail
        refine (HRP.out _ (by (repeat' (first | with_reducible exact Keep.refl _ | with_reducible refine Keep.drewN ?_ _ | with_reducible refine Keep.drew ?_)))).mono ?_
        rintro e wC ⟨rfl, kC⟩
        have hlen : n ≤ 12 := by rw [HLN.out]; omega
        have HKC : Hid (Keep W1 wC) := Lib.hid (hK.trans kC)
        have hown2 : wC.ownsRow W1.heap.size 31 4 (.slice ga n c) n (flatR (bvR s t f zs k)) := own_keepP HW.out kC
        have hsC := HKC.out.size
        go_wp2_with (at_builtin; go_loud (refine wpList_append_own _ rfl _ _ 27 rfl W1.heap.size 31 i0 (.agg #[.int .i64 0, .int .i64 0, .int .i64 0, .int .i64 0]) 4 32 Tryd.underlying27 hi hz0 hz1 hz2 rfl (by decide) _ _ _ rfl (hown2.alloc _) ⟨wC.heap.size, 0, none⟩ 1 1 (rc (s, d, t, z)) rfl rfl (newsP wC) ?c2a ?c3a ?c4a ?c5a ?_))
        case c2a => exact rc_one _
        case c3a => unfold maxLen; omega
        case c4a => omega
        case c5a => first | omega | (simp; omega)
        intro v' w5 hown' hgrow hnil
        obtain ⟨g', c', rfl, hbg, hlg⟩ := hown'.form (by omega)
        have HN : Hid (w5.ownsRow W1.heap.size 31 4 (.slice (some ⟨g', 0, none⟩) (n + 1) c') (n + 1) (flatR (bvR s t f zs (k + 1)))) := Lib.hid (by rw [HY.out, flatR_app, flatR_one]; exact hown')
        have HN2 : Hid (n + 1 = (bvR s t f zs (k + 1)).length) := Lib.hid (by rw [HY.out, List.length_append, ← HLN.out]; rfl)
        have HK2 : Hid (Keep W1 w5) := Lib.hid (Below.grown (HKC.out.alloc (.cells #[.int .i64 s, .int .i64 d, .int .i64 t, .int .i64 z] 31)) hgrow (HKC.out.alloc (.cells #[.int .i64 s, .int .i64 d, .int .i64 t, .int .i64 z] 31)).size (fun q hq => (hown2.lt q hq).1))
        clear hown' hgrow hnil hown2 hlen
        go_wp2
        go_roundw
        case rel => exact ⟨k + 1, n + 1, c', some ⟨g', 0, none⟩, by omega, by go_num, rfl, HN2, HN, HK2.out⟩
        case measure => simp [RowKit.intOf]; omega
    · obtain rfl : k = zs.length := by omega
      have HF := Lib.hid (frR_own (w := w) (by have h1 := HW.out; rw [HLN.out] at h1; exact h1) hs1)
      go_wp2
      go_ret
      exact ⟨ga, c, by rw [HLN.out]; rfl, HF.out.2, HF.out.1, HK1.out.trans hK⟩
def BpPost (p : ByteArray) (w : World) (e : Ending) (w' : World) : Prop :=
  Keep w w' ∧ ∃ (a : Option Addr) (c : Nat) (rs : List R4), rs.length ≤ c ∧ FrR w w' a rs ∧
    ((∃ s t f zs, Bt p s t f zs ∧ rs = bvR s t f zs zs.length ∧ e = .returned (.tuple #[.slice a rs.length c, .bool true])) ∨
      ((∀ s t f zs, ¬ Bt p s t f zs) ∧ rs = [] ∧ e = .returned (.tuple #[.slice a 0 c, .bool false])))
set_option maxRecDepth 100000 in
set_option maxHeartbeats 2000000 in
theorem bp_impl (p : ByteArray) (w : World) (T : TabsE w) (hp : p.size ≤ 1048576) :
    Calls Tryd.prog 9 #[.string p] w (BpPost p w) := by
  obtain ⟨T1, a, ha⟩ := T
  have HR := Lib.hid (rb_any p a w T1 ha hp)
  have HI := Lib.hid (fun W => is_nil a W)
  have HJ := Lib.hid (fun W => is_same a W)
  go_enter Tryd.func9, Tryd.ntmps9
  go_wp2_with fail
  refine HR.out.mono ?_
  rintro e w1 ⟨k1, ⟨s, t, f, zs, v, c, hB, hO, rfl⟩ | ⟨hN, rfl⟩⟩
  · have ha1 := k1.cell ha
    have hgz : 0 < w1.heap.size := by have h9 := World.block_lt_of_cell? w1 _ ha1; simpa using h9
    have hgn : 0 ≠ w1.heap.size := by omega
    obtain ⟨_, _, hf, hl, _⟩ := btOk_facts hB.1
    obtain ⟨av, cv, hav, hls⟩ := hO.ls
    obtain ⟨rfl, rfl⟩ : v = av ∧ c = cv := by
      simp only [Value.slice.injEq] at hav; exact ⟨hav.1, hav.2.2⟩
    have HRP := Lib.hid (fun W (hk : Keep w1 W) => rps_impl v c s t f zs W (hls.keep hk) (by omega) hf)
    have HB := Lib.hid hB
    have hz1 := k1.size
    clear hB hO hls hav hl hf HR
    go_wp2_with fail
    refine (HI.out _).mono ?_
    rintro e w2 ⟨rfl, rfl⟩
    go_wp2_with fail
    refine (HRP.out _ ((Keep.refl w1).alloc _)).mono ?_
    rintro e w3 ⟨a3, c3, rfl, hc3, hF, k3⟩
    have HF := Lib.hid hF
    have K3 : Keep w w3 := (k1.alloc _).trans k3
    clear hF
    go_wp2
    go_ret2
    exact ⟨K3, a3, c3, _, hc3, HF.out.mono (by simp; omega), .inl ⟨s, t, f, zs, HB.out, rfl, rfl⟩⟩
  · have ha1 := k1.cell ha
    have hgz : 0 < w1.heap.size := by have h9 := World.block_lt_of_cell? w1 _ ha1; simpa using h9
    have hgn : 0 ≠ w1.heap.size := by omega
    have HN := Lib.hid hN
    clear hN HR
    go_wp2_with fail
    refine (HJ.out _).mono ?_
    rintro e w2 ⟨rfl, rfl⟩
    go_wp2
    go_ret2
    exact ⟨k1.alloc _, none, 0, [], Nat.le_refl _, .inl rfl, .inr ⟨HN.out, rfl, rfl⟩⟩
end Go.Proofs.YtpdpcnblpcalaaaDoor
