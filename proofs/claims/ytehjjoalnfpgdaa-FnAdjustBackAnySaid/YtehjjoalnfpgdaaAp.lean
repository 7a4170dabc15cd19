/- The parts of a series, as the program keeps them: interface values over slices; their methods. -/
import Derived.Test.YtehjjoalnfpgdaaKd
import Derived.Test.YtehjjoalnfpgdaaAj
import Derived.Test.YtehjjoalnfpgdaaMd
import Derived.Test.YtehjjoalnfpgdaaOi
import Derived.Test.YtehjjoalnfpgdaaTi
import Derived.IntWalk
import Derived.LoopTactic
namespace Go.Proofs.Ytehjjoalnfpgdaa
open Go.RowKit
set_option linter.unusedVariables false

theorem infoPt : (Try.prog.info? 64).map (fun i => (i.zero, i.size, i.bytes)) = some (some .nilIface, 1, 16) := by kernel_rfl
theorem mMedE (v : Value) (w : World) : Sem.run Try.prog (method 215 61 (.agg #[v]) "loop.example/weatherarchive/impl.median") w = .ok (103, v) w := by kernel_rfl
theorem mMedL (v : Value) (w : World) : Sem.run Try.prog (method 215 62 (.agg #[v]) "loop.example/weatherarchive/impl.median") w = .ok (103, v) w := by kernel_rfl
theorem mMovE (v : Value) (w : World) : Sem.run Try.prog (method 215 61 (.agg #[v]) "loop.example/weatherarchive/impl.movedBy") w = .ok (104, v) w := by kernel_rfl
theorem mMovL (v : Value) (w : World) : Sem.run Try.prog (method 215 62 (.agg #[v]) "loop.example/weatherarchive/impl.movedBy") w = .ok (104, v) w := by kernel_rfl

theorem ptV_p (b off ca : Nat) (zs cs : List Int) (j : Nat) : ptV b off ca zs cs j = .slice (some ⟨b, off + pS cs j, none⟩) (pE zs cs j - pS cs j) (ca - pS cs j) := by
  unfold ptV pE pS; split <;> rfl
/-- A part as an interface value. -/
def prV (b off ca : Nat) (zs cs : List Int) (j : Nat) : Value :=
  if j < cs.length then .iface 61 (.agg #[.slice (some ⟨b, off + pS cs j, none⟩) (pE zs cs j - pS cs j) (ca - pS cs j)])
  else .iface 62 (.agg #[.slice (some ⟨b, off + pS cs j, none⟩) (pE zs cs j - pS cs j) (ca - pS cs j)])
theorem prV_in {b off ca : Nat} {zs cs : List Int} {j : Nat} (h : j < cs.length) : prV b off ca zs cs j = .iface 61 (.agg #[.slice (some ⟨b, off + pS cs j, none⟩) (pE zs cs j - pS cs j) (ca - pS cs j)]) := by rw [prV, if_pos h]
theorem prV_last {b off ca : Nat} {zs cs : List Int} {j : Nat} (h : ¬ j < cs.length) : prV b off ca zs cs j = .iface 62 (.agg #[.slice (some ⟨b, off + pS cs j, none⟩) (pE zs cs j - pS cs j) (ca - pS cs j)]) := by rw [prV, if_neg h]
def prL (b off ca : Nat) (zs cs : List Int) (k : Nat) : List Value := (List.range k).map (prV b off ca zs cs)
theorem prL_succ (b off ca : Nat) (zs cs : List Int) (k : Nat) : prL b off ca zs cs (k + 1) = prL b off ca zs cs k ++ [prV b off ca zs cs k] := by
  simp [prL, List.range_succ]
theorem prL_at (b off ca : Nat) (zs cs : List Int) {k j : Nat} (h : j < k) : (prL b off ca zs cs k)[j]? = some (prV b off ca zs cs j) := by simp [prL, h]
/-- What partsOf hands out. -/
def PoPost (b off ca : Nat) (zs cs : List Int) (w : World) (e : Ending) (w' : World) : Prop :=
  ∃ g c, e = .returned (.tuple #[.slice (some ⟨g, 0, none⟩) (cs.length + 1) c, .bool true]) ∧ w.heap.size ≤ g ∧ g < w'.heap.size ∧ (∀ j, j < cs.length + 1 → w'.cell? ⟨g, j, none⟩ = some (prV b off ca zs cs j)) ∧ Keep w w'
set_option maxRecDepth 100000 in
set_option maxHeartbeats 4000000 in
theorem po_no (a b0 : Option Addr) (ca cb : Nat) (zs cs : List Int) (w : World) (h : Ls w a zs) (h2 : Ls w b0 cs) (hm : zs.length ≤ 1048576) (hm2 : cs.length ≤ 1048576) (hB : ajB zs cs = false) :
    Calls Try.prog 30 #[.slice a zs.length ca, .slice b0 cs.length cb] w fun e w' => e = .returned (.tuple #[.slice none 0 0, .bool false]) ∧ Keep w w' := by
  have HQ := Lib.hid (sv_impl a ca zs w h hm)
  have HC := Lib.hid (cv_impl b0 cb cs zs.length w h2 (by omega))
  rcases Bool.eq_false_or_eq_true (shB zs) with q1 | q1
  · have q2 : ctB cs zs.length = false := by rw [ajB, q1] at hB; simpa using hB
    rw [q1] at HQ
    rw [q2] at HC
    clear q1 q2 hB
    go_enter Try.func30, Try.ntmps30
    go_wp2_with fail
    refine HQ.out.mono ?_
    rintro e w1 ⟨rfl, rfl⟩
    go_wp2_with fail
    refine HC.out.mono ?_
    rintro e w1 ⟨rfl, rfl⟩
    go_wp2
    go_ret2
    exact ⟨rfl, Keep.refl _⟩
  · rw [q1] at HQ
    clear q1 hB HC
    go_enter Try.func30, Try.ntmps30
    go_wp2_with fail
    refine HQ.out.mono ?_
    rintro e w1 ⟨rfl, rfl⟩
    go_wp2
    go_ret2
    exact ⟨rfl, Keep.refl _⟩
set_option maxRecDepth 100000 in
set_option maxHeartbeats 4000000 in
theorem po_impl (b off : Nat) (b0 : Option Addr) (ca cb : Nat) (zs cs : List Int) (w : World) (h : Ls w (some ⟨b, off, none⟩) zs) (h2 : Ls w b0 cs) (hca : zs.length ≤ ca) (hm : zs.length ≤ 1048576) (hm2 : cs.length ≤ 1048576) (hB : ajB zs cs = true) :
    Calls Try.prog 30 #[.slice (some ⟨b, off, none⟩) zs.length ca, .slice b0 cs.length cb] w (PoPost b off ca zs cs w) := by
  have HQ := Lib.hid (sv_impl (some ⟨b, off, none⟩) ca zs w h hm)
  have HC := Lib.hid (cv_impl b0 cb cs zs.length w h2 (by omega))
  have HG := Lib.hid (cut_impl b off b0 ca cb zs cs 0 w h h2 hca (ajB_cc hB))
  obtain ⟨l1, l8, hlc⟩ := ajB_len hB
  obtain ⟨q1, q2⟩ := ajB_facts hB
  have HIn := Lib.hid (fun k (hk : k < cs.length) => prV_in (b := b) (off := off) (ca := ca) (zs := zs) hk)
  have HLa := Lib.hid (fun k (hk : ¬ k < cs.length) => prV_last (b := b) (off := off) (ca := ca) (zs := zs) hk)
  rw [q1] at HQ
  rw [q2] at HC
  clear q1 q2 hB
  obtain ⟨i0, hi0, hz0, hz1, hz2⟩ := info_parts infoPt
  go_enter Try.func30, Try.ntmps30
  go_wp2_with fail
  refine HQ.out.mono ?_
  rintro e w1 ⟨rfl, rfl⟩
  go_wp2_with fail
  refine HC.out.mono ?_
  rintro e w1 ⟨rfl, rfl⟩
  go_wp2_with fail
  refine HG.out.mono ?_
  rintro e w3 ⟨g, c, rfl, hgb, hO, k3⟩
  have HO := Lib.hid (fun W (k : Keep w3 W) (j : Nat) (hj : j < cs.length + 1) => show W.cell? ⟨g, j, none⟩ = some (.slice (some ⟨b, off + pS cs j, none⟩) (pE zs cs j - pS cs j) (ca - pS cs j)) by
    have h1 := World.ownsRow.cellAt hO j (by omega)
    rw [ptL_at _ _ _ _ _ hj, ptV_p] at h1
    exact k.cell h1)
  have hz3 := k3.size
  clear hO HG HQ HC h h2
  go_wp2_with fail
  go_loopw [6, 23] (fun v i wr => ∃ k : Nat, k ≤ cs.length + 1 ∧ i = .int .i64 k ∧ Hid (wr.ownsRow w3.heap.size 64 1 v k (prL b off ca zs cs k)) ∧ Keep w3 wr) (fun _ i _ => cs.length + 1 - (intOf i).toNat)
  case atStart => exact ⟨0, by omega, rfl, Lib.hid (World.ownsRow_nil _ _ _ _), Keep.refl _⟩
  case round =>
    obtain ⟨k, hk, rfl, HR, hK⟩ := hrel
    have hsz := hK.size
    by_cases hlt : k < cs.length + 1
    · have c0 := HO.out _ hK k hlt
      have kz : (k : Int) < (cs.length : Int) + 1 := by omega
      have k0 : (0 : Int) ≤ (k : Int) := by omega
      have hown := HR.out
      by_cases hl : k < cs.length
      · have HX := Lib.hid (HIn.out k hl)
        generalize hp1 : off + pS cs k = p1 at *
        generalize hp2 : pE zs cs k - pS cs k = p2 at *
        generalize hp3 : ca - pS cs k = p3 at *
        clear hp1 hp2 hp3
        go_wp2_with (at_builtin; refine wpList_append_own _ rfl _ _ 40 rfl w3.heap.size 64 i0 .nilIface 1 16 Try.underlying40 hi0 hz0 hz1 hz2 rfl (by decide) _ _ _ rfl (hown.alloc _) ⟨wr.heap.size, 0, none⟩ 1 1 [.iface 61 (.agg #[.slice (some ⟨b, p1, none⟩) p2 p3])] rfl rfl ?c1a ?c2a ?c3a ?c4a ?c5a ?_)
        try case c1a =>
          intro j u hj
          match j, hj with
          | 0, hj => simp at hj; subst hj; simp [Addr.add]
        try case c2a => first | rfl | (intro u hu; simp at hu; subst hu; rfl)
        case c3a => unfold maxLen; omega
        case c4a => omega
        case c5a => first | omega | (simp; omega)
        intro v' w9 hown' hgrow hnil
        have HN : Hid (w9.ownsRow w3.heap.size 64 1 v' (k + 1) (prL b off ca zs cs (k + 1))) := Lib.hid (by rw [prL_succ, HX.out]; exact hown')
        have HK2 : Keep w3 w9 := Below.grown (hK.alloc _) hgrow (hK.alloc _).size (fun g hg => (hown.lt g hg).1)
        clear hown' hgrow hnil hown
        go_wp2
        go_roundw
        case rel => exact ⟨k + 1, by omega, by go_num, HN, HK2⟩
        case measure => simp [intOf]; omega
      · have HX := Lib.hid (HLa.out k hl)
        generalize hp1 : off + pS cs k = p1 at *
        generalize hp2 : pE zs cs k - pS cs k = p2 at *
        generalize hp3 : ca - pS cs k = p3 at *
        clear hp1 hp2 hp3
        go_wp2_with (at_builtin; refine wpList_append_own _ rfl _ _ 40 rfl w3.heap.size 64 i0 .nilIface 1 16 Try.underlying40 hi0 hz0 hz1 hz2 rfl (by decide) _ _ _ rfl (hown.alloc _) ⟨wr.heap.size, 0, none⟩ 1 1 [.iface 62 (.agg #[.slice (some ⟨b, p1, none⟩) p2 p3])] rfl rfl ?c1a ?c2a ?c3a ?c4a ?c5a ?_)
        try case c1a =>
          intro j u hj
          match j, hj with
          | 0, hj => simp at hj; subst hj; simp [Addr.add]
        try case c2a => first | rfl | (intro u hu; simp at hu; subst hu; rfl)
        case c3a => unfold maxLen; omega
        case c4a => omega
        case c5a => first | omega | (simp; omega)
        intro v' w9 hown' hgrow hnil
        have HN : Hid (w9.ownsRow w3.heap.size 64 1 v' (k + 1) (prL b off ca zs cs (k + 1))) := Lib.hid (by rw [prL_succ, HX.out]; exact hown')
        have HK2 : Keep w3 w9 := Below.grown (hK.alloc _) hgrow (hK.alloc _).size (fun g hg => (hown.lt g hg).1)
        clear hown' hgrow hnil hown
        go_wp2
        go_roundw
        case rel => exact ⟨k + 1, by omega, by go_num, HN, HK2⟩
        case measure => simp [intOf]; omega
    · obtain rfl : k = cs.length + 1 := by omega
      obtain ⟨g2, c2, hv, hbg, hlg⟩ := HR.out.form (by omega)
      subst hv
      have HF : Hid (∀ j, j < cs.length + 1 → wr.cell? ⟨g2, j, none⟩ = some (prV b off ca zs cs j)) := Lib.hid (fun j hj => by
        have h1 := World.ownsRow.cellAt HR.out j (by omega)
        rw [prL_at _ _ _ _ _ hj] at h1
        exact h1)
      go_wp2
      go_ret2
      exact ⟨g2, c2, rfl, by omega, hlg, HF.out, k3.trans hK⟩
set_option maxHeartbeats 1000000 in
theorem med_any (a : Option Addr) (cap n : Nat) (L : List Int) (w : World) (h : Ls w a L) (hn : L.length = n) (hs : shB L = true) :
    Calls Try.prog 103 #[.slice a n cap] w fun e w' => e = .returned (.int .i64 (mdL L)) ∧ Keep w w' := by
  subst hn
  obtain ⟨h1, h2, _⟩ := sh_mo hs
  have HM := Lib.hid (mo_impl a cap L w h (by have := (shB_facts hs).2.1; omega))
  rw [h1, h2] at HM
  clear h1 h2 hs h
  go_enter Try.func103, Try.ntmps103
  go_wp2_with fail
  refine HM.out.mono ?_
  rintro e w1 ⟨rfl, k1⟩
  go_wp2
  go_ret
  exact ⟨rfl, k1⟩
set_option maxRecDepth 100000 in
set_option maxHeartbeats 2000000 in
theorem mov_any (b off cap n : Nat) (L : List Int) (x : Int) (w : World) (h : Ls w (some ⟨b, off, none⟩) L) (hn : L.length = n) (hn0 : 0 < n) (hn8 : n ≤ 8) (hL : ∀ j, j < n → -1000 ≤ L.getD j 0 ∧ L.getD j 0 ≤ 11000) (hx : -30000 ≤ x ∧ x ≤ 30000) :
    Calls Try.prog 104 #[.slice (some ⟨b, off, none⟩) n cap, .int .i64 x] w fun e w' => ∃ g, e = .returned (.slice (some ⟨g, 0, none⟩) n n) ∧ w.heap.size ≤ g ∧ g < w'.heap.size ∧ Wr w' g (L.map (· + x)) ∧ Keep w w' := by
  have hmk := fun W => run_make_row' (P := Try.prog) 23 3 (.int .i64 0) 8 Try.underlying23 infoIntO rfl .i64 .i64 n (by omega) (by omega) W
  have HLn : Hid ((L.map (· + x)).length = n) := Lib.hid (by rw [List.length_map, hn])
  have HAt : Hid (∀ k, k < n → (L.map (· + x)).getD k 0 = L.getD k 0 + x) := Lib.hid (fun k hk => map_getD _ (by rw [hn]; exact hk))
  have HC := Lib.hid (fun k (hk : k < n) W (kW : Keep w W) => (h.keep kW).at_ (i := k) (by omega))
  have HBd := Lib.hid hL
  generalize hM : L.map (· + x) = M at *
  clear hM h hn hL
  go_enter Try.func104, Try.ntmps104
  go_wp2_with fail
  go_loopw [13] (fun i wr => ∃ k : Nat, k ≤ n ∧ i = .int .i64 k ∧ Hid (Wr wr w.heap.size (M.take k ++ List.replicate (n - k) 0)) ∧ w.heap.size < wr.heap.size ∧ Keep w wr) (fun i _ => n - (intOf i).toNat)
  case atStart =>
    refine ⟨0, by omega, rfl, Lib.hid ?_, by simp, (Keep.refl w).alloc _⟩
    intro j hj
    have hj' : j < n := by simpa using hj
    refine ⟨(World.cell?_alloc_new w _ _ j).trans ?_, World.frozen?_alloc_at _ _ _ _ rfl⟩
    rw [made_at _ _ hj']
    simp [List.getD_eq_getElem?_getD, hj']
  case round =>
    obtain ⟨k, hk, rfl, HW, hlw, hK⟩ := hrel
    clear hmk
    have k0 : (0 : Int) ≤ (k : Int) := by omega
    by_cases hlt : k < n
    · obtain ⟨b', off', he, hb, c0⟩ := HC.out k hlt wr hK
      injection he with he
      injection he with he1 he2 _
      subst he1
      subst he2
      have hlen : (M.take k ++ List.replicate (n - k) 0).length = n := by have := HLn.out; simp; omega
      obtain ⟨u0, u1⟩ := HW.out k (by rw [hlen]; exact hlt)
      obtain ⟨x0, x1⟩ := HBd.out k hlt
      have hP : (M.take k ++ List.replicate (n - k) 0).set k (M.getD k 0) = M.take (k + 1) ++ List.replicate (n - (k + 1)) 0 := by
        have h9 := part_set M k (by rw [HLn.out]; exact hlt)
        rw [HLn.out] at h9; exact h9
      have HW2 := Lib.hid (HW.out.set (k := k) (by rw [hlen]; exact hlt) (M.getD k 0))
      rw [hP, HAt.out k hlt] at HW2
      have kz : (k : Int) < (n : Int) := by omega
      clear hP hlen
      generalize (M.take k ++ List.replicate (n - k) 0).getD k 0 = y at u0
      generalize L.getD k 0 = z at *
      have wz : IntKind.i64.wrap (z + x) = z + x := IntWalk.i64_in _ ⟨by omega, by omega⟩
      go_wp2
      go_roundw
      case rel => exact ⟨k + 1, by omega, by go_num, HW2, by simpa [World.setCell] using hlw, hK.setCell (Nat.le_refl _) _⟩
      case measure => simp [intOf]; omega
    · have HWF : Hid (Wr wr w.heap.size M) := Lib.hid (by
        have h9 := HW.out
        rw [show k = n by omega, List.take_of_length_le (by rw [HLn.out]; exact Nat.le_refl _), Nat.sub_self] at h9
        simpa using h9)
      go_wp2
      go_ret
      exact ⟨w.heap.size, rfl, Nat.le_refl _, hlw, HWF.out, hK⟩
end Go.Proofs.Ytehjjoalnfpgdaa
