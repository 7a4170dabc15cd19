/- Medians: the program and the model answer 'moB', 'moV'. -/
import Derived.Test.YtpgdbhafdnfhcaaMp
import Derived.Test.YtpgdbhafdnfhcaaLw
import Derived.Test.YtpgdbhafdnfhcaaSq
import Derived.Test.YtpgdbhafdnfhcaaFc
import Derived.LoopTactic
import Derived.IntWalk
import Derived.Lib.SliceRun
namespace Go.Proofs.Ytpgdbhafdnfhcaa
open Go.RowKit
set_option linter.unusedVariables false

set_option maxRecDepth 100000 in
set_option maxHeartbeats 2000000 in
theorem known2_any (a : Option Addr) (c : Nat) (zs : List Int) (w : World) (h : Ls w a zs) (hm : zs.length ≤ 1048576) :
    Calls Try.prog 91 #[.slice a zs.length c] w (MadeL (knl zs) w) := by
  obtain ⟨i0, hi0, hz0, hz1, hz2⟩ := info_parts infoIntL
  go_enter Try.func91, Try.ntmps91
  go_wp2_with fail
  go_loopw [3, 4] (fun u i wr => ∃ (k n g cc : Nat), k ≤ zs.length ∧ n ≤ k ∧ i = .int .i64 k ∧ u = .slice (some ⟨g, 0, none⟩) n cc ∧ Hid (wr.ownsRow w.heap.size 3 1 (.slice (some ⟨g, 0, none⟩) n cc) n ((knl (zs.take k)).map (Value.int .i64))) ∧ Keep w wr) (fun _ i _ => zs.length - (intOf i).toNat)
  case atStart => exact ⟨0, 0, w.heap.size, 0, by omega, by omega, rfl, rfl, Lib.hid (World.ownsRow_made w #[] 0 (Nat.le_refl _) (by unfold maxLen; omega) rfl), (Keep.refl w).alloc _⟩
  case round =>
    obtain ⟨k, n, g, cc, hk, hn, rfl, rfl, HW, hK⟩ := hrel
    have hsz := hK.size
    by_cases hlt : k < zs.length
    · obtain ⟨bz, oz, rfl, hbz, cz⟩ := (h.keep hK).at_ hlt
      have hown := HW.out
      have HS0 : Hid (knl (zs.take (k + 1)) = knl (zs.take k) ++ knl [zs.getD k 0]) := Lib.hid (by
        rw [List.take_succ_eq_append_getElem hlt, knl, knl, knl, List.filter_append]
        simp [List.getD_eq_getElem?_getD, hlt])
      by_cases hx : zs.getD k 0 = -9999
      · have HS : Hid (knl (zs.take (k + 1)) = knl (zs.take k)) := Lib.hid (by rw [HS0.out, hx]; simp [knl])
        rw [hx] at cz
        rw [← HS.out] at HW
        clear hx HS0 hown
        go_wp2_with fail
        go_roundw
        case rel => exact ⟨k + 1, n, g, cc, by omega, by omega, by go_num, rfl, HW, hK⟩
        case measure => simp [intOf]; omega
      · have hx2 : (zs.getD k 0 != -9999) = true := bne_iff_ne.2 hx
        have HS : Hid (knl (zs.take (k + 1)) = knl (zs.take k) ++ [zs.getD k 0]) := Lib.hid (by rw [HS0.out]; simp only [knl, List.filter_cons, hx2, List.filter_nil]; rfl)
        clear hx HS0
        generalize zs.getD k 0 = y at cz HS hx2
        go_wp2_with (at_builtin; refine wpList_append_own _ rfl _ _ 43 rfl w.heap.size 3 i0 (.int .i64 0) 1 8 Try.underlying43 hi0 hz0 hz1 hz2 rfl (by decide) _ _ _ rfl (hown.alloc _) ⟨wr.heap.size, 0, none⟩ 1 1 [.int .i64 y] rfl rfl ?c1a ?c2a ?c3a ?c4a ?c5a ?_)
        case c1a =>
          intro j u hj
          match j, hj with
          | 0, hj => simp at hj; subst hj; simp [Addr.add]
        case c2a => first | rfl | (intro u hu; simp at hu; subst hu; rfl)
        case c3a => unfold maxLen; omega
        case c4a => omega
        case c5a => first | omega | (simp; omega)
        intro v' w5 hown' hgrow hnil
        obtain ⟨g', c', rfl, hbg, hlg⟩ := hown'.form (by omega)
        have HN : Hid (w5.ownsRow w.heap.size 3 1 (.slice (some ⟨g', 0, none⟩) (n + 1) c') (n + 1) ((knl (zs.take (k + 1))).map (Value.int .i64))) := Lib.hid (by rw [HS.out]; simpa using hown')
        have HK2 := Lib.hid ((Below.grown (hK.alloc (.cells #[.int .i64 y] 3)) hgrow (hK.alloc (.cells #[.int .i64 y] 3)).size (fun q hq => (hown.lt q hq).1)) : Keep w w5)
        clear hown' hgrow hnil hown
        go_wp2
        go_roundw
        case rel => exact ⟨k + 1, n + 1, g', c', by omega, by omega, by go_num, rfl, HN, HK2.out⟩
        case measure => simp [intOf]; omega
    · obtain rfl : k = zs.length := by omega
      have HF := Lib.hid (show wr.ownsRow w.heap.size 3 1 (.slice (some ⟨g, 0, none⟩) n cc) n ((knl zs).map (Value.int .i64)) by
        have h1 := HW.out
        rwa [List.take_length] at h1)
      go_wp2
      go_ret
      exact made_own HF.out hK
theorem kv1_any (x : Int) (w : World) : Calls Try.prog 127 #[.int .i64 x] w fun e w' => e = .returned (.bool (x == -9999)) ∧ w = w' := by
  go_enter Try.func127, Try.ntmps127
  go_wp2
  go_ret
  exact ⟨rfl, rfl⟩
def FirstNone (zs : List Int) (w : World) (e : Ending) (w' : World) : Prop :=
  ((∃ i, i < zs.length ∧ zs.getD i 0 = -9999 ∧ (∀ j, j < i → zs.getD j 0 ≠ -9999) ∧ e = .returned (.int .i64 (i : Int))) ∨ ((∀ j, j < zs.length → zs.getD j 0 ≠ -9999) ∧ e = .returned (.int .i64 (-1)))) ∧ w = w'
set_option maxHeartbeats 1000000 in
theorem ix_any (a : Option Addr) (cap : Nat) (zs : List Int) (w : World) (h : Ls w a zs) (hm : zs.length ≤ 1048576) :
    Calls Try.prog 137 #[.slice a zs.length cap, .func (.func 127) #[] #[]] w (FirstNone zs w) := by
  go_enter Try.func137, Try.ntmps137
  go_wp2_with fail
  go_loop [8] (fun i => ∃ k : Nat, k ≤ zs.length ∧ i = .int .i64 k ∧ Hid (∀ j, j < k → zs.getD j 0 ≠ -9999)) (fun i => zs.length - (intOf i).toNat)
  case atStart => exact ⟨0, by omega, rfl, Lib.hid (fun j hj => absurd hj (by omega))⟩
  case round =>
    obtain ⟨k, hk, rfl, HA⟩ := hrel
    by_cases hlt : k < zs.length
    · obtain ⟨b, off, rfl, hb, hc⟩ := h.at_ hlt
      by_cases hx : zs.getD k 0 = -9999
      · have HX := Lib.hid hx
        rw [hx] at hc
        clear hx
        go_wp2_with fail
        refine (kv1_any _ _).mono ?_
        rintro e w' ⟨rfl, rfl⟩
        go_wp2
        go_ret
        exact ⟨.inl ⟨k, hlt, HX.out, HA.out, rfl⟩, rfl⟩
      · have hx2 : (zs.getD k 0 == -9999) = false := beq_eq_false_iff_ne.2 hx
        have HS : Hid (∀ j, j < k + 1 → zs.getD j 0 ≠ -9999) := Lib.hid (fun j hj => by
          by_cases e : j < k
          · exact HA.out j e
          · obtain rfl : j = k := by omega
            exact hx)
        clear hx
        generalize zs.getD k 0 = x at hc hx2
        go_wp2_with fail
        refine (kv1_any _ _).mono ?_
        rintro e w' ⟨rfl, rfl⟩
        go_wp2
        go_round
        case rel => exact ⟨k + 1, by omega, by go_num, HS⟩
        case measure => simp [intOf]; omega
    · obtain rfl : k = zs.length := by omega
      go_wp2
      go_ret
      exact ⟨.inr ⟨HA.out, rfl⟩, rfl⟩
theorem zeroI (w : World) : (zeroValue 3).run Try.prog w = .ok (.int .i64 0) w := by kernel_rfl
theorem knl_take (zs : List Int) {k : Nat} (h : k < zs.length) : knl (zs.take (k + 1)) = knl (zs.take k) ++ knl [zs.getD k 0] := by
  rw [List.take_succ_eq_append_getElem h, knl, knl, knl, List.filter_append]
  simp [List.getD_eq_getElem?_getD, h]
theorem knl_all {zs : List Int} (h : ∀ j, j < zs.length → zs.getD j 0 ≠ -9999) : knl zs = zs := by
  rw [knl, List.filter_eq_self]
  intro x hx
  obtain ⟨i, hi, rfl⟩ := List.getElem_of_mem hx
  have := h i hi
  refine bne_iff_ne.2 ?_
  simpa [List.getD_eq_getElem?_getD, hi] using this
theorem set_take_snoc {ys : List Int} {n : Nat} (h : n < ys.length) (x : Int) : (ys.set n x).take (n + 1) = ys.take n ++ [x] := by
  rw [List.take_succ_eq_append_getElem (by simpa using h)]
  simp [List.take_set_of_le]
theorem wr_part {w : World} {g : Nat} {ys : List Int} (h : Wr w g ys) (n : Nat) : Wr w g (ys.take n) := by
  intro j hj
  rw [List.length_take] at hj
  have := h j (by omega)
  have e : (ys.take n).getD j 0 = ys.getD j 0 := by simp [List.getD_eq_getElem?_getD, (show j < n by omega)]
  rw [e]; exact this
theorem wr_clear {w : World} {g : Nat} {ys : List Int} (h : Wr w g ys) (n m : Nat) : Wr (w.setCells g n (List.replicate m (.int .i64 0))) g (ys.take n) := by
  intro j hj
  have h2 := wr_part h n j hj
  rw [List.length_take] at hj
  rw [World.cell?_setCells_out g _ n w ⟨g, j, none⟩ (fun _ _ => .inl (by show j < n; omega)), World.frozen?_setCells]
  exact h2
theorem only_setCells {w : World} {g : Nat} : ∀ (vs : List Value) (o : Nat) (w' : World), Only g w w' → Only g w (w'.setCells g o vs)
  | [], _, _, h => h
  | v :: vs, o, w', h => only_setCells vs (o + 1) _ (h.put1 o v)
set_option maxRecDepth 100000 in
set_option maxHeartbeats 2000000 in
theorem dl_any (g cap : Nat) (zs : List Int) (w : World) (h : Wr w g zs) (hg : g < w.heap.size) (hm : zs.length ≤ 1048576) (hcap : zs.length ≤ cap) :
    Calls Try.prog 125 #[.slice (some ⟨g, 0, none⟩) zs.length cap, .func (.func 127) #[] #[]] w fun e w' =>
      e = .returned (.slice (some ⟨g, 0, none⟩) (knl zs).length cap) ∧ Only g w w' ∧ Wr w' g (knl zs) := by
  go_enter Try.func125, Try.ntmps125
  go_wp2_with fail
  refine (ix_any _ cap zs w h.ls hm).mono ?_
  rintro e w1 ⟨hh, rfl⟩
  rcases hh with ⟨i, hi, hx, hb, rfl⟩ | ⟨hb, rfl⟩
  · have hk0 : knl (zs.take (i + 1)) = zs.take i := by
      rw [knl_take zs hi, hx]
      have e1 : knl (zs.take i) = zs.take i := knl_all (fun j hj => by
        rw [List.length_take] at hj
        have := hb j (by omega)
        simpa [List.getD_eq_getElem?_getD, List.getElem?_take, (show j < i by omega)] using this)
      rw [e1]; simp [knl]
    have HK0 := Lib.hid hk0
    have HW0 := Lib.hid h
    clear hx hb hk0 h
    go_wp2_with fail
    go_loopw [5, 6] (fun p q wr => ∃ (k n : Nat) (ys : List Int), k ≤ zs.length ∧ n < k ∧ p = .int .i64 n ∧ q = .int .i64 k ∧ Hid (ys.length = zs.length) ∧ Hid (ys.take n = knl (zs.take k)) ∧ Hid (∀ j, k ≤ j → ys.getD j 0 = zs.getD j 0) ∧ Hid (Wr wr g ys) ∧ Only g w wr) (fun _ q _ => zs.length - (intOf q).toNat)
    case atStart => exact ⟨i + 1, i, zs, by omega, by omega, rfl, by go_num, Lib.hid rfl, Lib.hid HK0.out.symm, Lib.hid (fun _ _ => rfl), HW0, Only.refl _ _⟩
    case round =>
      obtain ⟨k, n, ys, hk, hn, rfl, rfl, HL, HT, HR, HW, hO⟩ := hrel
      by_cases hlt : k < zs.length
      · obtain ⟨ck, fk⟩ := HW.out k (by rw [HL.out]; exact hlt)
        obtain ⟨cn, fn⟩ := HW.out n (by rw [HL.out]; omega)
        rw [HR.out k (Nat.le_refl _)] at ck
        have HS0 := Lib.hid (knl_take zs hlt)
        have HR2 : Hid (∀ j, k + 1 ≤ j → ys.getD j 0 = zs.getD j 0) := Lib.hid (fun j hj => HR.out j (by omega))
        by_cases hx : zs.getD k 0 = -9999
        · have HS : Hid (ys.take n = knl (zs.take (k + 1))) := Lib.hid (by rw [HT.out, HS0.out, hx]; simp [knl])
          rw [hx] at ck
          clear hx HS0 HR
          generalize ys.getD n 0 = y at cn
          go_wp2_with fail
          refine (kv1_any _ _).mono ?_
          rintro e w' ⟨rfl, rfl⟩
          go_wp2
          refine ⟨?_, ?measure⟩
          (repeat apply Exists.intro)
          refine ⟨?rel, rfl⟩
          case rel => exact ⟨k + 1, n, ys, by omega, by omega, rfl, by go_num, HL, HS, HR2, HW, hO⟩
          case measure => simp [intOf]; omega
        · have hx2 : (zs.getD k 0 == -9999) = false := beq_eq_false_iff_ne.2 hx
          have hx3 : (zs.getD k 0 != -9999) = true := bne_iff_ne.2 hx
          have HS : Hid ((ys.set n (zs.getD k 0)).take (n + 1) = knl (zs.take (k + 1))) := Lib.hid (by
            rw [set_take_snoc (by rw [HL.out]; omega), HT.out, HS0.out]
            simp only [knl, List.filter_cons, hx3, List.filter_nil]; rfl)
          have HR3 : Hid (∀ j, k + 1 ≤ j → (ys.set n (zs.getD k 0)).getD j 0 = zs.getD j 0) := Lib.hid (fun j hj => by
            rw [← HR.out j (by omega)]
            simp [List.getD_eq_getElem?_getD, List.getElem?_set_ne (show n ≠ j by omega)])
          have HL2 : Hid ((ys.set n (zs.getD k 0)).length = zs.length) := Lib.hid (by rw [List.length_set]; exact HL.out)
          have HW2 : Hid (Wr (wr.setCell ⟨g, n, none⟩ (.int .i64 (zs.getD k 0))) g (ys.set n (zs.getD k 0))) := Lib.hid (HW.out.set (by rw [HL.out]; omega) _)
          clear hx HS0 HR hx3
          generalize ys.set n (zs.getD k 0) = ys2 at *
          generalize zs.getD k 0 = x at *
          generalize ys.getD n 0 = y at cn
          go_wp2_with fail
          refine (kv1_any _ _).mono ?_
          rintro e w' ⟨rfl, rfl⟩
          go_wp2
          refine ⟨?_, ?measure⟩
          (repeat apply Exists.intro)
          refine ⟨?rel, rfl⟩
          case rel => exact ⟨k + 1, n + 1, ys2, by omega, by omega, by go_num, by go_num, HL2, HS, HR3, HW2, hO.put1 _ _⟩
          case measure => simp [intOf]; omega
      · obtain rfl : k = zs.length := by omega
        have HT2 : Hid (ys.take n = knl zs) := Lib.hid (by rw [HT.out, List.take_length])
        have HN : Hid (n = (knl zs).length) := Lib.hid (by rw [← HT2.out, List.length_take, HL.out]; omega)
        have hcl : ∀ ty, (Builtin.clear_ #[43] ty #[.slice (some ⟨g, n, none⟩) (zs.length - n) (cap - n)]).run Try.prog wr = .ok (.tuple #[]) (wr.setCells g n (List.replicate (zs.length - n) (.int .i64 0))) :=
          fun ty => Lib.run_clear_slice wr 43 3 ty (.int .i64 0) Try.underlying43 zeroI rfl rfl g n (zs.length - n) (cap - n) (by omega) (fun j hj => by rw [(HW.out (n + j) (by rw [HL.out]; omega)).1]; rfl) (fun j hj => (HW.out (n + j) (by rw [HL.out]; omega)).2)
        have hcn : ¬ cap = n := by omega
        have hcn2 : (cap == n) = false := beq_eq_false_iff_ne.2 hcn
        clear HT
        go_wp2_with (simp only [hcl])
        go_ret
        refine ⟨?_, only_setCells _ _ _ hO, ?_⟩
        · rw [← HN.out]; rfl
        · rw [← HT2.out]; exact wr_clear HW.out n _
  · have HE := Lib.hid (knl_all hb)
    have HW0 := Lib.hid h
    clear hb h
    go_wp2
    go_ret
    refine ⟨?_, Only.refl _ _, by rw [HE.out]; exact HW0.out⟩
    rw [HE.out]; rfl
set_option maxHeartbeats 1000000 in
theorem kvs_any (a : Option Addr) (cap : Nat) (zs : List Int) (w : World) (h : Ls w a zs) (h0 : 0 < zs.length) (hm : zs.length ≤ 1048576) :
    Calls Try.prog 98 #[.slice a zs.length cap] w (MadeL (knl zs) w) := by
  go_enter Try.func98, Try.ntmps98
  go_wp2_with fail
  refine (cloneI_any a cap zs w h h0 hm).mono ?_
  rintro e w1 ⟨g, c, rfl, hc, hg, hl, hW, k1⟩
  go_wp2_with fail
  refine (dl_any g c zs w1 hW hl hm hc).mono ?_
  rintro e w2 ⟨rfl, ho, hW2⟩
  have hk : (knl zs).length ≤ zs.length := List.length_filter_le _ _
  have hs : w1.heap.size ≤ w2.heap.size := ho.size
  go_wp2
  go_ret
  exact ⟨g, c, rfl, by omega, hW2, hg, by omega, k1.trans' ho hg⟩
theorem retIB {a b : Int} {x y : Bool} (h : a = b) (h' : x = y) : Ending.returned (.tuple #[.int .i64 a, .bool x]) = .returned (.tuple #[.int .i64 b, .bool y]) := by rw [h, h']
set_option maxRecDepth 100000 in
set_option maxHeartbeats 1000000 in
theorem mo_impl (a : Option Addr) (cap : Nat) (zs : List Int) (w : World) (h : Ls w a zs) (hm : zs.length ≤ 1048576) :
    Calls Try.prog 44 #[.slice a zs.length cap] w fun e w' => e = .returned (.tuple #[.int .i64 (moV zs), .bool (moB zs)]) ∧ Keep w w' := by
  have HN0 : ∀ hb : moB zs = false, Ending.returned (.tuple #[.int .i64 0, .bool false]) = .returned (.tuple #[.int .i64 (moV zs), .bool (moB zs)]) := fun hb => by rw [moV_no hb, hb]
  have HN := Lib.hid HN0
  clear HN0
  go_enter Try.func44, Try.ntmps44
  go_wp2_with fail
  refine (sk_impl a cap zs w h (by omega)).mono ?_
  rintro e w1 ⟨rfl, rfl⟩
  rcases Bool.eq_false_or_eq_true (sqB zs) with hs | hs
  case' inr =>
    have HB := Lib.hid (show moB zs = false by simp [moB, hs])
    rw [sk_no hs]
    go_wp2
    go_ret2
    exact ⟨HN.out HB.out, Keep.refl _⟩
  obtain ⟨_, hl1, hl12⟩ := sq_facts hs
  have hkn := knN_all zs
  have hsk := sk_yes hs
  rw [hkn] at hsk
  rw [hsk]
  have HS := Lib.hid hs
  have HK := Lib.hid (fun W (k : Keep w W) => kvs_any a cap zs W (h.keep k) (by omega) hm)
  have hle : (knl zs).length ≤ 12 := by have : (knl zs).length ≤ zs.length := List.length_filter_le _ _; omega
  clear hs hsk hkn
  by_cases h0 : (knl zs).length < 1
  · have HB := Lib.hid (show moB zs = false by rw [moB]; simp only [Bool.and_eq_false_iff]; right; exact decide_eq_false (by omega))
    go_wp2
    go_ret2
    exact ⟨HN.out HB.out, Keep.refl _⟩
  have HB := Lib.hid (show moB zs = true by rw [moB, HS.out]; simp only [Bool.true_and]; exact decide_eq_true (by omega))
  have HV := Lib.hid (moV_yes HB.out)
  have HSl := Lib.hid (sorted_length (knl zs))
  go_wp2_with fail
  refine (HK.out _ (Keep.refl _)).mono ?_
  rintro e w2 ⟨g, c, rfl, hc, hW, hg, hl, k2⟩
  clear HK
  generalize knl zs = L at *
  have hh0 : 1 ≤ L.length := by omega
  go_wp2_with fail
  refine (sort_ints g c L w2 hW hl (by omega)).mono ?_
  rintro e w3 ⟨rfl, ho, hI⟩
  obtain ⟨m, hmm⟩ : ∃ m : Nat, (L.length - 1) / 2 = m := ⟨_, rfl⟩
  have hm1 : ((L.length : Int) - 1) / 2 = (m : Int) := by omega
  have hm2 : m < L.length := by omega
  have k3 := k2.trans' ho hg
  obtain ⟨cm, _⟩ := hI m (by rw [HSl.out]; exact hm2)
  have HX : Hid (moV zs = (sorted L).getD m 0) := Lib.hid (by rw [HV.out, mdL, hmm])
  clear hmm hI HV
  generalize (sorted L).getD m 0 = x at *
  go_wp2
  go_ret2
  exact ⟨retIB HX.out.symm HB.out.symm, k3⟩
theorem cLt_take {L : List Int} {q : Nat} (h : q < L.length) (x : Int) : cLt (L.take (q + 1)) x = cLt (L.take q) x + (if L.getD q 0 < x then 1 else 0) := by
  rw [List.take_succ_eq_append_getElem h, cLt, cLt, List.countP_append]
  simp [List.getD_eq_getElem?_getD, h, List.countP_cons]
theorem cEq_take {L : List Int} {q : Nat} (h : q < L.length) (x : Int) : cEq (L.take (q + 1)) x = cEq (L.take q) x + (if L.getD q 0 = x then 1 else 0) := by
  rw [List.take_succ_eq_append_getElem h, cEq, cEq, List.countP_append]
  simp [List.getD_eq_getElem?_getD, h, List.countP_cons]
/-- Value v is in the middle. -/
def midB (L : List Int) (v : Int) : Prop := cLt L v ≤ (L.length - 1) / 2 ∧ (L.length - 1) / 2 < cLt L v + cEq L v
theorem mid_md {L : List Int} {v : Int} (h0 : 0 < L.length) (h : midB L v) : mdL L = v := (mdL_iff L v h0).1 (by rw [cLe_parts]; exact h)
theorem md_mid {L : List Int} (h0 : 0 < L.length) : ∃ k, k < L.length ∧ midB L (L.getD k 0) := by
  obtain ⟨k, hk, he⟩ := List.getElem_of_mem (mdL_mem h0)
  refine ⟨k, hk, ?_⟩
  have e : L.getD k 0 = mdL L := by simp [List.getD_eq_getElem?_getD, hk, he]
  have := (mdL_iff L _ h0).2 rfl
  rw [cLe_parts] at this
  rw [e]; exact this
set_option maxRecDepth 100000 in
set_option maxHeartbeats 3200000 in
theorem md_spec (a : Option Addr) (cap : Nat) (L : List Int) (w : World) (h : Ls w a L) (h0 : 0 < L.length) (hm : L.length ≤ 1048576) :
    Calls Try.prog 92 #[.slice a L.length cap] w fun e w' => e = .returned (.int .i64 (mdL L)) ∧ Keep w w' := by
  obtain ⟨m, hmm⟩ : ∃ m : Nat, (L.length - 1) / 2 = m := ⟨_, rfl⟩
  have hm1 : ((L.length : Int) - 1) / 2 = (m : Int) := by omega
  have hmB : m ≤ 1048576 := by omega
  have HM : Hid (∀ v, midB L v ↔ (cLt L v ≤ m ∧ m < cLt L v + cEq L v)) := Lib.hid (fun v => by rw [midB, hmm])
  obtain ⟨b, off, rfl, hb, hc⟩ := h.all h0
  have HC := Lib.hid hc
  clear hc hmm
  go_enter Try.func92, Try.ntmps92
  go_wp2_with fail
  go_loopw [3] (fun i wr => ∃ k : Nat, k ≤ L.length ∧ i = .int .i64 k ∧ Hid (∀ j, j < k → ¬ midB L (L.getD j 0)) ∧ Keep w wr) (fun i _ => L.length - (intOf i).toNat)
  case atStart => exact ⟨0, by omega, rfl, Lib.hid (fun j hj => absurd hj (by omega)), Keep.refl _⟩
  case round =>
    obtain ⟨k, hk, rfl, HA, hK⟩ := hrel
    by_cases hlt : k < L.length
    case' neg =>
      obtain ⟨j, hj, hjm⟩ := md_mid h0
      exact absurd hjm (HA.out j (by omega))
    obtain ⟨x, hx⟩ : ∃ x, L.getD k 0 = x := ⟨_, rfl⟩
    have HX := Lib.hid hx
    have ck := hK.cell (HC.out k hlt)
    rw [hx] at ck
    clear hx
    go_wp2_with fail
    go_loopw [4, 5, 6] (fun p q i wr2 => ∃ u n1 n2 : Nat, u ≤ L.length ∧ n1 ≤ u ∧ n2 ≤ u ∧ p = .int .i64 n1 ∧ q = .int .i64 n2 ∧ i = .int .i64 u ∧ Hid (cLt (L.take u) x = n1) ∧ Hid (cEq (L.take u) x = n2) ∧ Keep wr wr2) (fun _ _ i _ => L.length - (intOf i).toNat)
    case atStart => exact ⟨0, 0, 0, by omega, by omega, by omega, rfl, rfl, rfl, Lib.hid (by simp [cLt]), Lib.hid (by simp [cEq]), Keep.refl _⟩
    case round =>
      obtain ⟨u, n1, n2, hu, hn1, hn2, rfl, rfl, rfl, H1, H2, hK2⟩ := hrel
      have dk := hK2.cell ck
      have hKK := hK.trans hK2
      by_cases hul : u < L.length
      · have du := hKK.cell (HC.out u hul)
        have T1 := Lib.hid (cLt_take hul x)
        have T2 := Lib.hid (cEq_take hul x)
        rw [H1.out] at T1
        rw [H2.out] at T2
        generalize L.getD u 0 = y at du T1 T2
        by_cases q1 : y < x
        · have HT1 : Hid (cLt (L.take (u + 1)) x = n1 + 1) := Lib.hid (by rw [T1.out, if_pos q1])
          have HT2 : Hid (cEq (L.take (u + 1)) x = n2) := Lib.hid (by rw [T2.out, if_neg (by omega), Nat.add_zero])
          have q2 : (y == x) = false := beq_eq_false_iff_ne.2 (by omega)
          clear T1 T2
          go_wp2_with fail
          go_quiet (fail)
          go_wp2_with fail
          go_quiet (fail)
          go_wp2
          go_roundw
          case rel => exact ⟨u + 1, n1 + 1, n2, by omega, by omega, by omega, by go_num, rfl, by go_num, HT1, HT2, by first | exact hK2.drewN _ | exact (hK2.drewN _).drewN _⟩
          case measure => simp [intOf]; omega
        · by_cases q3 : y = x
          · subst q3
            have HT1 : Hid (cLt (L.take (u + 1)) y = n1) := Lib.hid (by rw [T1.out, if_neg q1, Nat.add_zero])
            have HT2 : Hid (cEq (L.take (u + 1)) y = n2 + 1) := Lib.hid (by rw [T2.out, if_pos rfl])
            clear T1 T2
            go_wp2_with fail
            go_quiet (fail)
            go_wp2_with fail
            go_quiet (fail)
            go_wp2
            go_roundw
            case rel => exact ⟨u + 1, n1, n2 + 1, by omega, by omega, by omega, rfl, by go_num, by go_num, HT1, HT2, by first | exact hK2.drewN _ | exact (hK2.drewN _).drewN _⟩
            case measure => simp [intOf]; omega
          · have HT1 : Hid (cLt (L.take (u + 1)) x = n1) := Lib.hid (by rw [T1.out, if_neg q1, Nat.add_zero])
            have HT2 : Hid (cEq (L.take (u + 1)) x = n2) := Lib.hid (by rw [T2.out, if_neg q3, Nat.add_zero])
            have q2 : (y == x) = false := beq_eq_false_iff_ne.2 q3
            clear T1 T2
            go_wp2_with fail
            go_quiet (fail)
            go_wp2_with fail
            go_quiet (fail)
            go_wp2
            go_roundw
            case rel => exact ⟨u + 1, n1, n2, by omega, by omega, by omega, rfl, rfl, by go_num, HT1, HT2, by first | exact hK2.drewN _ | exact (hK2.drewN _).drewN _⟩
            case measure => simp [intOf]; omega
      · obtain rfl : u = L.length := by omega
        have HE := Lib.hid (HM.out x)
        rw [List.take_length] at H1 H2
        rw [H1.out, H2.out] at HE
        by_cases q1 : n1 ≤ m ∧ m < n1 + n2
        · obtain ⟨q2, q3⟩ := id q1
          have HF := Lib.hid (mid_md h0 (HE.out.2 q1))
          clear q1 HE
          go_wp2
          go_ret
          exact ⟨retI HF.out.symm, hKK⟩
        · have q2 : m < n1 ∨ (n1 ≤ m ∧ n1 + n2 ≤ m) := by omega
          have HS : Hid (∀ j, j < k + 1 → ¬ midB L (L.getD j 0)) := Lib.hid (fun j hj => by
            by_cases e : j < k
            · exact HA.out j e
            · obtain rfl : j = k := by omega
              rw [HX.out, HE.out]; exact q1)
          clear q1 HE
          rcases q2 with q2 | ⟨q2, q3⟩
          all_goals
            go_wp2
            go_roundw
            case rel => exact ⟨k + 1, by omega, by go_num, HS, hKK⟩
            case measure => simp [intOf]; omega
end Go.Proofs.Ytpgdbhafdnfhcaa
