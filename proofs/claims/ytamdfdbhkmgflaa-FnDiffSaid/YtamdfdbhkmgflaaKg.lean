/- Keys deleted: slices.IndexFunc and slices.DeleteFunc of keys, by a function that makes memory. -/
import Derived.Test.YtamdfdbhkmgflaaKf
namespace Go.Proofs.Ytamdfdbhkmgflaa
open Go.RowKit
set_option linter.unusedVariables false

theorem Only.keepK {B : Nat} {a b c : World} (h : Only B a b) (k : Keep b c) : Only B a c :=
  ⟨(Below.os k).trans h.os, (Below.tape k).trans h.tape, (Below.output k).trans h.output, Nat.le_trans h.size k.size, fun i hi hne => (Below.block k i (Nat.lt_of_lt_of_le hi h.size)).trans (h.block i hi hne)⟩
/-- A function of keys: what it answers in every world that differs from w in block g alone. -/
def ClK (g : Nat) (w : World) (u1 u2 : Value) (p : K3 → Bool) : Prop :=
  ∀ (s d t : Int) (W : World), Only g w W → Calls Try.prog 26 #[.agg #[.int .i64 s, .int .i64 d, .int .i64 t], u1, u2] W fun e w' => e = .returned (.bool (p (s, d, t))) ∧ Keep W w'
def FirstK (p : K3 → Bool) (g : Nat) (ys : List K3) (w : World) (e : Ending) (w' : World) : Prop :=
  ((∃ i, i < ys.length ∧ p (ys.getD i k0) = true ∧ (∀ j, j < i → p (ys.getD j k0) = false) ∧ e = .returned (.int .i64 (i : Int))) ∨ ((∀ j, j < ys.length → p (ys.getD j k0) = false) ∧ e = .returned (.int .i64 (-1)))) ∧ Only g w w' ∧ WrK w' g ys
set_option maxRecDepth 100000 in
set_option maxHeartbeats 2000000 in
theorem ixK (g cap : Nat) (ys : List K3) (u1 u2 : Value) (p : K3 → Bool) (w : World) (h : WrK w g ys) (hc : ClK g w u1 u2 p) (hm : ys.length ≤ 1048576) :
    Calls Try.prog 41 #[.slice (some ⟨g, 0, none⟩) ys.length cap, .func (.func 26) #[] #[u1, u2]] w (FirstK p g ys w) := by
  have HW0 := Lib.hid h
  have HC := Lib.hid hc
  clear h hc
  go_enter Try.func41, Try.ntmps41
  go_wp2_with fail
  go_loopw [8] (fun i wr => ∃ k : Nat, k ≤ ys.length ∧ i = .int .i64 k ∧ Hid (∀ j, j < k → p (ys.getD j k0) = false) ∧ Hid (WrK wr g ys) ∧ Only g w wr) (fun i _ => ys.length - (intOf i).toNat)
  case atStart => exact ⟨0, by omega, rfl, Lib.hid (fun j hj => absurd hj (by omega)), HW0, Only.refl _ _⟩
  case round =>
    obtain ⟨k, hk, rfl, HA, HW, hO⟩ := hrel
    by_cases hlt : k < ys.length
    · obtain ⟨⟨c0, c1, c2⟩, _⟩ := HW.out k hlt
      have HX : Hid (ys.getD k k0 = (kS (ys.getD k k0), kD (ys.getD k k0), kT (ys.getD k k0))) := Lib.hid rfl
      generalize kS (ys.getD k k0) = x0 at *
      generalize kD (ys.getD k k0) = x1 at *
      generalize kT (ys.getD k k0) = x2 at *
      rcases Bool.eq_false_or_eq_true (p (x0, x1, x2)) with hp | hp
      · have HP : Hid (p (ys.getD k k0) = true) := Lib.hid (by rw [HX.out]; exact hp)
        clear hp
        go_wp2_with fail
        refine (HC.out _ _ _ _ hO).mono ?_
        rintro e w1 ⟨rfl, k1⟩
        rw [← HX.out, HP.out]
        go_wp2
        go_ret
        exact ⟨.inl ⟨k, hlt, HP.out, HA.out, rfl⟩, hO.keepK k1, HW.out.keep k1⟩
      · have HP : Hid (p (ys.getD k k0) = false) := Lib.hid (by rw [HX.out]; exact hp)
        have HS : Hid (∀ j, j < k + 1 → p (ys.getD j k0) = false) := Lib.hid (fun j hj => by
          by_cases e : j < k
          · exact HA.out j e
          · obtain rfl : j = k := by omega
            exact HP.out)
        clear hp
        go_wp2_with fail
        refine (HC.out _ _ _ _ hO).mono ?_
        rintro e w1 ⟨rfl, k1⟩
        rw [← HX.out, HP.out]
        go_wp2
        go_roundw
        case rel => exact ⟨k + 1, by omega, by go_num, HS, Lib.hid (HW.out.keep k1), hO.keepK k1⟩
        case measure => simp [intOf]; omega
    · obtain rfl : k = ys.length := by omega
      go_wp2
      go_ret
      exact ⟨.inr ⟨HA.out, rfl⟩, hO, HW.out⟩
/-- The keys that a function keeps. -/
def kkp (p : K3 → Bool) (ys : List K3) : List K3 := ys.filter fun x => !p x
theorem kkp_take (p : K3 → Bool) (zs : List K3) {k : Nat} (h : k < zs.length) : kkp p (zs.take (k + 1)) = kkp p (zs.take k) ++ (if p (zs.getD k k0) then [] else [zs.getD k k0]) := by
  rw [List.take_succ_eq_append_getElem h, kkp, kkp, List.filter_append, show zs.getD k k0 = zs[k] by simp [List.getD_eq_getElem?_getD, h]]
  cases hp : p zs[k] <;> simp [hp]
theorem kkp_all {p : K3 → Bool} {zs : List K3} (h : ∀ j, j < zs.length → p (zs.getD j k0) = false) : kkp p zs = zs := by
  rw [kkp, List.filter_eq_self]
  intro x hx
  obtain ⟨i, hi, rfl⟩ := List.getElem_of_mem hx
  have := h i hi
  rw [show zs.getD i k0 = zs[i] by simp [List.getD_eq_getElem?_getD, hi]] at this
  simp [this]
set_option maxRecDepth 100000 in
set_option maxHeartbeats 4000000 in
theorem delK (g cap : Nat) (ys : List K3) (u1 u2 : Value) (p : K3 → Bool) (w : World) (h : WrK w g ys) (hc : ClK g w u1 u2 p) (hg : g < w.heap.size) (hm : ys.length ≤ 1048576) (hcap : ys.length ≤ cap) :
    Calls Try.prog 24 #[.slice (some ⟨g, 0, none⟩) ys.length cap, .func (.func 26) #[] #[u1, u2]] w fun e w' =>
      e = .returned (.slice (some ⟨g, 0, none⟩) (kkp p ys).length cap) ∧ Only g w w' ∧ WrK w' g (kkp p ys) := by
  have HC := Lib.hid hc
  have HI := Lib.hid (ixK g cap ys u1 u2 p w h hc hm)
  clear h hc
  go_enter Try.func24, Try.ntmps24
  go_wp2_with fail
  refine HI.out.mono ?_
  rintro e w1 ⟨hh, hO1, hW1⟩
  have HW1 := Lib.hid hW1
  clear HI hW1
  rcases hh with ⟨i, hi, hx, hb, rfl⟩ | ⟨hb, rfl⟩
  · have HK0 : Hid (ys.take i = kkp p (ys.take (i + 1))) := Lib.hid (by
      rw [kkp_take p ys hi, hx]
      have e1 : kkp p (ys.take i) = ys.take i := kkp_all (fun j hj => by
        rw [List.length_take] at hj
        have := hb j (by omega)
        simpa [List.getD_eq_getElem?_getD, List.getElem?_take, (show j < i by omega)] using this)
      rw [e1]; simp)
    clear hx hb
    go_wp2_with fail
    go_loopw [5, 6] (fun a q wr => ∃ (k n : Nat) (zs : List K3), k ≤ ys.length ∧ n < k ∧ a = .int .i64 n ∧ q = .int .i64 k ∧ Hid (zs.length = ys.length) ∧ Hid (zs.take n = kkp p (ys.take k)) ∧ Hid (∀ j, k ≤ j → zs.getD j k0 = ys.getD j k0) ∧ Hid (WrK wr g zs) ∧ Only g w wr) (fun _ q _ => ys.length - (intOf q).toNat)
    case atStart => exact ⟨i + 1, i, ys, by omega, by omega, rfl, by go_num, Lib.hid rfl, HK0, Lib.hid (fun _ _ => rfl), HW1, hO1⟩
    case round =>
      obtain ⟨k, n, zs, hk, hn, rfl, rfl, HL, HT, HR, HW, hO⟩ := hrel
      by_cases hlt : k < ys.length
      · obtain ⟨⟨c0, c1, c2⟩, _⟩ := HW.out k (by rw [HL.out]; exact hlt)
        rw [HR.out k (Nat.le_refl _)] at c0 c1 c2
        have HS0 := Lib.hid (kkp_take p ys hlt)
        have HX : Hid (ys.getD k k0 = (kS (ys.getD k k0), kD (ys.getD k k0), kT (ys.getD k k0))) := Lib.hid rfl
        have HR2 : Hid (∀ j, k + 1 ≤ j → zs.getD j k0 = ys.getD j k0) := Lib.hid (fun j hj => HR.out j (by omega))
        have hsz := hO.size
        generalize kS (ys.getD k k0) = x0 at *
        generalize kD (ys.getD k k0) = x1 at *
        generalize kT (ys.getD k k0) = x2 at *
        rcases Bool.eq_false_or_eq_true (p (x0, x1, x2)) with hp | hp
        · have HP : Hid (p (ys.getD k k0) = true) := Lib.hid (by rw [HX.out]; exact hp)
          have HS : Hid (zs.take n = kkp p (ys.take (k + 1))) := Lib.hid (by rw [HT.out, HS0.out, HP.out]; simp)
          have HO2 := Lib.hid (hO.alloc (.cells #[.int .i64 x0, .int .i64 x1, .int .i64 x2] 33))
          have HW2 := Lib.hid (HW.out.keep ((Keep.refl wr).alloc (.cells #[.int .i64 x0, .int .i64 x1, .int .i64 x2] 33)))
          clear hp HS0 HR HT
          go_wp2_with fail
          refine (HC.out _ _ _ _ (by first | exact HO2.out | exact HO2.out.setCell)).mono ?_
          rintro e w2 ⟨rfl, k2⟩
          rw [← HX.out, HP.out]
          go_wp2
          refine ⟨?_, ?measure⟩
          (repeat apply Exists.intro)
          refine ⟨?rel, rfl⟩
          case rel => exact ⟨k + 1, n, zs, by omega, by omega, rfl, by go_num, HL, HS, HR2, Lib.hid (HW2.out.keep k2), HO2.out.keepK k2⟩
          case measure => simp [intOf]; omega
        · have HP : Hid (p (ys.getD k k0) = false) := Lib.hid (by rw [HX.out]; exact hp)
          have HS : Hid ((zs.set n (ys.getD k k0)).take (n + 1) = kkp p (ys.take (k + 1))) := Lib.hid (by
            rw [kset_snoc (by rw [HL.out]; omega), HT.out, HS0.out, HP.out]; simp)
          have HR3 : Hid (∀ j, k + 1 ≤ j → (zs.set n (ys.getD k k0)).getD j k0 = ys.getD j k0) := Lib.hid (fun j hj => by
            rw [← HR.out j (by omega)]
            simp [List.getD_eq_getElem?_getD, List.getElem?_set_ne (show n ≠ j by omega)])
          have HL2 : Hid ((zs.set n (ys.getD k k0)).length = ys.length) := Lib.hid (by rw [List.length_set]; exact HL.out)
          have HO2 := Lib.hid (hO.alloc (.cells #[.int .i64 x0, .int .i64 x1, .int .i64 x2] 33))
          have HW2 := Lib.hid (HW.out.keep ((Keep.refl wr).alloc (.cells #[.int .i64 x0, .int .i64 x1, .int .i64 x2] 33)))
          have HLn : Hid (n < zs.length) := Lib.hid (by rw [HL.out]; omega)
          clear hp HS0 HR HT
          go_wp2_with fail
          refine (HC.out _ _ _ _ HO2.out).mono ?_
          rintro e w2 ⟨rfl, k2⟩
          rw [← HX.out, HP.out]
          have n0 := k2.cell (b := wr.heap.size) (o := 0) (v := .int .i64 x0) (by go_simp)
          have n1 := k2.cell (b := wr.heap.size) (o := 1) (v := .int .i64 x1) (by go_simp)
          have n2 := k2.cell (b := wr.heap.size) (o := 2) (v := .int .i64 x2) (by go_simp)
          have HW3 := Lib.hid (HW2.out.keep k2)
          obtain ⟨⟨b0, b1, b2⟩, ⟨f0, f1, f2⟩⟩ := HW3.out n HLn.out
          have HW4 := Lib.hid (HW3.out.set HLn.out (ys.getD k k0))
          have HO4 := Lib.hid ((HO2.out.keepK k2).put3 (n * 3) (ys.getD k k0))
          have p1 : (0 : Int) ≤ (n : Int) := by omega
          have p2 : (n : Int) < (ys.length : Int) := by omega
          generalize zs.set n (ys.getD k k0) = zs2 at *
          rw [HX.out] at HW4 HO4
          clear c0 c1 c2 HP HX
          go_wp2
          refine ⟨?_, ?measure⟩
          (repeat apply Exists.intro)
          refine ⟨?rel, rfl⟩
          case rel => exact ⟨k + 1, n + 1, zs2, by omega, by omega, by go_num, by go_num, HL2, HS, HR3, Lib.hid HW4.out, HO4.out⟩
          case measure => simp [intOf]; omega
      · obtain rfl : k = ys.length := by omega
        have HT2 : Hid (zs.take n = kkp p ys) := Lib.hid (by rw [HT.out, List.take_length])
        have HN : Hid (n = (kkp p ys).length) := Lib.hid (by rw [← HT2.out, List.length_take, HL.out]; omega)
        have hcl : ∀ ty, (Builtin.clear_ #[26] ty #[.slice (some ⟨g, n * 3, none⟩) (ys.length - n) (cap - n)]).run Try.prog wr = .ok (.tuple #[]) (wr.setCells g (n * 3) (zk (ys.length - n))) :=
          fun ty => clearK wr ty g (n * 3) (ys.length - n) (cap - n) (by omega) (fun i hi => (wrK_some HW.out (by rw [HL.out]; omega)).1) (fun i hi => (wrK_some HW.out (by rw [HL.out]; omega)).2)
        have hcm : ¬ cap = n := by omega
        have hcm2 : (cap == n) = false := beq_eq_false_iff_ne.2 hcm
        clear HT
        go_wp2_with (simp only [hcl])
        go_ret
        refine ⟨?_, only_setK _ _ _ hO, ?_⟩
        · rw [← HN.out]; rfl
        · rw [← HT2.out]; exact wrK_clear HW.out n _
  · have HE := Lib.hid (kkp_all hb)
    clear hb
    go_wp2
    go_ret
    refine ⟨by rw [HE.out]; rfl, hO1, by rw [HE.out]; exact HW1.out⟩
end Go.Proofs.Ytamdfdbhkmgflaa
