/- DiffOf of the program: the keys of a store in order, each once; those whose values differ. -/
import Derived.Test.YtamdfdbhkmgflaaKh
import Derived.Test.YtamdfdbhkmgflaaVw
import Derived.LoopTactic
namespace Go.Proofs.Ytamdfdbhkmgflaa
open Go.RowKit
set_option linter.unusedVariables false

theorem infoKey : (Try.prog.info? 33).map (fun i => (i.zero, i.size, i.bytes)) = some (some (.agg #[.int .i64 0, .int .i64 0, .int .i64 0]), 3, 24) := by kernel_rfl
theorem run_make_keys (n : Nat) (hn : n ≤ 1048576) (w : World) :
    (Instr.makeSlice 26 (.int .i64 (n : Int)) (.int .i64 (n : Int))).run Try.prog w = .ok (.slice (some ⟨w.heap.size, 0, none⟩) n n) (w.alloc (.cells (madeCells #[.int .i64 0, .int .i64 0, .int .i64 0] (n * 3)) 33)) := by
  obtain ⟨i, hi, hz, hs, hb⟩ := info_parts infoKey
  have hr := run_make (P := Try.prog) w 26 33 i _ Try.underlying26 hi hz .i64 .i64 n n (by omega) (by omega) (by rw [hb]; omega) (by omega)
  simp only [Int.toNat_natCast, hs] at hr
  exact hr
theorem made3_at (n j : Nat) (hj : j < n * 3) : (madeCells #[Value.int .i64 0, .int .i64 0, .int .i64 0] (n * 3))[j]? = some (.int .i64 0) := by
  unfold madeCells
  have h4 : j % 3 = 0 ∨ j % 3 = 1 ∨ j % 3 = 2 := by omega
  rcases h4 with h | h | h <;> simp [hj, h]
/-- The keys of a store in order, each once, in new memory. -/
def KeysP (rs : List R4) (w : World) (e : Ending) (w' : World) : Prop :=
  ∃ (g c : Nat) (ys : List K3), e = .returned (.slice (some ⟨g, 0, none⟩) (kcp ys).length c) ∧ (kcp ys).length ≤ c ∧ (kcp ys).length ≤ rs.length ∧ w.heap.size ≤ g ∧ g < w'.heap.size ∧ WrK w' g (kcp ys) ∧ ys.Perm (rs.map keyR) ∧ ys.Pairwise (fun a b => klt b a = false) ∧ Keep w w'
set_option maxRecDepth 100000 in
set_option maxHeartbeats 4000000 in
theorem keys_any (a : Option Addr) (cap : Nat) (rs : List R4) (w : World) (h : Rs w a rs) (hm : rs.length ≤ 1048576) :
    Calls Try.prog 25 #[.agg #[.slice a rs.length cap]] w (KeysP rs w) := by
  have hmk := fun W => run_make_keys rs.length hm W
  have hln : (rs.map keyR).length = rs.length := by simp
  go_enter Try.func25, Try.ntmps25
  go_wp2_with (simp only [hmk])
  go_loopw [13] (fun i wr => ∃ k : Nat, k ≤ rs.length ∧ i = .int .i64 k ∧ Hid (WrK wr (w.heap.size + 1) ((rs.map keyR).take k ++ List.replicate (rs.length - k) k0)) ∧ Keep w wr ∧ w.heap.size + 1 < wr.heap.size) (fun i _ => rs.length - (intOf i).toNat)
  case atStart =>
    refine ⟨0, by omega, rfl, Lib.hid ?_, ((Keep.refl w).alloc _).alloc _, by simp⟩
    intro j hj
    have hj' : j < rs.length := by simpa using hj
    have e : ((rs.map keyR).take 0 ++ List.replicate (rs.length - 0) k0).getD j k0 = k0 := by simp [List.getD_eq_getElem?_getD, hj']
    rw [e]
    refine ⟨⟨cell_newAt (by simp) (made3_at _ _ (by omega)), cell_newAt (by simp) (made3_at _ _ (by omega)), cell_newAt (by simp) (made3_at _ _ (by omega))⟩, ⟨World.frozen?_alloc_at _ _ _ _ (by simp), World.frozen?_alloc_at _ _ _ _ (by simp), World.frozen?_alloc_at _ _ _ _ (by simp)⟩⟩
  case round =>
    obtain ⟨k, hk, rfl, HW, hK, hlr⟩ := hrel
    clear hmk
    by_cases hlt : k < rs.length
    · obtain ⟨b, off, rfl, hb, ⟨c0, c1, c2, c3⟩⟩ := (h.keep hK).at_ hlt
      have hl : ((rs.map keyR).take k ++ List.replicate (rs.length - k) k0).length = rs.length := by simp; omega
      have HP := Lib.hid (kpart_set (rs.map keyR) k (by rw [hln]; exact hlt))
      have HQ : Hid ((rs.map keyR).getD k k0 = (rS (rs.getD k r0), rD (rs.getD k r0), rK (rs.getD k r0))) := Lib.hid (by
        simp [List.getD_eq_getElem?_getD, hlt, keyR])
      rw [hln] at HP
      generalize rS (rs.getD k r0) = x0 at *
      generalize rD (rs.getD k r0) = x1 at *
      generalize rK (rs.getD k r0) = x2 at *
      generalize rV (rs.getD k r0) = x3 at *
      have q1 : (0 : Int) ≤ (k : Int) := by omega
      have q2 : (k : Int) < (rs.length : Int) := by omega
      go_wp2_with fail
      refine (key_impl x0 x1 x2 x3 _).mono ?_
      rintro e w1 ⟨rfl, k1⟩
      have K1 : Hid (Keep wr w1) := Lib.hid (Keep.trans (by repeat' (first | with_reducible exact Keep.refl _ | with_reducible refine Keep.setCell ?_ (by simp) _ | with_reducible refine Keep.alloc ?_ _)) k1)
      have HW1 := Lib.hid (HW.out.keep K1.out)
      have hs1 := K1.out.size
      obtain ⟨⟨b0, b1, b2⟩, ⟨f0, f1, f2⟩⟩ := HW1.out k (by rw [hl]; exact hlt)
      have HW2 : Hid (WrK (put3 w1 (w.heap.size + 1) (k * 3) (x0, x1, x2)) (w.heap.size + 1) ((rs.map keyR).take (k + 1) ++ List.replicate (rs.length - (k + 1)) k0)) := Lib.hid (by
        rw [← HP.out, HQ.out]
        exact HW1.out.set (by rw [hl]; exact hlt) _)
      have HK2 : Hid (Keep w (put3 w1 (w.heap.size + 1) (k * 3) (x0, x1, x2))) := Lib.hid (put3_keep (hK.trans K1.out) (Nat.le_succ _))
      clear HP HQ k1
      go_wp2
      go_roundw
      case rel => exact ⟨k + 1, by omega, by go_num, HW2, HK2.out, by first | omega | (simp; omega)⟩
      case measure => simp [intOf]; omega
    · obtain rfl : k = rs.length := by omega
      have HV : Hid (WrK wr (w.heap.size + 1) (rs.map keyR)) := Lib.hid (by
        have := HW.out
        rw [Nat.sub_self, List.replicate_zero, List.append_nil, ← hln, List.take_length] at this
        exact this)
      clear HW
      have HSo := Lib.hid (ksort (w.heap.size + 1) rs.length (rs.map keyR) wr HV.out hlr (by rw [hln]; exact hm))
      rw [hln] at HSo
      go_wp2_with fail
      refine HSo.out.mono ?_
      rintro e w1 ⟨rfl, ys, hperm, hpw, hW1, hO1⟩
      have hyl : ys.length = rs.length := by rw [hperm.length_eq, hln]
      have HCo := Lib.hid (compK (w.heap.size + 1) rs.length ys w1 hW1 (by have := hO1.size; omega) (by omega) (by omega))
      rw [hyl] at HCo
      go_wp2_with fail
      refine HCo.out.mono ?_
      rintro e w2 ⟨rfl, hO2, hW2⟩
      go_wp2
      go_ret
      have hcl := kcp_len ys
      exact ⟨w.heap.size + 1, rs.length, ys, rfl, by omega, by omega, by omega, by have := hO1.size; have := hO2.size; omega, hW2, hperm, hpw, Keep.trans' hK (hO1.trans hO2) (by omega)⟩
end Go.Proofs.Ytamdfdbhkmgflaa
