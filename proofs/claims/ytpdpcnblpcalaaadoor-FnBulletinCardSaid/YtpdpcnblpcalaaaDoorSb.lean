/- A report added to a store: the model's function. -/
import Derived.Test.YtpdpcnblpcalaaaDoorSa
import Derived.Deep.AppendLies
import Derived.Deep.RegionLaw
namespace Go.Proofs.YtpdpcnblpcalaaaDoor
open Go.RowKit
set_option linter.unusedVariables false

/-- append onto a row of one's own, as a step of a region that draws its order; the source may be empty. -/
theorem step_app_own {P : Program} {w : World} {ops : Array Oper} {o : Oper} {a : Act} {K : Act → World → Prop} {Q : Exit → Act → World → Prop} {E : Prop} (hgd : o.guard = none) (s x : Operand) (t : TypeId)
    (ho : o.op = .call { callee := .builtin .append, args := #[s, x], argTypes := #[t, t] })
    (base : Nat) (e : TypeId) (i : TypeInfo) (z : Value) (size bytes : Nat) (ht : P.underlying t = some (.slice e)) (hi : P.info? e = some i) (hz : i.zero = some z)
    (hsize : i.size = size) (hby : i.bytes = bytes) (hzs : z.cells.size = size) (hsz : 0 < size)
    (v : Value) (n : Nat) (xs : List Value) (hs : a.eval s = v) (hown : w.ownsRow base e size v n xs)
    (ad : Addr) (m c : Nat) (news : List Value) (hx : a.eval x = .slice (some ad) m c) (hl : news.length = m * size) (hnews : ∀ j u, news[j]? = some u → w.cell? (ad.add j) = some u) (h1 : ∀ u ∈ news, u.oneCell' = true)
    (h63 : n + m ≤ maxLen) (hbytes : (n + m) * bytes ≤ 140737488355328) (hbase : base ≤ w.heap.size)
    (h : ∀ v' w', w'.ownsRow base e size v' (n + m) (xs ++ news) → w.grownBy w' v.ownBlock → K (a.put o.dst v') w') :
    if Region.wanted o (yielded ops a.tmps) = true then Oper.wp P o a w K Q else E := by
  have hw : Region.wanted o (yielded ops a.tmps) = true := by simp [Region.wanted, hgd]
  rw [if_pos hw]
  exact wp_append_own w s x t ho base e i z size bytes ht hi hz hsize hby hzs hsz v n xs hs hown ad m c news hx hl hnews h1 h63 hbytes hbase fun v' w' h2 h3 _ => h v' w' h2 h3

theorem newsB {w w' : World} {n : Nat} {row : Option Nat} {s d k v : Int} (hg : w.grownBy w' row) (hc : ∀ j : Nat, w.cell? ⟨n, j, none⟩ = (#[.int .i64 s, .int .i64 d, .int .i64 k, .int .i64 v] : Array Value)[j]?) (hlt : n < w.heap.size) (hne : some n ≠ row) :
    ∀ j u, (rc (s, d, k, v))[j]? = some u → w'.cell? ((⟨n, 0, none⟩ : Addr).add j) = some u := by
  intro j u hj
  rw [Addr.add_lit, Nat.zero_add, hg.cell_far ⟨n, j, none⟩ hlt hne, hc j, ← hj]
  simp [rc, rS, rD, rK, rV]
theorem newsN (w : World) {s d k v : Int} :
    ∀ j u, (rc (s, d, k, v))[j]? = some u → (w.alloc (.cells #[.int .i64 s, .int .i64 d, .int .i64 k, .int .i64 v] 31)).cell? ((⟨w.heap.size, 0, none⟩ : Addr).add j) = some u := by
  intro j u hj
  rw [Addr.add_lit, Nat.zero_add, World.cell?_alloc_new, ← hj]
  simp [rc, rS, rD, rK, rV]

end Go.Proofs.YtpdpcnblpcalaaaDoor
