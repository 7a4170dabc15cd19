/-
  No cell of these rows narrows 'for every input' (looked for: loops, veiled, ifaces, maps, wideKeys, modest, calm, conditions, laid).
  DERIVED. THE GIVEN ROWS OF THIS SEAT. 9 by the template 'for every input the law returns true; each argument reads behind the call as it read before'; 0 by the template 'total and deterministic' (their statements: YtkiibklenpncpaaTotals.lean).
  GIVEN WITH THE SEED: the statements are not yours to turn. If you find one false, say at which input.
  Laid BY PROGRAM, IN A SANDBOX (cutbox-rows.mjs): the forced cells as the released guide's own fill.sh prints them over the translation 1c0f11a484f08ffc… (all of the seat's roots in one cut). By AI agents, Wed Nov 11 2026. No macro, syntax, notation, axiom, sorry.
-/
import Derived.Test.YtkiibklenpncpaaChecked
import GoSem.Claim
import GoSem.ClaimJoined
import GoSem.ClaimMapViews
import Derived.JoinedTies
import Derived.KernelRfl
namespace Go.Proofs.Ytkiibklenpncpaa
/- THE CELL 'sum', in the pinned program and in every row, IS THE sha256 OF THE DUMP (.gsa) THAT YtkiibklenpncpaaProg.lean LOADS. Nothing in Lean hashes anything: it is a label: what it is worth is what the hold of that sum in a sandbox is worth. -/
noncomputable def Try.pinned : Pinned := { name := "ytkiibklenpncpaa", sum := "1c0f11a484f08ffca8a13704868ba2018b5b8274dae49bc20f9d48d7cf9a7cc2", checked := Try.checked }
namespace Rows
def none {H : Type} : Left H := { results := [], args := [] }

/-- 'laws.FnProducts': WHATEVER THE INPUT: true; the input reads as it did. -/
def fnProductsSpec : ChangeSpec := { name := "fnProducts", fn := fun _ => fun
  | [d] => { results := [.lit (.bool true)], args := [d] }
  | _ => none }
def fnProductsRow : OpenClaim := { program := "ytkiibklenpncpaa", sum := "1c0f11a484f08ffca8a13704868ba2018b5b8274dae49bc20f9d48d7cf9a7cc2", func := "loop.example/weatherarchive/laws.FnProducts", spec := "fnProducts", unfollowed := true, recurses := true, apart := false }
def FnProductsSaid : Prop := fnProductsRow.holds Try.pinned (OpenSpec.ofChange fnProductsSpec)

/-- ITS FALSE NEIGHBOUR: 'it returns false'. Refute it at one input. -/
def fnProductsWrong : ChangeSpec := { name := "fnProducts", fn := fun _ => fun
  | [d] => { results := [.lit (.bool false)], args := [d] }
  | _ => none }
def FnProductsWrongFalsely : Prop := fnProductsRow.holds Try.pinned (OpenSpec.ofChange fnProductsWrong)

/-- 'laws.FnExactProductsAll': WHATEVER THE INPUT: true; the input reads as it did. -/
def fnExactProductsAllSpec : ChangeSpec := { name := "fnExactProductsAll", fn := fun _ => fun
  | [d1, d2, d3] => { results := [.lit (.bool true)], args := [d1, d2, d3] }
  | _ => none }
def fnExactProductsAllRow : OpenClaim := { program := "ytkiibklenpncpaa", sum := "1c0f11a484f08ffca8a13704868ba2018b5b8274dae49bc20f9d48d7cf9a7cc2", func := "loop.example/weatherarchive/laws.FnExactProductsAll", spec := "fnExactProductsAll", unfollowed := true, recurses := true, apart := false }
def FnExactProductsAllSaid : Prop := fnExactProductsAllRow.holds Try.pinned (OpenSpec.ofChange fnExactProductsAllSpec)

/-- ITS FALSE NEIGHBOUR: 'it returns false'. Refute it at one input. -/
def fnExactProductsAllWrong : ChangeSpec := { name := "fnExactProductsAll", fn := fun _ => fun
  | [d1, d2, d3] => { results := [.lit (.bool false)], args := [d1, d2, d3] }
  | _ => none }
def FnExactProductsAllWrongFalsely : Prop := fnExactProductsAllRow.holds Try.pinned (OpenSpec.ofChange fnExactProductsAllWrong)

/-- 'laws.FnSumsLast': WHATEVER THE INPUT: true; the input reads as it did. -/
def fnSumsLastSpec : ChangeSpec := { name := "fnSumsLast", fn := fun _ => fun
  | [d] => { results := [.lit (.bool true)], args := [d] }
  | _ => none }
def fnSumsLastRow : OpenClaim := { program := "ytkiibklenpncpaa", sum := "1c0f11a484f08ffca8a13704868ba2018b5b8274dae49bc20f9d48d7cf9a7cc2", func := "loop.example/weatherarchive/laws.FnSumsLast", spec := "fnSumsLast", apart := false }
def FnSumsLastSaid : Prop := fnSumsLastRow.holds Try.pinned (OpenSpec.ofChange fnSumsLastSpec)

/-- ITS FALSE NEIGHBOUR: 'it returns false'. Refute it at one input. -/
def fnSumsLastWrong : ChangeSpec := { name := "fnSumsLast", fn := fun _ => fun
  | [d] => { results := [.lit (.bool false)], args := [d] }
  | _ => none }
def FnSumsLastWrongFalsely : Prop := fnSumsLastRow.holds Try.pinned (OpenSpec.ofChange fnSumsLastWrong)

/-- 'laws.FnTrendLine': WHATEVER THE INPUT: true; the input reads as it did. -/
def fnTrendLineSpec : ChangeSpec := { name := "fnTrendLine", fn := fun _ => fun
  | [d] => { results := [.lit (.bool true)], args := [d] }
  | _ => none }
def fnTrendLineRow : OpenClaim := { program := "ytkiibklenpncpaa", sum := "1c0f11a484f08ffca8a13704868ba2018b5b8274dae49bc20f9d48d7cf9a7cc2", func := "loop.example/weatherarchive/laws.FnTrendLine", spec := "fnTrendLine", unfollowed := true, recurses := true, apart := false }
def FnTrendLineSaid : Prop := fnTrendLineRow.holds Try.pinned (OpenSpec.ofChange fnTrendLineSpec)

/-- ITS FALSE NEIGHBOUR: 'it returns false'. Refute it at one input. -/
def fnTrendLineWrong : ChangeSpec := { name := "fnTrendLine", fn := fun _ => fun
  | [d] => { results := [.lit (.bool false)], args := [d] }
  | _ => none }
def FnTrendLineWrongFalsely : Prop := fnTrendLineRow.holds Try.pinned (OpenSpec.ofChange fnTrendLineWrong)

/-- 'laws.FnSlopeLine': WHATEVER THE INPUT: true; the input reads as it did. -/
def fnSlopeLineSpec : ChangeSpec := { name := "fnSlopeLine", fn := fun _ => fun
  | [d] => { results := [.lit (.bool true)], args := [d] }
  | _ => none }
def fnSlopeLineRow : OpenClaim := { program := "ytkiibklenpncpaa", sum := "1c0f11a484f08ffca8a13704868ba2018b5b8274dae49bc20f9d48d7cf9a7cc2", func := "loop.example/weatherarchive/laws.FnSlopeLine", spec := "fnSlopeLine", apart := false }
def FnSlopeLineSaid : Prop := fnSlopeLineRow.holds Try.pinned (OpenSpec.ofChange fnSlopeLineSpec)

/-- ITS FALSE NEIGHBOUR: 'it returns false'. Refute it at one input. -/
def fnSlopeLineWrong : ChangeSpec := { name := "fnSlopeLine", fn := fun _ => fun
  | [d] => { results := [.lit (.bool false)], args := [d] }
  | _ => none }
def FnSlopeLineWrongFalsely : Prop := fnSlopeLineRow.holds Try.pinned (OpenSpec.ofChange fnSlopeLineWrong)

/-- 'laws.FnLine': WHATEVER THE INPUT: true; the input reads as it did. -/
def fnLineSpec : ChangeSpec := { name := "fnLine", fn := fun _ => fun
  | [d] => { results := [.lit (.bool true)], args := [d] }
  | _ => none }
def fnLineRow : OpenClaim := { program := "ytkiibklenpncpaa", sum := "1c0f11a484f08ffca8a13704868ba2018b5b8274dae49bc20f9d48d7cf9a7cc2", func := "loop.example/weatherarchive/laws.FnLine", spec := "fnLine", recurses := true, apart := false }
def FnLineSaid : Prop := fnLineRow.holds Try.pinned (OpenSpec.ofChange fnLineSpec)

/-- ITS FALSE NEIGHBOUR: 'it returns false'. Refute it at one input. -/
def fnLineWrong : ChangeSpec := { name := "fnLine", fn := fun _ => fun
  | [d] => { results := [.lit (.bool false)], args := [d] }
  | _ => none }
def FnLineWrongFalsely : Prop := fnLineRow.holds Try.pinned (OpenSpec.ofChange fnLineWrong)

/-- 'laws.FnExactDiffOf': WHATEVER THE INPUT: true; the input reads as it did. -/
def fnExactDiffOfSpec : ChangeSpec := { name := "fnExactDiffOf", fn := fun _ => fun
  | [d1, d2, d3] => { results := [.lit (.bool true)], args := [d1, d2, d3] }
  | _ => none }
def fnExactDiffOfRow : OpenClaim := { program := "ytkiibklenpncpaa", sum := "1c0f11a484f08ffca8a13704868ba2018b5b8274dae49bc20f9d48d7cf9a7cc2", func := "loop.example/weatherarchive/laws.FnExactDiffOf", spec := "fnExactDiffOf", unfollowed := true, recurses := true, apart := false }
def FnExactDiffOfSaid : Prop := fnExactDiffOfRow.holds Try.pinned (OpenSpec.ofChange fnExactDiffOfSpec)

/-- ITS FALSE NEIGHBOUR: 'it returns false'. Refute it at one input. -/
def fnExactDiffOfWrong : ChangeSpec := { name := "fnExactDiffOf", fn := fun _ => fun
  | [d1, d2, d3] => { results := [.lit (.bool false)], args := [d1, d2, d3] }
  | _ => none }
def FnExactDiffOfWrongFalsely : Prop := fnExactDiffOfRow.holds Try.pinned (OpenSpec.ofChange fnExactDiffOfWrong)

/-- 'laws.FnDiff': WHATEVER THE INPUT: true; the input reads as it did. -/
def fnDiffSpec : ChangeSpec := { name := "fnDiff", fn := fun _ => fun
  | [d] => { results := [.lit (.bool true)], args := [d] }
  | _ => none }
def fnDiffRow : OpenClaim := { program := "ytkiibklenpncpaa", sum := "1c0f11a484f08ffca8a13704868ba2018b5b8274dae49bc20f9d48d7cf9a7cc2", func := "loop.example/weatherarchive/laws.FnDiff", spec := "fnDiff", unfollowed := true, recurses := true, apart := false }
def FnDiffSaid : Prop := fnDiffRow.holds Try.pinned (OpenSpec.ofChange fnDiffSpec)

/-- ITS FALSE NEIGHBOUR: 'it returns false'. Refute it at one input. -/
def fnDiffWrong : ChangeSpec := { name := "fnDiff", fn := fun _ => fun
  | [d] => { results := [.lit (.bool false)], args := [d] }
  | _ => none }
def FnDiffWrongFalsely : Prop := fnDiffRow.holds Try.pinned (OpenSpec.ofChange fnDiffWrong)

/-- 'laws.FnDiffTurned': WHATEVER THE INPUT: true; the input reads as it did. -/
def fnDiffTurnedSpec : ChangeSpec := { name := "fnDiffTurned", fn := fun _ => fun
  | [d] => { results := [.lit (.bool true)], args := [d] }
  | _ => none }
def fnDiffTurnedRow : OpenClaim := { program := "ytkiibklenpncpaa", sum := "1c0f11a484f08ffca8a13704868ba2018b5b8274dae49bc20f9d48d7cf9a7cc2", func := "loop.example/weatherarchive/laws.FnDiffTurned", spec := "fnDiffTurned", unfollowed := true, recurses := true, apart := false }
def FnDiffTurnedSaid : Prop := fnDiffTurnedRow.holds Try.pinned (OpenSpec.ofChange fnDiffTurnedSpec)

/-- ITS FALSE NEIGHBOUR: 'it returns false'. Refute it at one input. -/
def fnDiffTurnedWrong : ChangeSpec := { name := "fnDiffTurned", fn := fun _ => fun
  | [d] => { results := [.lit (.bool false)], args := [d] }
  | _ => none }
def FnDiffTurnedWrongFalsely : Prop := fnDiffTurnedRow.holds Try.pinned (OpenSpec.ofChange fnDiffTurnedWrong)

/- THE SECOND FORM. 'bulk': how many values and letters a reading holds, each counted each time it is reached (what is shared counts as often as it is met; a slice's spare places count too). A statement '..UptoSaid' is the law's where the arguments, and the package variables that the reading takes, are together of bulk at most 1048576: NARROWER than '..Said'. Prove '..Said' where nothing that the law and all that it calls make is longer than what came in: it says more and counts as full. Else prove '..UptoSaid'. A law counts once. -/
mutual
def uptoBulk {H : Type} : DataW H → Nat
  | .lit (.string bytes) => bytes.length + 1
  | .lit _ => 1
  | .nil => 1
  | .ptr d => uptoBulk d + 1
  | .slice elems spare => uptoBulkAll elems + uptoBulkAll spare + 1
  | .agg parts => uptoBulkAll parts + 1
  | .iface _ d => uptoBulk d + 1
  | .map entries => uptoBulkEntries entries + 1
  | .held _ => 1
def uptoBulkAll {H : Type} : List (DataW H) → Nat
  | [] => 0
  | d :: r => uptoBulk d + uptoBulkAll r
def uptoBulkEntries {H : Type} : List (Lit × DataW H) → Nat
  | [] => 0
  | x :: r => uptoBulkEntry x + uptoBulkEntries r
def uptoBulkEntry {H : Type} : Lit × DataW H → Nat
  | (.string bytes, d) => bytes.length + uptoBulk d + 1
  | (_, d) => uptoBulk d + 1
 end
def uptoSmall : (H : Type) → List (DataW H) → Bool := fun _ ds => decide (uptoBulkAll ds ≤ 1048576)
def OpenSpec.upto (s : _root_.Go.ChangeSpec) : _root_.Go.OpenSpec := { _root_.Go.OpenSpec.ofChange s with cond := some uptoSmall }

/-- 'laws.FnProducts', WHERE WHAT IT READS IS OF BULK AT MOST 1048576: true; the input reads as it did. -/
def fnProductsUptoRow : OpenClaim := { program := "ytkiibklenpncpaa", sum := "1c0f11a484f08ffca8a13704868ba2018b5b8274dae49bc20f9d48d7cf9a7cc2", func := "loop.example/weatherarchive/laws.FnProducts", spec := "fnProducts", unfollowed := true, recurses := true, apart := false, narrowed := true }
def FnProductsUptoSaid : Prop := fnProductsUptoRow.holds Try.pinned (OpenSpec.upto fnProductsSpec)

/-- 'laws.FnExactProductsAll', WHERE WHAT IT READS IS OF BULK AT MOST 1048576: true; the input reads as it did. -/
def fnExactProductsAllUptoRow : OpenClaim := { program := "ytkiibklenpncpaa", sum := "1c0f11a484f08ffca8a13704868ba2018b5b8274dae49bc20f9d48d7cf9a7cc2", func := "loop.example/weatherarchive/laws.FnExactProductsAll", spec := "fnExactProductsAll", unfollowed := true, recurses := true, apart := false, narrowed := true }
def FnExactProductsAllUptoSaid : Prop := fnExactProductsAllUptoRow.holds Try.pinned (OpenSpec.upto fnExactProductsAllSpec)

/-- 'laws.FnSumsLast', WHERE WHAT IT READS IS OF BULK AT MOST 1048576: true; the input reads as it did. -/
def fnSumsLastUptoRow : OpenClaim := { program := "ytkiibklenpncpaa", sum := "1c0f11a484f08ffca8a13704868ba2018b5b8274dae49bc20f9d48d7cf9a7cc2", func := "loop.example/weatherarchive/laws.FnSumsLast", spec := "fnSumsLast", apart := false, narrowed := true }
def FnSumsLastUptoSaid : Prop := fnSumsLastUptoRow.holds Try.pinned (OpenSpec.upto fnSumsLastSpec)

/-- 'laws.FnTrendLine', WHERE WHAT IT READS IS OF BULK AT MOST 1048576: true; the input reads as it did. -/
def fnTrendLineUptoRow : OpenClaim := { program := "ytkiibklenpncpaa", sum := "1c0f11a484f08ffca8a13704868ba2018b5b8274dae49bc20f9d48d7cf9a7cc2", func := "loop.example/weatherarchive/laws.FnTrendLine", spec := "fnTrendLine", unfollowed := true, recurses := true, apart := false, narrowed := true }
def FnTrendLineUptoSaid : Prop := fnTrendLineUptoRow.holds Try.pinned (OpenSpec.upto fnTrendLineSpec)

/-- 'laws.FnSlopeLine', WHERE WHAT IT READS IS OF BULK AT MOST 1048576: true; the input reads as it did. -/
def fnSlopeLineUptoRow : OpenClaim := { program := "ytkiibklenpncpaa", sum := "1c0f11a484f08ffca8a13704868ba2018b5b8274dae49bc20f9d48d7cf9a7cc2", func := "loop.example/weatherarchive/laws.FnSlopeLine", spec := "fnSlopeLine", apart := false, narrowed := true }
def FnSlopeLineUptoSaid : Prop := fnSlopeLineUptoRow.holds Try.pinned (OpenSpec.upto fnSlopeLineSpec)

/-- 'laws.FnLine', WHERE WHAT IT READS IS OF BULK AT MOST 1048576: true; the input reads as it did. -/
def fnLineUptoRow : OpenClaim := { program := "ytkiibklenpncpaa", sum := "1c0f11a484f08ffca8a13704868ba2018b5b8274dae49bc20f9d48d7cf9a7cc2", func := "loop.example/weatherarchive/laws.FnLine", spec := "fnLine", recurses := true, apart := false, narrowed := true }
def FnLineUptoSaid : Prop := fnLineUptoRow.holds Try.pinned (OpenSpec.upto fnLineSpec)

/-- 'laws.FnExactDiffOf', WHERE WHAT IT READS IS OF BULK AT MOST 1048576: true; the input reads as it did. -/
def fnExactDiffOfUptoRow : OpenClaim := { program := "ytkiibklenpncpaa", sum := "1c0f11a484f08ffca8a13704868ba2018b5b8274dae49bc20f9d48d7cf9a7cc2", func := "loop.example/weatherarchive/laws.FnExactDiffOf", spec := "fnExactDiffOf", unfollowed := true, recurses := true, apart := false, narrowed := true }
def FnExactDiffOfUptoSaid : Prop := fnExactDiffOfUptoRow.holds Try.pinned (OpenSpec.upto fnExactDiffOfSpec)

/-- 'laws.FnDiff', WHERE WHAT IT READS IS OF BULK AT MOST 1048576: true; the input reads as it did. -/
def fnDiffUptoRow : OpenClaim := { program := "ytkiibklenpncpaa", sum := "1c0f11a484f08ffca8a13704868ba2018b5b8274dae49bc20f9d48d7cf9a7cc2", func := "loop.example/weatherarchive/laws.FnDiff", spec := "fnDiff", unfollowed := true, recurses := true, apart := false, narrowed := true }
def FnDiffUptoSaid : Prop := fnDiffUptoRow.holds Try.pinned (OpenSpec.upto fnDiffSpec)

/-- 'laws.FnDiffTurned', WHERE WHAT IT READS IS OF BULK AT MOST 1048576: true; the input reads as it did. -/
def fnDiffTurnedUptoRow : OpenClaim := { program := "ytkiibklenpncpaa", sum := "1c0f11a484f08ffca8a13704868ba2018b5b8274dae49bc20f9d48d7cf9a7cc2", func := "loop.example/weatherarchive/laws.FnDiffTurned", spec := "fnDiffTurned", unfollowed := true, recurses := true, apart := false, narrowed := true }
def FnDiffTurnedUptoSaid : Prop := fnDiffTurnedUptoRow.holds Try.pinned (OpenSpec.upto fnDiffTurnedSpec)

end Rows
end Go.Proofs.Ytkiibklenpncpaa
