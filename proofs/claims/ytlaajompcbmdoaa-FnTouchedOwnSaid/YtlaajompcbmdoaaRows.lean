/-
  No cell of these rows narrows 'for every input' (looked for: loops, veiled, ifaces, maps, wideKeys, modest, calm, conditions, laid).
  DERIVED. THE GIVEN ROWS OF THIS SEAT. 12 by the template 'for every input the law returns true; each argument reads behind the call as it read before'; 0 by the template 'total and deterministic' (their statements: YtlaajompcbmdoaaTotals.lean).
  GIVEN WITH THE SEED: the statements are not yours to turn. If you find one false, say at which input.
  Laid BY PROGRAM, IN A SANDBOX (cutbox-rows.mjs): the forced cells as the released guide's own fill.sh prints them over the translation ccabc3f9c1d0f8bf… (all of the seat's roots in one cut). By AI agents, Wed Nov 11 2026. No macro, syntax, notation, axiom, sorry.
-/
import Derived.Test.YtlaajompcbmdoaaChecked
import GoSem.Claim
import GoSem.ClaimJoined
import GoSem.ClaimMapViews
import Derived.JoinedTies
import Derived.KernelRfl
namespace Go.Proofs.Ytlaajompcbmdoaa
/- THE CELL 'sum', in the pinned program and in every row, IS THE sha256 OF THE DUMP (.gsa) THAT YtlaajompcbmdoaaProg.lean LOADS. Nothing in Lean hashes anything: it is a label: what it is worth is what the hold of that sum in a sandbox is worth. -/
noncomputable def Try.pinned : Pinned := { name := "ytlaajompcbmdoaa", sum := "ccabc3f9c1d0f8bf5c95006b20866ad8b77b943d651427d4c26df9ab45fa865b", checked := Try.checked }
namespace Rows
def none {H : Type} : Left H := { results := [], args := [] }

/-- 'laws.FnExactProductValid': WHATEVER THE INPUT: true; the input reads as it did. -/
def fnExactProductValidSpec : ChangeSpec := { name := "fnExactProductValid", fn := fun _ => fun
  | [d] => { results := [.lit (.bool true)], args := [d] }
  | _ => none }
def fnExactProductValidRow : OpenClaim := { program := "ytlaajompcbmdoaa", sum := "ccabc3f9c1d0f8bf5c95006b20866ad8b77b943d651427d4c26df9ab45fa865b", func := "loop.example/weatherarchive/laws.FnExactProductValid", spec := "fnExactProductValid", apart := false }
def FnExactProductValidSaid : Prop := fnExactProductValidRow.holds Try.pinned (OpenSpec.ofChange fnExactProductValidSpec)

/-- ITS FALSE NEIGHBOUR: 'it returns false'. Refute it at one input. -/
def fnExactProductValidWrong : ChangeSpec := { name := "fnExactProductValid", fn := fun _ => fun
  | [d] => { results := [.lit (.bool false)], args := [d] }
  | _ => none }
def FnExactProductValidWrongFalsely : Prop := fnExactProductValidRow.holds Try.pinned (OpenSpec.ofChange fnExactProductValidWrong)

/-- 'laws.FnExactProductTouched': WHATEVER THE INPUT: true; the input reads as it did. -/
def fnExactProductTouchedSpec : ChangeSpec := { name := "fnExactProductTouched", fn := fun _ => fun
  | [d1, d2] => { results := [.lit (.bool true)], args := [d1, d2] }
  | _ => none }
def fnExactProductTouchedRow : OpenClaim := { program := "ytlaajompcbmdoaa", sum := "ccabc3f9c1d0f8bf5c95006b20866ad8b77b943d651427d4c26df9ab45fa865b", func := "loop.example/weatherarchive/laws.FnExactProductTouched", spec := "fnExactProductTouched", apart := false }
def FnExactProductTouchedSaid : Prop := fnExactProductTouchedRow.holds Try.pinned (OpenSpec.ofChange fnExactProductTouchedSpec)

/-- ITS FALSE NEIGHBOUR: 'it returns false'. Refute it at one input. -/
def fnExactProductTouchedWrong : ChangeSpec := { name := "fnExactProductTouched", fn := fun _ => fun
  | [d1, d2] => { results := [.lit (.bool false)], args := [d1, d2] }
  | _ => none }
def FnExactProductTouchedWrongFalsely : Prop := fnExactProductTouchedRow.holds Try.pinned (OpenSpec.ofChange fnExactProductTouchedWrong)

/-- 'laws.FnExactProductValue': WHATEVER THE INPUT: true; the input reads as it did. -/
def fnExactProductValueSpec : ChangeSpec := { name := "fnExactProductValue", fn := fun _ => fun
  | [d1, d2, d3] => { results := [.lit (.bool true)], args := [d1, d2, d3] }
  | _ => none }
def fnExactProductValueRow : OpenClaim := { program := "ytlaajompcbmdoaa", sum := "ccabc3f9c1d0f8bf5c95006b20866ad8b77b943d651427d4c26df9ab45fa865b", func := "loop.example/weatherarchive/laws.FnExactProductValue", spec := "fnExactProductValue", unfollowed := true, recurses := true, apart := false }
def FnExactProductValueSaid : Prop := fnExactProductValueRow.holds Try.pinned (OpenSpec.ofChange fnExactProductValueSpec)

/-- ITS FALSE NEIGHBOUR: 'it returns false'. Refute it at one input. -/
def fnExactProductValueWrong : ChangeSpec := { name := "fnExactProductValue", fn := fun _ => fun
  | [d1, d2, d3] => { results := [.lit (.bool false)], args := [d1, d2, d3] }
  | _ => none }
def FnExactProductValueWrongFalsely : Prop := fnExactProductValueRow.holds Try.pinned (OpenSpec.ofChange fnExactProductValueWrong)

/-- 'laws.FnExactProductsAll': WHATEVER THE INPUT: true; the input reads as it did. -/
def fnExactProductsAllSpec : ChangeSpec := { name := "fnExactProductsAll", fn := fun _ => fun
  | [d1, d2, d3] => { results := [.lit (.bool true)], args := [d1, d2, d3] }
  | _ => none }
def fnExactProductsAllRow : OpenClaim := { program := "ytlaajompcbmdoaa", sum := "ccabc3f9c1d0f8bf5c95006b20866ad8b77b943d651427d4c26df9ab45fa865b", func := "loop.example/weatherarchive/laws.FnExactProductsAll", spec := "fnExactProductsAll", unfollowed := true, recurses := true, apart := false }
def FnExactProductsAllSaid : Prop := fnExactProductsAllRow.holds Try.pinned (OpenSpec.ofChange fnExactProductsAllSpec)

/-- ITS FALSE NEIGHBOUR: 'it returns false'. Refute it at one input. -/
def fnExactProductsAllWrong : ChangeSpec := { name := "fnExactProductsAll", fn := fun _ => fun
  | [d1, d2, d3] => { results := [.lit (.bool false)], args := [d1, d2, d3] }
  | _ => none }
def FnExactProductsAllWrongFalsely : Prop := fnExactProductsAllRow.holds Try.pinned (OpenSpec.ofChange fnExactProductsAllWrong)

/-- 'laws.FnProduct': WHATEVER THE INPUT: true; the input reads as it did. -/
def fnProductSpec : ChangeSpec := { name := "fnProduct", fn := fun _ => fun
  | [d] => { results := [.lit (.bool true)], args := [d] }
  | _ => none }
def fnProductRow : OpenClaim := { program := "ytlaajompcbmdoaa", sum := "ccabc3f9c1d0f8bf5c95006b20866ad8b77b943d651427d4c26df9ab45fa865b", func := "loop.example/weatherarchive/laws.FnProduct", spec := "fnProduct", unfollowed := true, recurses := true, apart := false }
def FnProductSaid : Prop := fnProductRow.holds Try.pinned (OpenSpec.ofChange fnProductSpec)

/-- ITS FALSE NEIGHBOUR: 'it returns false'. Refute it at one input. -/
def fnProductWrong : ChangeSpec := { name := "fnProduct", fn := fun _ => fun
  | [d] => { results := [.lit (.bool false)], args := [d] }
  | _ => none }
def FnProductWrongFalsely : Prop := fnProductRow.holds Try.pinned (OpenSpec.ofChange fnProductWrong)

/-- 'laws.FnProductGaps': WHATEVER THE INPUT: true; the input reads as it did. -/
def fnProductGapsSpec : ChangeSpec := { name := "fnProductGaps", fn := fun _ => fun
  | [d] => { results := [.lit (.bool true)], args := [d] }
  | _ => none }
def fnProductGapsRow : OpenClaim := { program := "ytlaajompcbmdoaa", sum := "ccabc3f9c1d0f8bf5c95006b20866ad8b77b943d651427d4c26df9ab45fa865b", func := "loop.example/weatherarchive/laws.FnProductGaps", spec := "fnProductGaps", unfollowed := true, recurses := true, apart := false }
def FnProductGapsSaid : Prop := fnProductGapsRow.holds Try.pinned (OpenSpec.ofChange fnProductGapsSpec)

/-- ITS FALSE NEIGHBOUR: 'it returns false'. Refute it at one input. -/
def fnProductGapsWrong : ChangeSpec := { name := "fnProductGaps", fn := fun _ => fun
  | [d] => { results := [.lit (.bool false)], args := [d] }
  | _ => none }
def FnProductGapsWrongFalsely : Prop := fnProductGapsRow.holds Try.pinned (OpenSpec.ofChange fnProductGapsWrong)

/-- 'laws.FnProductOld': WHATEVER THE INPUT: true; the input reads as it did. -/
def fnProductOldSpec : ChangeSpec := { name := "fnProductOld", fn := fun _ => fun
  | [d] => { results := [.lit (.bool true)], args := [d] }
  | _ => none }
def fnProductOldRow : OpenClaim := { program := "ytlaajompcbmdoaa", sum := "ccabc3f9c1d0f8bf5c95006b20866ad8b77b943d651427d4c26df9ab45fa865b", func := "loop.example/weatherarchive/laws.FnProductOld", spec := "fnProductOld", unfollowed := true, recurses := true, apart := false }
def FnProductOldSaid : Prop := fnProductOldRow.holds Try.pinned (OpenSpec.ofChange fnProductOldSpec)

/-- ITS FALSE NEIGHBOUR: 'it returns false'. Refute it at one input. -/
def fnProductOldWrong : ChangeSpec := { name := "fnProductOld", fn := fun _ => fun
  | [d] => { results := [.lit (.bool false)], args := [d] }
  | _ => none }
def FnProductOldWrongFalsely : Prop := fnProductOldRow.holds Try.pinned (OpenSpec.ofChange fnProductOldWrong)

/-- 'laws.FnTouched': WHATEVER THE INPUT: true; the input reads as it did. -/
def fnTouchedSpec : ChangeSpec := { name := "fnTouched", fn := fun _ => fun
  | [d] => { results := [.lit (.bool true)], args := [d] }
  | _ => none }
def fnTouchedRow : OpenClaim := { program := "ytlaajompcbmdoaa", sum := "ccabc3f9c1d0f8bf5c95006b20866ad8b77b943d651427d4c26df9ab45fa865b", func := "loop.example/weatherarchive/laws.FnTouched", spec := "fnTouched", unfollowed := true, recurses := true, apart := false }
def FnTouchedSaid : Prop := fnTouchedRow.holds Try.pinned (OpenSpec.ofChange fnTouchedSpec)

/-- ITS FALSE NEIGHBOUR: 'it returns false'. Refute it at one input. -/
def fnTouchedWrong : ChangeSpec := { name := "fnTouched", fn := fun _ => fun
  | [d] => { results := [.lit (.bool false)], args := [d] }
  | _ => none }
def FnTouchedWrongFalsely : Prop := fnTouchedRow.holds Try.pinned (OpenSpec.ofChange fnTouchedWrong)

/-- 'laws.FnTouchedOwn': WHATEVER THE INPUT: true; the input reads as it did. -/
def fnTouchedOwnSpec : ChangeSpec := { name := "fnTouchedOwn", fn := fun _ => fun
  | [d] => { results := [.lit (.bool true)], args := [d] }
  | _ => none }
def fnTouchedOwnRow : OpenClaim := { program := "ytlaajompcbmdoaa", sum := "ccabc3f9c1d0f8bf5c95006b20866ad8b77b943d651427d4c26df9ab45fa865b", func := "loop.example/weatherarchive/laws.FnTouchedOwn", spec := "fnTouchedOwn", unfollowed := true, recurses := true, apart := false }
def FnTouchedOwnSaid : Prop := fnTouchedOwnRow.holds Try.pinned (OpenSpec.ofChange fnTouchedOwnSpec)

/-- ITS FALSE NEIGHBOUR: 'it returns false'. Refute it at one input. -/
def fnTouchedOwnWrong : ChangeSpec := { name := "fnTouchedOwn", fn := fun _ => fun
  | [d] => { results := [.lit (.bool false)], args := [d] }
  | _ => none }
def FnTouchedOwnWrongFalsely : Prop := fnTouchedOwnRow.holds Try.pinned (OpenSpec.ofChange fnTouchedOwnWrong)

/-- 'laws.FnProducts': WHATEVER THE INPUT: true; the input reads as it did. -/
def fnProductsSpec : ChangeSpec := { name := "fnProducts", fn := fun _ => fun
  | [d] => { results := [.lit (.bool true)], args := [d] }
  | _ => none }
def fnProductsRow : OpenClaim := { program := "ytlaajompcbmdoaa", sum := "ccabc3f9c1d0f8bf5c95006b20866ad8b77b943d651427d4c26df9ab45fa865b", func := "loop.example/weatherarchive/laws.FnProducts", spec := "fnProducts", unfollowed := true, recurses := true, apart := false }
def FnProductsSaid : Prop := fnProductsRow.holds Try.pinned (OpenSpec.ofChange fnProductsSpec)

/-- ITS FALSE NEIGHBOUR: 'it returns false'. Refute it at one input. -/
def fnProductsWrong : ChangeSpec := { name := "fnProducts", fn := fun _ => fun
  | [d] => { results := [.lit (.bool false)], args := [d] }
  | _ => none }
def FnProductsWrongFalsely : Prop := fnProductsRow.holds Try.pinned (OpenSpec.ofChange fnProductsWrong)

/-- 'laws.FnProductPart': WHATEVER THE INPUT: true; the input reads as it did. -/
def fnProductPartSpec : ChangeSpec := { name := "fnProductPart", fn := fun _ => fun
  | [d] => { results := [.lit (.bool true)], args := [d] }
  | _ => none }
def fnProductPartRow : OpenClaim := { program := "ytlaajompcbmdoaa", sum := "ccabc3f9c1d0f8bf5c95006b20866ad8b77b943d651427d4c26df9ab45fa865b", func := "loop.example/weatherarchive/laws.FnProductPart", spec := "fnProductPart", apart := false }
def FnProductPartSaid : Prop := fnProductPartRow.holds Try.pinned (OpenSpec.ofChange fnProductPartSpec)

/-- ITS FALSE NEIGHBOUR: 'it returns false'. Refute it at one input. -/
def fnProductPartWrong : ChangeSpec := { name := "fnProductPart", fn := fun _ => fun
  | [d] => { results := [.lit (.bool false)], args := [d] }
  | _ => none }
def FnProductPartWrongFalsely : Prop := fnProductPartRow.holds Try.pinned (OpenSpec.ofChange fnProductPartWrong)

/-- 'laws.FnSumsLast': WHATEVER THE INPUT: true; the input reads as it did. -/
def fnSumsLastSpec : ChangeSpec := { name := "fnSumsLast", fn := fun _ => fun
  | [d] => { results := [.lit (.bool true)], args := [d] }
  | _ => none }
def fnSumsLastRow : OpenClaim := { program := "ytlaajompcbmdoaa", sum := "ccabc3f9c1d0f8bf5c95006b20866ad8b77b943d651427d4c26df9ab45fa865b", func := "loop.example/weatherarchive/laws.FnSumsLast", spec := "fnSumsLast", apart := false }
def FnSumsLastSaid : Prop := fnSumsLastRow.holds Try.pinned (OpenSpec.ofChange fnSumsLastSpec)

/-- ITS FALSE NEIGHBOUR: 'it returns false'. Refute it at one input. -/
def fnSumsLastWrong : ChangeSpec := { name := "fnSumsLast", fn := fun _ => fun
  | [d] => { results := [.lit (.bool false)], args := [d] }
  | _ => none }
def FnSumsLastWrongFalsely : Prop := fnSumsLastRow.holds Try.pinned (OpenSpec.ofChange fnSumsLastWrong)

/- THE SECOND FORM. 'bulk': how many values and letters a reading holds, each counted each time it is reached (what is shared counts as often as it is met; a slice's spare places count too). A statement '..UptoSaid' is the law's where the arguments, and the package variables that the reading takes, are together of bulk at most 1048576: NARROWER than '..Said'. Prove '..Said' where nothing that the law and all that it calls make is longer than what came in: it says more and counts as full. Else prove '..UptoSaid'. A law counts once. -/
mutual
def uptoBulk {H : Type} : DataW H → Nat
  | .lit (.string bytes) => bytes.length + 1
  | .lit _ => 1
  | .nil => 1
  | .ptr d => uptoBulk d + 1
  | .slice elems spare => uptoBulkAll elems + uptoBulkAll spare + 1
  | .agg parts => uptoBulkAll parts + 1
  | .iface _ d => uptoBulk d + 1
  | .map entries => uptoBulkEntries entries + 1
  | .held _ => 1
def uptoBulkAll {H : Type} : List (DataW H) → Nat
  | [] => 0
  | d :: r => uptoBulk d + uptoBulkAll r
def uptoBulkEntries {H : Type} : List (Lit × DataW H) → Nat
  | [] => 0
  | x :: r => uptoBulkEntry x + uptoBulkEntries r
def uptoBulkEntry {H : Type} : Lit × DataW H → Nat
  | (.string bytes, d) => bytes.length + uptoBulk d + 1
  | (_, d) => uptoBulk d + 1
 end
def uptoSmall : (H : Type) → List (DataW H) → Bool := fun _ ds => decide (uptoBulkAll ds ≤ 1048576)
def OpenSpec.upto (s : _root_.Go.ChangeSpec) : _root_.Go.OpenSpec := { _root_.Go.OpenSpec.ofChange s with cond := some uptoSmall }

/-- 'laws.FnExactProductValid', WHERE WHAT IT READS IS OF BULK AT MOST 1048576: true; the input reads as it did. -/
def fnExactProductValidUptoRow : OpenClaim := { program := "ytlaajompcbmdoaa", sum := "ccabc3f9c1d0f8bf5c95006b20866ad8b77b943d651427d4c26df9ab45fa865b", func := "loop.example/weatherarchive/laws.FnExactProductValid", spec := "fnExactProductValid", apart := false, narrowed := true }
def FnExactProductValidUptoSaid : Prop := fnExactProductValidUptoRow.holds Try.pinned (OpenSpec.upto fnExactProductValidSpec)

/-- 'laws.FnExactProductTouched', WHERE WHAT IT READS IS OF BULK AT MOST 1048576: true; the input reads as it did. -/
def fnExactProductTouchedUptoRow : OpenClaim := { program := "ytlaajompcbmdoaa", sum := "ccabc3f9c1d0f8bf5c95006b20866ad8b77b943d651427d4c26df9ab45fa865b", func := "loop.example/weatherarchive/laws.FnExactProductTouched", spec := "fnExactProductTouched", apart := false, narrowed := true }
def FnExactProductTouchedUptoSaid : Prop := fnExactProductTouchedUptoRow.holds Try.pinned (OpenSpec.upto fnExactProductTouchedSpec)

/-- 'laws.FnExactProductValue', WHERE WHAT IT READS IS OF BULK AT MOST 1048576: true; the input reads as it did. -/
def fnExactProductValueUptoRow : OpenClaim := { program := "ytlaajompcbmdoaa", sum := "ccabc3f9c1d0f8bf5c95006b20866ad8b77b943d651427d4c26df9ab45fa865b", func := "loop.example/weatherarchive/laws.FnExactProductValue", spec := "fnExactProductValue", unfollowed := true, recurses := true, apart := false, narrowed := true }
def FnExactProductValueUptoSaid : Prop := fnExactProductValueUptoRow.holds Try.pinned (OpenSpec.upto fnExactProductValueSpec)

/-- 'laws.FnExactProductsAll', WHERE WHAT IT READS IS OF BULK AT MOST 1048576: true; the input reads as it did. -/
def fnExactProductsAllUptoRow : OpenClaim := { program := "ytlaajompcbmdoaa", sum := "ccabc3f9c1d0f8bf5c95006b20866ad8b77b943d651427d4c26df9ab45fa865b", func := "loop.example/weatherarchive/laws.FnExactProductsAll", spec := "fnExactProductsAll", unfollowed := true, recurses := true, apart := false, narrowed := true }
def FnExactProductsAllUptoSaid : Prop := fnExactProductsAllUptoRow.holds Try.pinned (OpenSpec.upto fnExactProductsAllSpec)

/-- 'laws.FnProduct', WHERE WHAT IT READS IS OF BULK AT MOST 1048576: true; the input reads as it did. -/
def fnProductUptoRow : OpenClaim := { program := "ytlaajompcbmdoaa", sum := "ccabc3f9c1d0f8bf5c95006b20866ad8b77b943d651427d4c26df9ab45fa865b", func := "loop.example/weatherarchive/laws.FnProduct", spec := "fnProduct", unfollowed := true, recurses := true, apart := false, narrowed := true }
def FnProductUptoSaid : Prop := fnProductUptoRow.holds Try.pinned (OpenSpec.upto fnProductSpec)

/-- 'laws.FnProductGaps', WHERE WHAT IT READS IS OF BULK AT MOST 1048576: true; the input reads as it did. -/
def fnProductGapsUptoRow : OpenClaim := { program := "ytlaajompcbmdoaa", sum := "ccabc3f9c1d0f8bf5c95006b20866ad8b77b943d651427d4c26df9ab45fa865b", func := "loop.example/weatherarchive/laws.FnProductGaps", spec := "fnProductGaps", unfollowed := true, recurses := true, apart := false, narrowed := true }
def FnProductGapsUptoSaid : Prop := fnProductGapsUptoRow.holds Try.pinned (OpenSpec.upto fnProductGapsSpec)

/-- 'laws.FnProductOld', WHERE WHAT IT READS IS OF BULK AT MOST 1048576: true; the input reads as it did. -/
def fnProductOldUptoRow : OpenClaim := { program := "ytlaajompcbmdoaa", sum := "ccabc3f9c1d0f8bf5c95006b20866ad8b77b943d651427d4c26df9ab45fa865b", func := "loop.example/weatherarchive/laws.FnProductOld", spec := "fnProductOld", unfollowed := true, recurses := true, apart := false, narrowed := true }
def FnProductOldUptoSaid : Prop := fnProductOldUptoRow.holds Try.pinned (OpenSpec.upto fnProductOldSpec)

/-- 'laws.FnTouched', WHERE WHAT IT READS IS OF BULK AT MOST 1048576: true; the input reads as it did. -/
def fnTouchedUptoRow : OpenClaim := { program := "ytlaajompcbmdoaa", sum := "ccabc3f9c1d0f8bf5c95006b20866ad8b77b943d651427d4c26df9ab45fa865b", func := "loop.example/weatherarchive/laws.FnTouched", spec := "fnTouched", unfollowed := true, recurses := true, apart := false, narrowed := true }
def FnTouchedUptoSaid : Prop := fnTouchedUptoRow.holds Try.pinned (OpenSpec.upto fnTouchedSpec)

/-- 'laws.FnTouchedOwn', WHERE WHAT IT READS IS OF BULK AT MOST 1048576: true; the input reads as it did. -/
def fnTouchedOwnUptoRow : OpenClaim := { program := "ytlaajompcbmdoaa", sum := "ccabc3f9c1d0f8bf5c95006b20866ad8b77b943d651427d4c26df9ab45fa865b", func := "loop.example/weatherarchive/laws.FnTouchedOwn", spec := "fnTouchedOwn", unfollowed := true, recurses := true, apart := false, narrowed := true }
def FnTouchedOwnUptoSaid : Prop := fnTouchedOwnUptoRow.holds Try.pinned (OpenSpec.upto fnTouchedOwnSpec)

/-- 'laws.FnProducts', WHERE WHAT IT READS IS OF BULK AT MOST 1048576: true; the input reads as it did. -/
def fnProductsUptoRow : OpenClaim := { program := "ytlaajompcbmdoaa", sum := "ccabc3f9c1d0f8bf5c95006b20866ad8b77b943d651427d4c26df9ab45fa865b", func := "loop.example/weatherarchive/laws.FnProducts", spec := "fnProducts", unfollowed := true, recurses := true, apart := false, narrowed := true }
def FnProductsUptoSaid : Prop := fnProductsUptoRow.holds Try.pinned (OpenSpec.upto fnProductsSpec)

/-- 'laws.FnProductPart', WHERE WHAT IT READS IS OF BULK AT MOST 1048576: true; the input reads as it did. -/
def fnProductPartUptoRow : OpenClaim := { program := "ytlaajompcbmdoaa", sum := "ccabc3f9c1d0f8bf5c95006b20866ad8b77b943d651427d4c26df9ab45fa865b", func := "loop.example/weatherarchive/laws.FnProductPart", spec := "fnProductPart", apart := false, narrowed := true }
def FnProductPartUptoSaid : Prop := fnProductPartUptoRow.holds Try.pinned (OpenSpec.upto fnProductPartSpec)

/-- 'laws.FnSumsLast', WHERE WHAT IT READS IS OF BULK AT MOST 1048576: true; the input reads as it did. -/
def fnSumsLastUptoRow : OpenClaim := { program := "ytlaajompcbmdoaa", sum := "ccabc3f9c1d0f8bf5c95006b20866ad8b77b943d651427d4c26df9ab45fa865b", func := "loop.example/weatherarchive/laws.FnSumsLast", spec := "fnSumsLast", apart := false, narrowed := true }
def FnSumsLastUptoSaid : Prop := fnSumsLastUptoRow.holds Try.pinned (OpenSpec.upto fnSumsLastSpec)

end Rows
end Go.Proofs.Ytlaajompcbmdoaa
