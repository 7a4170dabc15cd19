/-
  NARROWER THAN 'FOR EVERY INPUT', by the rows' own cells (each row's printed sentence says how): FnBulletin: ifaces, laid · FnBulletinBad: laid · FnBulletinParse: ifaces, laid · FnBulletinDamage: ifaces, laid · FnBulletinGood: ifaces, laid · FnExactBulletinText: laid · FnExactBulletinParse: ifaces, laid · FnExactBulletinGood: ifaces, laid.
  DERIVED. THE GIVEN ROWS OF THIS SEAT. 8 by the template 'for every input the law returns true; each argument reads behind the call as it read before'; 0 by the template 'total and deterministic' (their statements: YtcfffgbnkjclfaaDoorTotals.lean).
  GIVEN WITH THE SEED: the statements are not yours to turn. If you find one false, say at which input.
  Laid BY PROGRAM, IN A SANDBOX (cutbox-rows.mjs): the forced cells as the released guide's own fill.sh prints them over the translation 5f7f0b3302abc79a… (all of the seat's roots in one cut). By AI agents, Wed Nov 11 2026. No macro, syntax, notation, axiom, sorry.
-/
import Derived.Test.YtcfffgbnkjclfaaDoorChecked
import GoSem.Claim
import GoSem.ClaimJoined
import GoSem.ClaimMapViews
import Derived.JoinedTies
import Derived.KernelRfl
namespace Go.Proofs.YtcfffgbnkjclfaaDoor
/- THE CELL 'sum', in the pinned program and in every row, IS THE sha256 OF THE DUMP (.gsa) THAT YtcfffgbnkjclfaaDoorProg.lean LOADS. Nothing in Lean hashes anything: it is a label: what it is worth is what the hold of that sum in a sandbox is worth. -/
noncomputable def Tryd.pinned : Pinned := { name := "ytcfffgbnkjclfaadoor", sum := "5f7f0b3302abc79a5fa3156f2013da46861407c7eae1696deeda37d11750c7d9", checked := Tryd.checked }
namespace Rows
def none {H : Type} : Left H := { results := [], args := [] }

/- WHAT THE LISTED PACKAGE-LEVEL VARIABLES READ AS WHEN THE CALL BEGINS. Each datum BY PROGRAM (the guide's laid-datum.mjs) off the statement by which the dump's own 'gosem.cut.vars' lays the variable. In a bare row this is a premise. The card (YtcfffgbnkjclfaaDoorCards.lean) ties it to the program's text. -/
def laid_math_bits_deBruijn32tab {H : Type} : DataW H := .agg [.lit (.int .u8 0), .lit (.int .u8 1), .lit (.int .u8 28), .lit (.int .u8 2), .lit (.int .u8 29), .lit (.int .u8 14), .lit (.int .u8 24), .lit (.int .u8 3), .lit (.int .u8 30), .lit (.int .u8 22), .lit (.int .u8 20), .lit (.int .u8 15), .lit (.int .u8 25), .lit (.int .u8 17), .lit (.int .u8 4), .lit (.int .u8 8), .lit (.int .u8 31), .lit (.int .u8 27), .lit (.int .u8 13), .lit (.int .u8 23), .lit (.int .u8 21), .lit (.int .u8 19), .lit (.int .u8 16), .lit (.int .u8 7), .lit (.int .u8 26), .lit (.int .u8 12), .lit (.int .u8 18), .lit (.int .u8 6), .lit (.int .u8 11), .lit (.int .u8 5), .lit (.int .u8 10), .lit (.int .u8 9)]
def laid_math_bits_deBruijn64tab {H : Type} : DataW H := .agg [.lit (.int .u8 0), .lit (.int .u8 1), .lit (.int .u8 56), .lit (.int .u8 2), .lit (.int .u8 57), .lit (.int .u8 49), .lit (.int .u8 28), .lit (.int .u8 3), .lit (.int .u8 61), .lit (.int .u8 58), .lit (.int .u8 42), .lit (.int .u8 50), .lit (.int .u8 38), .lit (.int .u8 29), .lit (.int .u8 17), .lit (.int .u8 4), .lit (.int .u8 62), .lit (.int .u8 47), .lit (.int .u8 59), .lit (.int .u8 36), .lit (.int .u8 45), .lit (.int .u8 43), .lit (.int .u8 51), .lit (.int .u8 22), .lit (.int .u8 53), .lit (.int .u8 39), .lit (.int .u8 33), .lit (.int .u8 30), .lit (.int .u8 24), .lit (.int .u8 18), .lit (.int .u8 12), .lit (.int .u8 5), .lit (.int .u8 63), .lit (.int .u8 55), .lit (.int .u8 48), .lit (.int .u8 27), .lit (.int .u8 60), .lit (.int .u8 41), .lit (.int .u8 37), .lit (.int .u8 16), .lit (.int .u8 46), .lit (.int .u8 35), .lit (.int .u8 44), .lit (.int .u8 21), .lit (.int .u8 52), .lit (.int .u8 32), .lit (.int .u8 23), .lit (.int .u8 11), .lit (.int .u8 54), .lit (.int .u8 26), .lit (.int .u8 40), .lit (.int .u8 15), .lit (.int .u8 34), .lit (.int .u8 20), .lit (.int .u8 31), .lit (.int .u8 10), .lit (.int .u8 25), .lit (.int .u8 14), .lit (.int .u8 19), .lit (.int .u8 9), .lit (.int .u8 13), .lit (.int .u8 8), .lit (.int .u8 7), .lit (.int .u8 6)]
def laid_internal_strconv_uint64pow10 {H : Type} : DataW H := .agg [.lit (.int .u64 1), .lit (.int .u64 10), .lit (.int .u64 100), .lit (.int .u64 1000), .lit (.int .u64 10000), .lit (.int .u64 100000), .lit (.int .u64 1000000), .lit (.int .u64 10000000), .lit (.int .u64 100000000), .lit (.int .u64 1000000000), .lit (.int .u64 10000000000), .lit (.int .u64 100000000000), .lit (.int .u64 1000000000000), .lit (.int .u64 10000000000000), .lit (.int .u64 100000000000000), .lit (.int .u64 1000000000000000), .lit (.int .u64 10000000000000000), .lit (.int .u64 100000000000000000), .lit (.int .u64 1000000000000000000), .lit (.int .u64 10000000000000000000)]
def laid_loop_example_weatherarchive_impl_errUnreadable {H : Type} : DataW H := .iface "*errors.errorString" (.ptr (.agg [.lit (.string [117, 110, 114, 101, 97, 100, 97, 98, 108, 101, 32, 116, 101, 120, 116])]))

/-- 'laws.FnBulletin': WHATEVER THE INPUT: true; the input reads as it did. -/
def fnBulletinSpec : ChangeSpec := { name := "fnBulletin", vars := ["loop.example/weatherarchive/impl.errUnreadable"], fn := fun _ => fun
  | [d, g1] => { results := [.lit (.bool true)], args := [d], vars := [g1] }
  | _ => none }
def fnBulletinRow : OpenClaim := { program := "ytcfffgbnkjclfaadoor", sum := "5f7f0b3302abc79a5fa3156f2013da46861407c7eae1696deeda37d11750c7d9", func := "loop.example/weatherarchive/laws.FnBulletin", spec := "fnBulletin", inPlace := ["internal/reflectlite.TypeOf"], unfollowed := true, recurses := true, named := ["internal/strconv.uint64pow10", "math/bits.deBruijn32tab", "math/bits.deBruijn64tab", "loop.example/weatherarchive/impl.errUnreadable"], ifaces := true, apart := false, laid := [("math/bits.deBruijn32tab", laid_math_bits_deBruijn32tab), ("math/bits.deBruijn64tab", laid_math_bits_deBruijn64tab), ("internal/strconv.uint64pow10", laid_internal_strconv_uint64pow10), ("loop.example/weatherarchive/impl.errUnreadable", laid_loop_example_weatherarchive_impl_errUnreadable)] }
def FnBulletinSaid : Prop := fnBulletinRow.holds Tryd.pinned (OpenSpec.ofChange fnBulletinSpec)

/-- ITS FALSE NEIGHBOUR: 'it returns false'. Refute it at one input. -/
def fnBulletinWrong : ChangeSpec := { name := "fnBulletin", vars := ["loop.example/weatherarchive/impl.errUnreadable"], fn := fun _ => fun
  | [d, g1] => { results := [.lit (.bool false)], args := [d], vars := [g1] }
  | _ => none }
def FnBulletinWrongFalsely : Prop := fnBulletinRow.holds Tryd.pinned (OpenSpec.ofChange fnBulletinWrong)

/-- 'laws.FnBulletinBad': WHATEVER THE INPUT: true; the input reads as it did. -/
def fnBulletinBadSpec : ChangeSpec := { name := "fnBulletinBad", fn := fun _ => fun
  | [d] => { results := [.lit (.bool true)], args := [d] }
  | _ => none }
def fnBulletinBadRow : OpenClaim := { program := "ytcfffgbnkjclfaadoor", sum := "5f7f0b3302abc79a5fa3156f2013da46861407c7eae1696deeda37d11750c7d9", func := "loop.example/weatherarchive/laws.FnBulletinBad", spec := "fnBulletinBad", recurses := true, named := ["internal/strconv.uint64pow10", "math/bits.deBruijn32tab", "math/bits.deBruijn64tab"], apart := false, laid := [("math/bits.deBruijn32tab", laid_math_bits_deBruijn32tab), ("math/bits.deBruijn64tab", laid_math_bits_deBruijn64tab), ("internal/strconv.uint64pow10", laid_internal_strconv_uint64pow10)] }
def FnBulletinBadSaid : Prop := fnBulletinBadRow.holds Tryd.pinned (OpenSpec.ofChange fnBulletinBadSpec)

/-- ITS FALSE NEIGHBOUR: 'it returns false'. Refute it at one input. -/
def fnBulletinBadWrong : ChangeSpec := { name := "fnBulletinBad", fn := fun _ => fun
  | [d] => { results := [.lit (.bool false)], args := [d] }
  | _ => none }
def FnBulletinBadWrongFalsely : Prop := fnBulletinBadRow.holds Tryd.pinned (OpenSpec.ofChange fnBulletinBadWrong)

/-- 'laws.FnBulletinParse': WHATEVER THE INPUT: true; the input reads as it did. -/
def fnBulletinParseSpec : ChangeSpec := { name := "fnBulletinParse", vars := ["loop.example/weatherarchive/impl.errUnreadable"], fn := fun _ => fun
  | [d, g1] => { results := [.lit (.bool true)], args := [d], vars := [g1] }
  | _ => none }
def fnBulletinParseRow : OpenClaim := { program := "ytcfffgbnkjclfaadoor", sum := "5f7f0b3302abc79a5fa3156f2013da46861407c7eae1696deeda37d11750c7d9", func := "loop.example/weatherarchive/laws.FnBulletinParse", spec := "fnBulletinParse", inPlace := ["internal/reflectlite.TypeOf"], unfollowed := true, recurses := true, named := ["loop.example/weatherarchive/impl.errUnreadable", "internal/strconv.uint64pow10", "math/bits.deBruijn32tab", "math/bits.deBruijn64tab"], ifaces := true, apart := false, laid := [("math/bits.deBruijn32tab", laid_math_bits_deBruijn32tab), ("math/bits.deBruijn64tab", laid_math_bits_deBruijn64tab), ("internal/strconv.uint64pow10", laid_internal_strconv_uint64pow10), ("loop.example/weatherarchive/impl.errUnreadable", laid_loop_example_weatherarchive_impl_errUnreadable)] }
def FnBulletinParseSaid : Prop := fnBulletinParseRow.holds Tryd.pinned (OpenSpec.ofChange fnBulletinParseSpec)

/-- ITS FALSE NEIGHBOUR: 'it returns false'. Refute it at one input. -/
def fnBulletinParseWrong : ChangeSpec := { name := "fnBulletinParse", vars := ["loop.example/weatherarchive/impl.errUnreadable"], fn := fun _ => fun
  | [d, g1] => { results := [.lit (.bool false)], args := [d], vars := [g1] }
  | _ => none }
def FnBulletinParseWrongFalsely : Prop := fnBulletinParseRow.holds Tryd.pinned (OpenSpec.ofChange fnBulletinParseWrong)

/-- 'laws.FnBulletinDamage': WHATEVER THE INPUT: true; the input reads as it did. -/
def fnBulletinDamageSpec : ChangeSpec := { name := "fnBulletinDamage", vars := ["loop.example/weatherarchive/impl.errUnreadable"], fn := fun _ => fun
  | [d1, d2, g1] => { results := [.lit (.bool true)], args := [d1, d2], vars := [g1] }
  | _ => none }
def fnBulletinDamageRow : OpenClaim := { program := "ytcfffgbnkjclfaadoor", sum := "5f7f0b3302abc79a5fa3156f2013da46861407c7eae1696deeda37d11750c7d9", func := "loop.example/weatherarchive/laws.FnBulletinDamage", spec := "fnBulletinDamage", inPlace := ["internal/reflectlite.TypeOf"], unfollowed := true, recurses := true, named := ["loop.example/weatherarchive/impl.errUnreadable", "internal/strconv.uint64pow10", "math/bits.deBruijn32tab", "math/bits.deBruijn64tab"], ifaces := true, apart := false, laid := [("math/bits.deBruijn32tab", laid_math_bits_deBruijn32tab), ("math/bits.deBruijn64tab", laid_math_bits_deBruijn64tab), ("internal/strconv.uint64pow10", laid_internal_strconv_uint64pow10), ("loop.example/weatherarchive/impl.errUnreadable", laid_loop_example_weatherarchive_impl_errUnreadable)] }
def FnBulletinDamageSaid : Prop := fnBulletinDamageRow.holds Tryd.pinned (OpenSpec.ofChange fnBulletinDamageSpec)

/-- ITS FALSE NEIGHBOUR: 'it returns false'. Refute it at one input. -/
def fnBulletinDamageWrong : ChangeSpec := { name := "fnBulletinDamage", vars := ["loop.example/weatherarchive/impl.errUnreadable"], fn := fun _ => fun
  | [d1, d2, g1] => { results := [.lit (.bool false)], args := [d1, d2], vars := [g1] }
  | _ => none }
def FnBulletinDamageWrongFalsely : Prop := fnBulletinDamageRow.holds Tryd.pinned (OpenSpec.ofChange fnBulletinDamageWrong)

/-- 'laws.FnBulletinGood': WHATEVER THE INPUT: true; the input reads as it did. -/
def fnBulletinGoodSpec : ChangeSpec := { name := "fnBulletinGood", vars := ["loop.example/weatherarchive/impl.errUnreadable"], fn := fun _ => fun
  | [d, g1] => { results := [.lit (.bool true)], args := [d], vars := [g1] }
  | _ => none }
def fnBulletinGoodRow : OpenClaim := { program := "ytcfffgbnkjclfaadoor", sum := "5f7f0b3302abc79a5fa3156f2013da46861407c7eae1696deeda37d11750c7d9", func := "loop.example/weatherarchive/laws.FnBulletinGood", spec := "fnBulletinGood", inPlace := ["internal/reflectlite.TypeOf"], unfollowed := true, recurses := true, named := ["loop.example/weatherarchive/impl.errUnreadable", "internal/strconv.uint64pow10", "math/bits.deBruijn32tab", "math/bits.deBruijn64tab"], ifaces := true, apart := false, laid := [("math/bits.deBruijn32tab", laid_math_bits_deBruijn32tab), ("math/bits.deBruijn64tab", laid_math_bits_deBruijn64tab), ("internal/strconv.uint64pow10", laid_internal_strconv_uint64pow10), ("loop.example/weatherarchive/impl.errUnreadable", laid_loop_example_weatherarchive_impl_errUnreadable)] }
def FnBulletinGoodSaid : Prop := fnBulletinGoodRow.holds Tryd.pinned (OpenSpec.ofChange fnBulletinGoodSpec)

/-- ITS FALSE NEIGHBOUR: 'it returns false'. Refute it at one input. -/
def fnBulletinGoodWrong : ChangeSpec := { name := "fnBulletinGood", vars := ["loop.example/weatherarchive/impl.errUnreadable"], fn := fun _ => fun
  | [d, g1] => { results := [.lit (.bool false)], args := [d], vars := [g1] }
  | _ => none }
def FnBulletinGoodWrongFalsely : Prop := fnBulletinGoodRow.holds Tryd.pinned (OpenSpec.ofChange fnBulletinGoodWrong)

/-- 'laws.FnExactBulletinText': WHATEVER THE INPUT: true; the input reads as it did. -/
def fnExactBulletinTextSpec : ChangeSpec := { name := "fnExactBulletinText", fn := fun _ => fun
  | [d1, d2, d3, d4] => { results := [.lit (.bool true)], args := [d1, d2, d3, d4] }
  | _ => none }
def fnExactBulletinTextRow : OpenClaim := { program := "ytcfffgbnkjclfaadoor", sum := "5f7f0b3302abc79a5fa3156f2013da46861407c7eae1696deeda37d11750c7d9", func := "loop.example/weatherarchive/laws.FnExactBulletinText", spec := "fnExactBulletinText", recurses := true, named := ["internal/strconv.uint64pow10", "math/bits.deBruijn32tab", "math/bits.deBruijn64tab"], apart := false, laid := [("math/bits.deBruijn32tab", laid_math_bits_deBruijn32tab), ("math/bits.deBruijn64tab", laid_math_bits_deBruijn64tab), ("internal/strconv.uint64pow10", laid_internal_strconv_uint64pow10)] }
def FnExactBulletinTextSaid : Prop := fnExactBulletinTextRow.holds Tryd.pinned (OpenSpec.ofChange fnExactBulletinTextSpec)

/-- ITS FALSE NEIGHBOUR: 'it returns false'. Refute it at one input. -/
def fnExactBulletinTextWrong : ChangeSpec := { name := "fnExactBulletinText", fn := fun _ => fun
  | [d1, d2, d3, d4] => { results := [.lit (.bool false)], args := [d1, d2, d3, d4] }
  | _ => none }
def FnExactBulletinTextWrongFalsely : Prop := fnExactBulletinTextRow.holds Tryd.pinned (OpenSpec.ofChange fnExactBulletinTextWrong)

/-- 'laws.FnExactBulletinParse': WHATEVER THE INPUT: true; the input reads as it did. -/
def fnExactBulletinParseSpec : ChangeSpec := { name := "fnExactBulletinParse", vars := ["loop.example/weatherarchive/impl.errUnreadable"], fn := fun _ => fun
  | [d, g1] => { results := [.lit (.bool true)], args := [d], vars := [g1] }
  | _ => none }
def fnExactBulletinParseRow : OpenClaim := { program := "ytcfffgbnkjclfaadoor", sum := "5f7f0b3302abc79a5fa3156f2013da46861407c7eae1696deeda37d11750c7d9", func := "loop.example/weatherarchive/laws.FnExactBulletinParse", spec := "fnExactBulletinParse", inPlace := ["internal/reflectlite.TypeOf"], unfollowed := true, recurses := true, named := ["loop.example/weatherarchive/impl.errUnreadable", "internal/strconv.uint64pow10", "math/bits.deBruijn32tab", "math/bits.deBruijn64tab"], ifaces := true, apart := false, laid := [("math/bits.deBruijn32tab", laid_math_bits_deBruijn32tab), ("math/bits.deBruijn64tab", laid_math_bits_deBruijn64tab), ("internal/strconv.uint64pow10", laid_internal_strconv_uint64pow10), ("loop.example/weatherarchive/impl.errUnreadable", laid_loop_example_weatherarchive_impl_errUnreadable)] }
def FnExactBulletinParseSaid : Prop := fnExactBulletinParseRow.holds Tryd.pinned (OpenSpec.ofChange fnExactBulletinParseSpec)

/-- ITS FALSE NEIGHBOUR: 'it returns false'. Refute it at one input. -/
def fnExactBulletinParseWrong : ChangeSpec := { name := "fnExactBulletinParse", vars := ["loop.example/weatherarchive/impl.errUnreadable"], fn := fun _ => fun
  | [d, g1] => { results := [.lit (.bool false)], args := [d], vars := [g1] }
  | _ => none }
def FnExactBulletinParseWrongFalsely : Prop := fnExactBulletinParseRow.holds Tryd.pinned (OpenSpec.ofChange fnExactBulletinParseWrong)

/-- 'laws.FnExactBulletinGood': WHATEVER THE INPUT: true; the input reads as it did. -/
def fnExactBulletinGoodSpec : ChangeSpec := { name := "fnExactBulletinGood", vars := ["loop.example/weatherarchive/impl.errUnreadable"], fn := fun _ => fun
  | [d, g1] => { results := [.lit (.bool true)], args := [d], vars := [g1] }
  | _ => none }
def fnExactBulletinGoodRow : OpenClaim := { program := "ytcfffgbnkjclfaadoor", sum := "5f7f0b3302abc79a5fa3156f2013da46861407c7eae1696deeda37d11750c7d9", func := "loop.example/weatherarchive/laws.FnExactBulletinGood", spec := "fnExactBulletinGood", inPlace := ["internal/reflectlite.TypeOf"], unfollowed := true, recurses := true, named := ["loop.example/weatherarchive/impl.errUnreadable", "internal/strconv.uint64pow10", "math/bits.deBruijn32tab", "math/bits.deBruijn64tab"], ifaces := true, apart := false, laid := [("math/bits.deBruijn32tab", laid_math_bits_deBruijn32tab), ("math/bits.deBruijn64tab", laid_math_bits_deBruijn64tab), ("internal/strconv.uint64pow10", laid_internal_strconv_uint64pow10), ("loop.example/weatherarchive/impl.errUnreadable", laid_loop_example_weatherarchive_impl_errUnreadable)] }
def FnExactBulletinGoodSaid : Prop := fnExactBulletinGoodRow.holds Tryd.pinned (OpenSpec.ofChange fnExactBulletinGoodSpec)

/-- ITS FALSE NEIGHBOUR: 'it returns false'. Refute it at one input. -/
def fnExactBulletinGoodWrong : ChangeSpec := { name := "fnExactBulletinGood", vars := ["loop.example/weatherarchive/impl.errUnreadable"], fn := fun _ => fun
  | [d, g1] => { results := [.lit (.bool false)], args := [d], vars := [g1] }
  | _ => none }
def FnExactBulletinGoodWrongFalsely : Prop := fnExactBulletinGoodRow.holds Tryd.pinned (OpenSpec.ofChange fnExactBulletinGoodWrong)

/- THE SECOND FORM. 'bulk': how many values and letters a reading holds, each counted each time it is reached (what is shared counts as often as it is met; a slice's spare places count too). A statement '..UptoSaid' is the law's where the arguments, and the package variables that the reading takes, are together of bulk at most 1048576: NARROWER than '..Said'. Prove '..Said' where nothing that the law and all that it calls make is longer than what came in: it says more and counts as full. Else prove '..UptoSaid'. A law counts once. -/
mutual
def uptoBulk {H : Type} : DataW H → Nat
  | .lit (.string bytes) => bytes.length + 1
  | .lit _ => 1
  | .nil => 1
  | .ptr d => uptoBulk d + 1
  | .slice elems spare => uptoBulkAll elems + uptoBulkAll spare + 1
  | .agg parts => uptoBulkAll parts + 1
  | .iface _ d => uptoBulk d + 1
  | .map entries => uptoBulkEntries entries + 1
  | .held _ => 1
def uptoBulkAll {H : Type} : List (DataW H) → Nat
  | [] => 0
  | d :: r => uptoBulk d + uptoBulkAll r
def uptoBulkEntries {H : Type} : List (Lit × DataW H) → Nat
  | [] => 0
  | x :: r => uptoBulkEntry x + uptoBulkEntries r
def uptoBulkEntry {H : Type} : Lit × DataW H → Nat
  | (.string bytes, d) => bytes.length + uptoBulk d + 1
  | (_, d) => uptoBulk d + 1
 end
def uptoSmall : (H : Type) → List (DataW H) → Bool := fun _ ds => decide (uptoBulkAll ds ≤ 1048576)
def OpenSpec.upto (s : _root_.Go.ChangeSpec) : _root_.Go.OpenSpec := { _root_.Go.OpenSpec.ofChange s with cond := some uptoSmall }

/-- 'laws.FnBulletin', WHERE WHAT IT READS IS OF BULK AT MOST 1048576: true; the input reads as it did. -/
def fnBulletinUptoRow : OpenClaim := { program := "ytcfffgbnkjclfaadoor", sum := "5f7f0b3302abc79a5fa3156f2013da46861407c7eae1696deeda37d11750c7d9", func := "loop.example/weatherarchive/laws.FnBulletin", spec := "fnBulletin", inPlace := ["internal/reflectlite.TypeOf"], unfollowed := true, recurses := true, named := ["internal/strconv.uint64pow10", "math/bits.deBruijn32tab", "math/bits.deBruijn64tab", "loop.example/weatherarchive/impl.errUnreadable"], ifaces := true, apart := false, laid := [("math/bits.deBruijn32tab", laid_math_bits_deBruijn32tab), ("math/bits.deBruijn64tab", laid_math_bits_deBruijn64tab), ("internal/strconv.uint64pow10", laid_internal_strconv_uint64pow10), ("loop.example/weatherarchive/impl.errUnreadable", laid_loop_example_weatherarchive_impl_errUnreadable)], narrowed := true }
def FnBulletinUptoSaid : Prop := fnBulletinUptoRow.holds Tryd.pinned (OpenSpec.upto fnBulletinSpec)

/-- 'laws.FnBulletinBad', WHERE WHAT IT READS IS OF BULK AT MOST 1048576: true; the input reads as it did. -/
def fnBulletinBadUptoRow : OpenClaim := { program := "ytcfffgbnkjclfaadoor", sum := "5f7f0b3302abc79a5fa3156f2013da46861407c7eae1696deeda37d11750c7d9", func := "loop.example/weatherarchive/laws.FnBulletinBad", spec := "fnBulletinBad", recurses := true, named := ["internal/strconv.uint64pow10", "math/bits.deBruijn32tab", "math/bits.deBruijn64tab"], apart := false, laid := [("math/bits.deBruijn32tab", laid_math_bits_deBruijn32tab), ("math/bits.deBruijn64tab", laid_math_bits_deBruijn64tab), ("internal/strconv.uint64pow10", laid_internal_strconv_uint64pow10)], narrowed := true }
def FnBulletinBadUptoSaid : Prop := fnBulletinBadUptoRow.holds Tryd.pinned (OpenSpec.upto fnBulletinBadSpec)

/-- 'laws.FnBulletinParse', WHERE WHAT IT READS IS OF BULK AT MOST 1048576: true; the input reads as it did. -/
def fnBulletinParseUptoRow : OpenClaim := { program := "ytcfffgbnkjclfaadoor", sum := "5f7f0b3302abc79a5fa3156f2013da46861407c7eae1696deeda37d11750c7d9", func := "loop.example/weatherarchive/laws.FnBulletinParse", spec := "fnBulletinParse", inPlace := ["internal/reflectlite.TypeOf"], unfollowed := true, recurses := true, named := ["loop.example/weatherarchive/impl.errUnreadable", "internal/strconv.uint64pow10", "math/bits.deBruijn32tab", "math/bits.deBruijn64tab"], ifaces := true, apart := false, laid := [("math/bits.deBruijn32tab", laid_math_bits_deBruijn32tab), ("math/bits.deBruijn64tab", laid_math_bits_deBruijn64tab), ("internal/strconv.uint64pow10", laid_internal_strconv_uint64pow10), ("loop.example/weatherarchive/impl.errUnreadable", laid_loop_example_weatherarchive_impl_errUnreadable)], narrowed := true }
def FnBulletinParseUptoSaid : Prop := fnBulletinParseUptoRow.holds Tryd.pinned (OpenSpec.upto fnBulletinParseSpec)

/-- 'laws.FnBulletinDamage', WHERE WHAT IT READS IS OF BULK AT MOST 1048576: true; the input reads as it did. -/
def fnBulletinDamageUptoRow : OpenClaim := { program := "ytcfffgbnkjclfaadoor", sum := "5f7f0b3302abc79a5fa3156f2013da46861407c7eae1696deeda37d11750c7d9", func := "loop.example/weatherarchive/laws.FnBulletinDamage", spec := "fnBulletinDamage", inPlace := ["internal/reflectlite.TypeOf"], unfollowed := true, recurses := true, named := ["loop.example/weatherarchive/impl.errUnreadable", "internal/strconv.uint64pow10", "math/bits.deBruijn32tab", "math/bits.deBruijn64tab"], ifaces := true, apart := false, laid := [("math/bits.deBruijn32tab", laid_math_bits_deBruijn32tab), ("math/bits.deBruijn64tab", laid_math_bits_deBruijn64tab), ("internal/strconv.uint64pow10", laid_internal_strconv_uint64pow10), ("loop.example/weatherarchive/impl.errUnreadable", laid_loop_example_weatherarchive_impl_errUnreadable)], narrowed := true }
def FnBulletinDamageUptoSaid : Prop := fnBulletinDamageUptoRow.holds Tryd.pinned (OpenSpec.upto fnBulletinDamageSpec)

/-- 'laws.FnBulletinGood', WHERE WHAT IT READS IS OF BULK AT MOST 1048576: true; the input reads as it did. -/
def fnBulletinGoodUptoRow : OpenClaim := { program := "ytcfffgbnkjclfaadoor", sum := "5f7f0b3302abc79a5fa3156f2013da46861407c7eae1696deeda37d11750c7d9", func := "loop.example/weatherarchive/laws.FnBulletinGood", spec := "fnBulletinGood", inPlace := ["internal/reflectlite.TypeOf"], unfollowed := true, recurses := true, named := ["loop.example/weatherarchive/impl.errUnreadable", "internal/strconv.uint64pow10", "math/bits.deBruijn32tab", "math/bits.deBruijn64tab"], ifaces := true, apart := false, laid := [("math/bits.deBruijn32tab", laid_math_bits_deBruijn32tab), ("math/bits.deBruijn64tab", laid_math_bits_deBruijn64tab), ("internal/strconv.uint64pow10", laid_internal_strconv_uint64pow10), ("loop.example/weatherarchive/impl.errUnreadable", laid_loop_example_weatherarchive_impl_errUnreadable)], narrowed := true }
def FnBulletinGoodUptoSaid : Prop := fnBulletinGoodUptoRow.holds Tryd.pinned (OpenSpec.upto fnBulletinGoodSpec)

/-- 'laws.FnExactBulletinText', WHERE WHAT IT READS IS OF BULK AT MOST 1048576: true; the input reads as it did. -/
def fnExactBulletinTextUptoRow : OpenClaim := { program := "ytcfffgbnkjclfaadoor", sum := "5f7f0b3302abc79a5fa3156f2013da46861407c7eae1696deeda37d11750c7d9", func := "loop.example/weatherarchive/laws.FnExactBulletinText", spec := "fnExactBulletinText", recurses := true, named := ["internal/strconv.uint64pow10", "math/bits.deBruijn32tab", "math/bits.deBruijn64tab"], apart := false, laid := [("math/bits.deBruijn32tab", laid_math_bits_deBruijn32tab), ("math/bits.deBruijn64tab", laid_math_bits_deBruijn64tab), ("internal/strconv.uint64pow10", laid_internal_strconv_uint64pow10)], narrowed := true }
def FnExactBulletinTextUptoSaid : Prop := fnExactBulletinTextUptoRow.holds Tryd.pinned (OpenSpec.upto fnExactBulletinTextSpec)

/-- 'laws.FnExactBulletinParse', WHERE WHAT IT READS IS OF BULK AT MOST 1048576: true; the input reads as it did. -/
def fnExactBulletinParseUptoRow : OpenClaim := { program := "ytcfffgbnkjclfaadoor", sum := "5f7f0b3302abc79a5fa3156f2013da46861407c7eae1696deeda37d11750c7d9", func := "loop.example/weatherarchive/laws.FnExactBulletinParse", spec := "fnExactBulletinParse", inPlace := ["internal/reflectlite.TypeOf"], unfollowed := true, recurses := true, named := ["loop.example/weatherarchive/impl.errUnreadable", "internal/strconv.uint64pow10", "math/bits.deBruijn32tab", "math/bits.deBruijn64tab"], ifaces := true, apart := false, laid := [("math/bits.deBruijn32tab", laid_math_bits_deBruijn32tab), ("math/bits.deBruijn64tab", laid_math_bits_deBruijn64tab), ("internal/strconv.uint64pow10", laid_internal_strconv_uint64pow10), ("loop.example/weatherarchive/impl.errUnreadable", laid_loop_example_weatherarchive_impl_errUnreadable)], narrowed := true }
def FnExactBulletinParseUptoSaid : Prop := fnExactBulletinParseUptoRow.holds Tryd.pinned (OpenSpec.upto fnExactBulletinParseSpec)

/-- 'laws.FnExactBulletinGood', WHERE WHAT IT READS IS OF BULK AT MOST 1048576: true; the input reads as it did. -/
def fnExactBulletinGoodUptoRow : OpenClaim := { program := "ytcfffgbnkjclfaadoor", sum := "5f7f0b3302abc79a5fa3156f2013da46861407c7eae1696deeda37d11750c7d9", func := "loop.example/weatherarchive/laws.FnExactBulletinGood", spec := "fnExactBulletinGood", inPlace := ["internal/reflectlite.TypeOf"], unfollowed := true, recurses := true, named := ["loop.example/weatherarchive/impl.errUnreadable", "internal/strconv.uint64pow10", "math/bits.deBruijn32tab", "math/bits.deBruijn64tab"], ifaces := true, apart := false, laid := [("math/bits.deBruijn32tab", laid_math_bits_deBruijn32tab), ("math/bits.deBruijn64tab", laid_math_bits_deBruijn64tab), ("internal/strconv.uint64pow10", laid_internal_strconv_uint64pow10), ("loop.example/weatherarchive/impl.errUnreadable", laid_loop_example_weatherarchive_impl_errUnreadable)], narrowed := true }
def FnExactBulletinGoodUptoSaid : Prop := fnExactBulletinGoodUptoRow.holds Tryd.pinned (OpenSpec.upto fnExactBulletinGoodSpec)

end Rows
end Go.Proofs.YtcfffgbnkjclfaaDoor
