/-
  NARROWER THAN 'FOR EVERY INPUT', by the rows' own cells (each row's printed sentence says how): FnExactKeyBytes: laid · FnExactRowBytes: laid · FnExactKeyValues: laid · FnExactRowValues: laid · FnKeyOrder: laid.
  DERIVED. THE GIVEN ROWS OF THIS SEAT. 5 by the template 'for every input the law returns true; each argument reads behind the call as it read before'; 0 by the template 'total and deterministic' (their statements: YtfgjleifhjegkaaDoorTotals.lean).
  GIVEN WITH THE SEED: the statements are not yours to turn. If you find one false, say at which input.
  Laid BY PROGRAM, IN A SANDBOX (cutbox-rows.mjs): the forced cells as the released guide's own fill.sh prints them over the translation 1e159e4a5a95c3af… (all of the seat's roots in one cut). By AI agents, Wed Nov 11 2026. No macro, syntax, notation, axiom, sorry.
-/
import Derived.Test.YtfgjleifhjegkaaDoorChecked
import GoSem.PinnedTables
import GoSem.Claim
import GoSem.ClaimJoined
import GoSem.ClaimMapViews
import Derived.JoinedTies
import Derived.KernelRfl
namespace Go.Proofs.YtfgjleifhjegkaaDoor
/- THE CELL 'sum', in the pinned program and in every row, IS THE sha256 OF THE DUMP (.gsa) THAT YtfgjleifhjegkaaDoorProg.lean LOADS. Nothing in Lean hashes anything: it is a label: what it is worth is what the hold of that sum in a sandbox is worth. -/
noncomputable def Tryd.pinned : Pinned := { name := "ytfgjleifhjegkaadoor", sum := "1e159e4a5a95c3af245a32c30c98297cf6fed6613ae855a95e8d0e7159e4afd5", checked := Tryd.checked }
namespace Rows
def none {H : Type} : Left H := { results := [], args := [] }

/- WHAT THE LISTED PACKAGE-LEVEL VARIABLES READ AS WHEN THE CALL BEGINS. Each datum BY PROGRAM (the guide's laid-datum.mjs) off the statement by which the dump's own 'gosem.cut.vars' lays the variable. In a bare row this is a premise. The card (YtfgjleifhjegkaaDoorCards.lean) ties it to the program's text. -/
def laid_unicode_utf8_acceptRanges {H : Type} : DataW H := .agg [.agg [.lit (.int .u8 128), .lit (.int .u8 191)], .agg [.lit (.int .u8 160), .lit (.int .u8 191)], .agg [.lit (.int .u8 128), .lit (.int .u8 159)], .agg [.lit (.int .u8 144), .lit (.int .u8 191)], .agg [.lit (.int .u8 128), .lit (.int .u8 143)], .agg [.lit (.int .u8 0), .lit (.int .u8 0)], .agg [.lit (.int .u8 0), .lit (.int .u8 0)], .agg [.lit (.int .u8 0), .lit (.int .u8 0)], .agg [.lit (.int .u8 0), .lit (.int .u8 0)], .agg [.lit (.int .u8 0), .lit (.int .u8 0)], .agg [.lit (.int .u8 0), .lit (.int .u8 0)], .agg [.lit (.int .u8 0), .lit (.int .u8 0)], .agg [.lit (.int .u8 0), .lit (.int .u8 0)], .agg [.lit (.int .u8 0), .lit (.int .u8 0)], .agg [.lit (.int .u8 0), .lit (.int .u8 0)], .agg [.lit (.int .u8 0), .lit (.int .u8 0)]]
/-- One of Go's own tables, pinned by name: the form's constant. -/
def laid_unicode_utf8_first : DataW Unit := Go.Pinned.utf8First

/-- 'laws.FnExactKeyBytes': WHATEVER THE INPUT: true; the input reads as it did. -/
def fnExactKeyBytesSpec : ChangeSpec := { name := "fnExactKeyBytes", fn := fun _ => fun
  | [d] => { results := [.lit (.bool true)], args := [d] }
  | _ => none }
def fnExactKeyBytesRow : OpenClaim := { program := "ytfgjleifhjegkaadoor", sum := "1e159e4a5a95c3af245a32c30c98297cf6fed6613ae855a95e8d0e7159e4afd5", func := "loop.example/g00001/laws.FnExactKeyBytes", spec := "fnExactKeyBytes", unfollowed := true, recurses := true, named := ["unicode/utf8.first", "unicode/utf8.acceptRanges"], apart := false, laid := [("unicode/utf8.acceptRanges", laid_unicode_utf8_acceptRanges), ("unicode/utf8.first", laid_unicode_utf8_first)] }
def FnExactKeyBytesSaid : Prop := fnExactKeyBytesRow.holds Tryd.pinned (OpenSpec.ofChange fnExactKeyBytesSpec)

/-- ITS FALSE NEIGHBOUR: 'it returns false'. Refute it at one input. -/
def fnExactKeyBytesWrong : ChangeSpec := { name := "fnExactKeyBytes", fn := fun _ => fun
  | [d] => { results := [.lit (.bool false)], args := [d] }
  | _ => none }
def FnExactKeyBytesWrongFalsely : Prop := fnExactKeyBytesRow.holds Tryd.pinned (OpenSpec.ofChange fnExactKeyBytesWrong)

/-- 'laws.FnExactRowBytes': WHATEVER THE INPUT: true; the input reads as it did. -/
def fnExactRowBytesSpec : ChangeSpec := { name := "fnExactRowBytes", fn := fun _ => fun
  | [d] => { results := [.lit (.bool true)], args := [d] }
  | _ => none }
def fnExactRowBytesRow : OpenClaim := { program := "ytfgjleifhjegkaadoor", sum := "1e159e4a5a95c3af245a32c30c98297cf6fed6613ae855a95e8d0e7159e4afd5", func := "loop.example/g00001/laws.FnExactRowBytes", spec := "fnExactRowBytes", unfollowed := true, recurses := true, named := ["unicode/utf8.first", "unicode/utf8.acceptRanges"], apart := false, laid := [("unicode/utf8.acceptRanges", laid_unicode_utf8_acceptRanges), ("unicode/utf8.first", laid_unicode_utf8_first)] }
def FnExactRowBytesSaid : Prop := fnExactRowBytesRow.holds Tryd.pinned (OpenSpec.ofChange fnExactRowBytesSpec)

/-- ITS FALSE NEIGHBOUR: 'it returns false'. Refute it at one input. -/
def fnExactRowBytesWrong : ChangeSpec := { name := "fnExactRowBytes", fn := fun _ => fun
  | [d] => { results := [.lit (.bool false)], args := [d] }
  | _ => none }
def FnExactRowBytesWrongFalsely : Prop := fnExactRowBytesRow.holds Tryd.pinned (OpenSpec.ofChange fnExactRowBytesWrong)

/-- 'laws.FnExactKeyValues': WHATEVER THE INPUT: true; the input reads as it did. -/
def fnExactKeyValuesSpec : ChangeSpec := { name := "fnExactKeyValues", fn := fun _ => fun
  | [d] => { results := [.lit (.bool true)], args := [d] }
  | _ => none }
def fnExactKeyValuesRow : OpenClaim := { program := "ytfgjleifhjegkaadoor", sum := "1e159e4a5a95c3af245a32c30c98297cf6fed6613ae855a95e8d0e7159e4afd5", func := "loop.example/g00001/laws.FnExactKeyValues", spec := "fnExactKeyValues", unfollowed := true, recurses := true, named := ["unicode/utf8.first", "unicode/utf8.acceptRanges"], apart := false, laid := [("unicode/utf8.acceptRanges", laid_unicode_utf8_acceptRanges), ("unicode/utf8.first", laid_unicode_utf8_first)] }
def FnExactKeyValuesSaid : Prop := fnExactKeyValuesRow.holds Tryd.pinned (OpenSpec.ofChange fnExactKeyValuesSpec)

/-- ITS FALSE NEIGHBOUR: 'it returns false'. Refute it at one input. -/
def fnExactKeyValuesWrong : ChangeSpec := { name := "fnExactKeyValues", fn := fun _ => fun
  | [d] => { results := [.lit (.bool false)], args := [d] }
  | _ => none }
def FnExactKeyValuesWrongFalsely : Prop := fnExactKeyValuesRow.holds Tryd.pinned (OpenSpec.ofChange fnExactKeyValuesWrong)

/-- 'laws.FnExactRowValues': WHATEVER THE INPUT: true; the input reads as it did. -/
def fnExactRowValuesSpec : ChangeSpec := { name := "fnExactRowValues", fn := fun _ => fun
  | [d] => { results := [.lit (.bool true)], args := [d] }
  | _ => none }
def fnExactRowValuesRow : OpenClaim := { program := "ytfgjleifhjegkaadoor", sum := "1e159e4a5a95c3af245a32c30c98297cf6fed6613ae855a95e8d0e7159e4afd5", func := "loop.example/g00001/laws.FnExactRowValues", spec := "fnExactRowValues", unfollowed := true, recurses := true, named := ["unicode/utf8.first", "unicode/utf8.acceptRanges"], apart := false, laid := [("unicode/utf8.acceptRanges", laid_unicode_utf8_acceptRanges), ("unicode/utf8.first", laid_unicode_utf8_first)] }
def FnExactRowValuesSaid : Prop := fnExactRowValuesRow.holds Tryd.pinned (OpenSpec.ofChange fnExactRowValuesSpec)

/-- ITS FALSE NEIGHBOUR: 'it returns false'. Refute it at one input. -/
def fnExactRowValuesWrong : ChangeSpec := { name := "fnExactRowValues", fn := fun _ => fun
  | [d] => { results := [.lit (.bool false)], args := [d] }
  | _ => none }
def FnExactRowValuesWrongFalsely : Prop := fnExactRowValuesRow.holds Tryd.pinned (OpenSpec.ofChange fnExactRowValuesWrong)

/-- 'laws.FnKeyOrder': WHATEVER THE INPUT: true; the input reads as it did. -/
def fnKeyOrderSpec : ChangeSpec := { name := "fnKeyOrder", fn := fun _ => fun
  | [d] => { results := [.lit (.bool true)], args := [d] }
  | _ => none }
def fnKeyOrderRow : OpenClaim := { program := "ytfgjleifhjegkaadoor", sum := "1e159e4a5a95c3af245a32c30c98297cf6fed6613ae855a95e8d0e7159e4afd5", func := "loop.example/g00001/laws.FnKeyOrder", spec := "fnKeyOrder", unfollowed := true, recurses := true, named := ["unicode/utf8.first", "unicode/utf8.acceptRanges"], apart := false, laid := [("unicode/utf8.acceptRanges", laid_unicode_utf8_acceptRanges), ("unicode/utf8.first", laid_unicode_utf8_first)] }
def FnKeyOrderSaid : Prop := fnKeyOrderRow.holds Tryd.pinned (OpenSpec.ofChange fnKeyOrderSpec)

/-- ITS FALSE NEIGHBOUR: 'it returns false'. Refute it at one input. -/
def fnKeyOrderWrong : ChangeSpec := { name := "fnKeyOrder", fn := fun _ => fun
  | [d] => { results := [.lit (.bool false)], args := [d] }
  | _ => none }
def FnKeyOrderWrongFalsely : Prop := fnKeyOrderRow.holds Tryd.pinned (OpenSpec.ofChange fnKeyOrderWrong)

/- THE SECOND FORM. 'bulk': how many values and letters a reading holds, each counted each time it is reached (what is shared counts as often as it is met; a slice's spare places count too). A statement '..UptoSaid' is the law's where the arguments, and the package variables that the reading takes, are together of bulk at most 1048576: NARROWER than '..Said'. Prove '..Said' where nothing that the law and all that it calls make is longer than what came in: it says more and counts as full. Else prove '..UptoSaid'. A law counts once. -/
mutual
def uptoBulk {H : Type} : DataW H → Nat
  | .lit (.string bytes) => bytes.length + 1
  | .lit _ => 1
  | .nil => 1
  | .ptr d => uptoBulk d + 1
  | .slice elems spare => uptoBulkAll elems + uptoBulkAll spare + 1
  | .agg parts => uptoBulkAll parts + 1
  | .iface _ d => uptoBulk d + 1
  | .map entries => uptoBulkEntries entries + 1
  | .held _ => 1
def uptoBulkAll {H : Type} : List (DataW H) → Nat
  | [] => 0
  | d :: r => uptoBulk d + uptoBulkAll r
def uptoBulkEntries {H : Type} : List (Lit × DataW H) → Nat
  | [] => 0
  | x :: r => uptoBulkEntry x + uptoBulkEntries r
def uptoBulkEntry {H : Type} : Lit × DataW H → Nat
  | (.string bytes, d) => bytes.length + uptoBulk d + 1
  | (_, d) => uptoBulk d + 1
 end
def uptoSmall : (H : Type) → List (DataW H) → Bool := fun _ ds => decide (uptoBulkAll ds ≤ 1048576)
def OpenSpec.upto (s : _root_.Go.ChangeSpec) : _root_.Go.OpenSpec := { _root_.Go.OpenSpec.ofChange s with cond := some uptoSmall }

/-- 'laws.FnExactKeyBytes', WHERE WHAT IT READS IS OF BULK AT MOST 1048576: true; the input reads as it did. -/
def fnExactKeyBytesUptoRow : OpenClaim := { program := "ytfgjleifhjegkaadoor", sum := "1e159e4a5a95c3af245a32c30c98297cf6fed6613ae855a95e8d0e7159e4afd5", func := "loop.example/g00001/laws.FnExactKeyBytes", spec := "fnExactKeyBytes", unfollowed := true, recurses := true, named := ["unicode/utf8.first", "unicode/utf8.acceptRanges"], apart := false, laid := [("unicode/utf8.acceptRanges", laid_unicode_utf8_acceptRanges), ("unicode/utf8.first", laid_unicode_utf8_first)], narrowed := true }
def FnExactKeyBytesUptoSaid : Prop := fnExactKeyBytesUptoRow.holds Tryd.pinned (OpenSpec.upto fnExactKeyBytesSpec)

/-- 'laws.FnExactRowBytes', WHERE WHAT IT READS IS OF BULK AT MOST 1048576: true; the input reads as it did. -/
def fnExactRowBytesUptoRow : OpenClaim := { program := "ytfgjleifhjegkaadoor", sum := "1e159e4a5a95c3af245a32c30c98297cf6fed6613ae855a95e8d0e7159e4afd5", func := "loop.example/g00001/laws.FnExactRowBytes", spec := "fnExactRowBytes", unfollowed := true, recurses := true, named := ["unicode/utf8.first", "unicode/utf8.acceptRanges"], apart := false, laid := [("unicode/utf8.acceptRanges", laid_unicode_utf8_acceptRanges), ("unicode/utf8.first", laid_unicode_utf8_first)], narrowed := true }
def FnExactRowBytesUptoSaid : Prop := fnExactRowBytesUptoRow.holds Tryd.pinned (OpenSpec.upto fnExactRowBytesSpec)

/-- 'laws.FnExactKeyValues', WHERE WHAT IT READS IS OF BULK AT MOST 1048576: true; the input reads as it did. -/
def fnExactKeyValuesUptoRow : OpenClaim := { program := "ytfgjleifhjegkaadoor", sum := "1e159e4a5a95c3af245a32c30c98297cf6fed6613ae855a95e8d0e7159e4afd5", func := "loop.example/g00001/laws.FnExactKeyValues", spec := "fnExactKeyValues", unfollowed := true, recurses := true, named := ["unicode/utf8.first", "unicode/utf8.acceptRanges"], apart := false, laid := [("unicode/utf8.acceptRanges", laid_unicode_utf8_acceptRanges), ("unicode/utf8.first", laid_unicode_utf8_first)], narrowed := true }
def FnExactKeyValuesUptoSaid : Prop := fnExactKeyValuesUptoRow.holds Tryd.pinned (OpenSpec.upto fnExactKeyValuesSpec)

/-- 'laws.FnExactRowValues', WHERE WHAT IT READS IS OF BULK AT MOST 1048576: true; the input reads as it did. -/
def fnExactRowValuesUptoRow : OpenClaim := { program := "ytfgjleifhjegkaadoor", sum := "1e159e4a5a95c3af245a32c30c98297cf6fed6613ae855a95e8d0e7159e4afd5", func := "loop.example/g00001/laws.FnExactRowValues", spec := "fnExactRowValues", unfollowed := true, recurses := true, named := ["unicode/utf8.first", "unicode/utf8.acceptRanges"], apart := false, laid := [("unicode/utf8.acceptRanges", laid_unicode_utf8_acceptRanges), ("unicode/utf8.first", laid_unicode_utf8_first)], narrowed := true }
def FnExactRowValuesUptoSaid : Prop := fnExactRowValuesUptoRow.holds Tryd.pinned (OpenSpec.upto fnExactRowValuesSpec)

/-- 'laws.FnKeyOrder', WHERE WHAT IT READS IS OF BULK AT MOST 1048576: true; the input reads as it did. -/
def fnKeyOrderUptoRow : OpenClaim := { program := "ytfgjleifhjegkaadoor", sum := "1e159e4a5a95c3af245a32c30c98297cf6fed6613ae855a95e8d0e7159e4afd5", func := "loop.example/g00001/laws.FnKeyOrder", spec := "fnKeyOrder", unfollowed := true, recurses := true, named := ["unicode/utf8.first", "unicode/utf8.acceptRanges"], apart := false, laid := [("unicode/utf8.acceptRanges", laid_unicode_utf8_acceptRanges), ("unicode/utf8.first", laid_unicode_utf8_first)], narrowed := true }
def FnKeyOrderUptoSaid : Prop := fnKeyOrderUptoRow.holds Tryd.pinned (OpenSpec.upto fnKeyOrderSpec)

end Rows
end Go.Proofs.YtfgjleifhjegkaaDoor
