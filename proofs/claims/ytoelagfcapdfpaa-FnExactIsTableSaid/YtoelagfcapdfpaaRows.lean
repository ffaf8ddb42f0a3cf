/-
  No cell of these rows narrows 'for every input' (looked for: loops, veiled, ifaces, maps, wideKeys, modest, calm, conditions, laid).
  DERIVED. THE GIVEN ROWS OF THIS SEAT. 15 by the template 'for every input the law returns true; each argument reads behind the call as it read before'; 0 by the template 'total and deterministic' (their statements: YtoelagfcapdfpaaTotals.lean).
  GIVEN WITH THE SEED: the statements are not yours to turn. If you find one false, say at which input.
  Laid BY PROGRAM, IN A SANDBOX (cutbox-rows.mjs): the forced cells as the released guide's own fill.sh prints them over the translation 90219a6b00b755b3… (all of the seat's roots in one cut). By AI agents, Wed Nov 11 2026. No macro, syntax, notation, axiom, sorry.
-/
import Derived.Test.YtoelagfcapdfpaaChecked
import GoSem.Claim
import GoSem.ClaimJoined
import GoSem.ClaimMapViews
import Derived.JoinedTies
import Derived.KernelRfl
namespace Go.Proofs.Ytoelagfcapdfpaa
/- THE CELL 'sum', in the pinned program and in every row, IS THE sha256 OF THE DUMP (.gsa) THAT YtoelagfcapdfpaaProg.lean LOADS. Nothing in Lean hashes anything: it is a label: what it is worth is what the hold of that sum in a sandbox is worth. -/
noncomputable def Try.pinned : Pinned := { name := "ytoelagfcapdfpaa", sum := "90219a6b00b755b312c02ebe28cdb2873404c6ed353c925d097d82675a74d4b3", checked := Try.checked }
namespace Rows
def none {H : Type} : Left H := { results := [], args := [] }

/-- 'laws.FnExactKeyAt': WHATEVER THE INPUT: true; the input reads as it did. -/
def fnExactKeyAtSpec : ChangeSpec := { name := "fnExactKeyAt", fn := fun _ => fun
  | [d1, d2, d3] => { results := [.lit (.bool true)], args := [d1, d2, d3] }
  | _ => none }
def fnExactKeyAtRow : OpenClaim := { program := "ytoelagfcapdfpaa", sum := "90219a6b00b755b312c02ebe28cdb2873404c6ed353c925d097d82675a74d4b3", func := "loop.example/g01179/laws.FnExactKeyAt", spec := "fnExactKeyAt", plainKeys := false, apart := false }
def FnExactKeyAtSaid : Prop := fnExactKeyAtRow.holds Try.pinned (OpenSpec.ofChange fnExactKeyAtSpec)

/-- ITS FALSE NEIGHBOUR: 'it returns false'. Refute it at one input. -/
def fnExactKeyAtWrong : ChangeSpec := { name := "fnExactKeyAt", fn := fun _ => fun
  | [d1, d2, d3] => { results := [.lit (.bool false)], args := [d1, d2, d3] }
  | _ => none }
def FnExactKeyAtWrongFalsely : Prop := fnExactKeyAtRow.holds Try.pinned (OpenSpec.ofChange fnExactKeyAtWrong)

/-- 'laws.FnExactLessKey': WHATEVER THE INPUT: true; the input reads as it did. -/
def fnExactLessKeySpec : ChangeSpec := { name := "fnExactLessKey", fn := fun _ => fun
  | [d1, d2] => { results := [.lit (.bool true)], args := [d1, d2] }
  | _ => none }
def fnExactLessKeyRow : OpenClaim := { program := "ytoelagfcapdfpaa", sum := "90219a6b00b755b312c02ebe28cdb2873404c6ed353c925d097d82675a74d4b3", func := "loop.example/g01179/laws.FnExactLessKey", spec := "fnExactLessKey", inPlace := ["internal/bytealg.Compare"], plainKeys := false, apart := false }
def FnExactLessKeySaid : Prop := fnExactLessKeyRow.holds Try.pinned (OpenSpec.ofChange fnExactLessKeySpec)

/-- ITS FALSE NEIGHBOUR: 'it returns false'. Refute it at one input. -/
def fnExactLessKeyWrong : ChangeSpec := { name := "fnExactLessKey", fn := fun _ => fun
  | [d1, d2] => { results := [.lit (.bool false)], args := [d1, d2] }
  | _ => none }
def FnExactLessKeyWrongFalsely : Prop := fnExactLessKeyRow.holds Try.pinned (OpenSpec.ofChange fnExactLessKeyWrong)

/-- 'laws.FnExactCommonBits': WHATEVER THE INPUT: true; the input reads as it did. -/
def fnExactCommonBitsSpec : ChangeSpec := { name := "fnExactCommonBits", fn := fun _ => fun
  | [d1, d2] => { results := [.lit (.bool true)], args := [d1, d2] }
  | _ => none }
def fnExactCommonBitsRow : OpenClaim := { program := "ytoelagfcapdfpaa", sum := "90219a6b00b755b312c02ebe28cdb2873404c6ed353c925d097d82675a74d4b3", func := "loop.example/g01179/laws.FnExactCommonBits", spec := "fnExactCommonBits", plainKeys := false, apart := false }
def FnExactCommonBitsSaid : Prop := fnExactCommonBitsRow.holds Try.pinned (OpenSpec.ofChange fnExactCommonBitsSpec)

/-- ITS FALSE NEIGHBOUR: 'it returns false'. Refute it at one input. -/
def fnExactCommonBitsWrong : ChangeSpec := { name := "fnExactCommonBits", fn := fun _ => fun
  | [d1, d2] => { results := [.lit (.bool false)], args := [d1, d2] }
  | _ => none }
def FnExactCommonBitsWrongFalsely : Prop := fnExactCommonBitsRow.holds Try.pinned (OpenSpec.ofChange fnExactCommonBitsWrong)

/-- 'laws.FnExactNextKey': WHATEVER THE INPUT: true; the input reads as it did. -/
def fnExactNextKeySpec : ChangeSpec := { name := "fnExactNextKey", fn := fun _ => fun
  | [d] => { results := [.lit (.bool true)], args := [d] }
  | _ => none }
def fnExactNextKeyRow : OpenClaim := { program := "ytoelagfcapdfpaa", sum := "90219a6b00b755b312c02ebe28cdb2873404c6ed353c925d097d82675a74d4b3", func := "loop.example/g01179/laws.FnExactNextKey", spec := "fnExactNextKey", plainKeys := false, apart := false }
def FnExactNextKeySaid : Prop := fnExactNextKeyRow.holds Try.pinned (OpenSpec.ofChange fnExactNextKeySpec)

/-- ITS FALSE NEIGHBOUR: 'it returns false'. Refute it at one input. -/
def fnExactNextKeyWrong : ChangeSpec := { name := "fnExactNextKey", fn := fun _ => fun
  | [d] => { results := [.lit (.bool false)], args := [d] }
  | _ => none }
def FnExactNextKeyWrongFalsely : Prop := fnExactNextKeyRow.holds Try.pinned (OpenSpec.ofChange fnExactNextKeyWrong)

/-- 'laws.FnExactIsTable': WHATEVER THE INPUT: true; the input reads as it did. -/
def fnExactIsTableSpec : ChangeSpec := { name := "fnExactIsTable", fn := fun _ => fun
  | [d1, d2] => { results := [.lit (.bool true)], args := [d1, d2] }
  | _ => none }
def fnExactIsTableRow : OpenClaim := { program := "ytoelagfcapdfpaa", sum := "90219a6b00b755b312c02ebe28cdb2873404c6ed353c925d097d82675a74d4b3", func := "loop.example/g01179/laws.FnExactIsTable", spec := "fnExactIsTable", inPlace := ["internal/bytealg.Compare"], plainKeys := false, apart := false }
def FnExactIsTableSaid : Prop := fnExactIsTableRow.holds Try.pinned (OpenSpec.ofChange fnExactIsTableSpec)

/-- ITS FALSE NEIGHBOUR: 'it returns false'. Refute it at one input. -/
def fnExactIsTableWrong : ChangeSpec := { name := "fnExactIsTable", fn := fun _ => fun
  | [d1, d2] => { results := [.lit (.bool false)], args := [d1, d2] }
  | _ => none }
def FnExactIsTableWrongFalsely : Prop := fnExactIsTableRow.holds Try.pinned (OpenSpec.ofChange fnExactIsTableWrong)

/-- 'laws.FnExactFindEntry': WHATEVER THE INPUT: true; the input reads as it did. -/
def fnExactFindEntrySpec : ChangeSpec := { name := "fnExactFindEntry", fn := fun _ => fun
  | [d1, d2, d3] => { results := [.lit (.bool true)], args := [d1, d2, d3] }
  | _ => none }
def fnExactFindEntryRow : OpenClaim := { program := "ytoelagfcapdfpaa", sum := "90219a6b00b755b312c02ebe28cdb2873404c6ed353c925d097d82675a74d4b3", func := "loop.example/g01179/laws.FnExactFindEntry", spec := "fnExactFindEntry", inPlace := ["internal/bytealg.Compare"], unfollowed := true, recurses := true, plainKeys := false, apart := false }
def FnExactFindEntrySaid : Prop := fnExactFindEntryRow.holds Try.pinned (OpenSpec.ofChange fnExactFindEntrySpec)

/-- ITS FALSE NEIGHBOUR: 'it returns false'. Refute it at one input. -/
def fnExactFindEntryWrong : ChangeSpec := { name := "fnExactFindEntry", fn := fun _ => fun
  | [d1, d2, d3] => { results := [.lit (.bool false)], args := [d1, d2, d3] }
  | _ => none }
def FnExactFindEntryWrongFalsely : Prop := fnExactFindEntryRow.holds Try.pinned (OpenSpec.ofChange fnExactFindEntryWrong)

/-- 'laws.FnExactPutEntry': WHATEVER THE INPUT: true; the input reads as it did. -/
def fnExactPutEntrySpec : ChangeSpec := { name := "fnExactPutEntry", fn := fun _ => fun
  | [d1, d2, d3, d4] => { results := [.lit (.bool true)], args := [d1, d2, d3, d4] }
  | _ => none }
def fnExactPutEntryRow : OpenClaim := { program := "ytoelagfcapdfpaa", sum := "90219a6b00b755b312c02ebe28cdb2873404c6ed353c925d097d82675a74d4b3", func := "loop.example/g01179/laws.FnExactPutEntry", spec := "fnExactPutEntry", inPlace := ["internal/bytealg.Compare"], unfollowed := true, recurses := true, plainKeys := false, apart := false }
def FnExactPutEntrySaid : Prop := fnExactPutEntryRow.holds Try.pinned (OpenSpec.ofChange fnExactPutEntrySpec)

/-- ITS FALSE NEIGHBOUR: 'it returns false'. Refute it at one input. -/
def fnExactPutEntryWrong : ChangeSpec := { name := "fnExactPutEntry", fn := fun _ => fun
  | [d1, d2, d3, d4] => { results := [.lit (.bool false)], args := [d1, d2, d3, d4] }
  | _ => none }
def FnExactPutEntryWrongFalsely : Prop := fnExactPutEntryRow.holds Try.pinned (OpenSpec.ofChange fnExactPutEntryWrong)

/-- 'laws.FnExactDropEntry': WHATEVER THE INPUT: true; the input reads as it did. -/
def fnExactDropEntrySpec : ChangeSpec := { name := "fnExactDropEntry", fn := fun _ => fun
  | [d1, d2, d3] => { results := [.lit (.bool true)], args := [d1, d2, d3] }
  | _ => none }
def fnExactDropEntryRow : OpenClaim := { program := "ytoelagfcapdfpaa", sum := "90219a6b00b755b312c02ebe28cdb2873404c6ed353c925d097d82675a74d4b3", func := "loop.example/g01179/laws.FnExactDropEntry", spec := "fnExactDropEntry", inPlace := ["internal/bytealg.Compare"], unfollowed := true, recurses := true, plainKeys := false, apart := false }
def FnExactDropEntrySaid : Prop := fnExactDropEntryRow.holds Try.pinned (OpenSpec.ofChange fnExactDropEntrySpec)

/-- ITS FALSE NEIGHBOUR: 'it returns false'. Refute it at one input. -/
def fnExactDropEntryWrong : ChangeSpec := { name := "fnExactDropEntry", fn := fun _ => fun
  | [d1, d2, d3] => { results := [.lit (.bool false)], args := [d1, d2, d3] }
  | _ => none }
def FnExactDropEntryWrongFalsely : Prop := fnExactDropEntryRow.holds Try.pinned (OpenSpec.ofChange fnExactDropEntryWrong)

/-- 'laws.FnExactMergeTables': WHATEVER THE INPUT: true; the input reads as it did. -/
def fnExactMergeTablesSpec : ChangeSpec := { name := "fnExactMergeTables", fn := fun _ => fun
  | [d1, d2, d3] => { results := [.lit (.bool true)], args := [d1, d2, d3] }
  | _ => none }
def fnExactMergeTablesRow : OpenClaim := { program := "ytoelagfcapdfpaa", sum := "90219a6b00b755b312c02ebe28cdb2873404c6ed353c925d097d82675a74d4b3", func := "loop.example/g01179/laws.FnExactMergeTables", spec := "fnExactMergeTables", inPlace := ["internal/bytealg.Compare"], unfollowed := true, recurses := true, plainKeys := false, apart := false }
def FnExactMergeTablesSaid : Prop := fnExactMergeTablesRow.holds Try.pinned (OpenSpec.ofChange fnExactMergeTablesSpec)

/-- ITS FALSE NEIGHBOUR: 'it returns false'. Refute it at one input. -/
def fnExactMergeTablesWrong : ChangeSpec := { name := "fnExactMergeTables", fn := fun _ => fun
  | [d1, d2, d3] => { results := [.lit (.bool false)], args := [d1, d2, d3] }
  | _ => none }
def FnExactMergeTablesWrongFalsely : Prop := fnExactMergeTablesRow.holds Try.pinned (OpenSpec.ofChange fnExactMergeTablesWrong)

/-- 'laws.FnExactEntriesBetween': WHATEVER THE INPUT: true; the input reads as it did. -/
def fnExactEntriesBetweenSpec : ChangeSpec := { name := "fnExactEntriesBetween", fn := fun _ => fun
  | [d1, d2, d3, d4] => { results := [.lit (.bool true)], args := [d1, d2, d3, d4] }
  | _ => none }
def fnExactEntriesBetweenRow : OpenClaim := { program := "ytoelagfcapdfpaa", sum := "90219a6b00b755b312c02ebe28cdb2873404c6ed353c925d097d82675a74d4b3", func := "loop.example/g01179/laws.FnExactEntriesBetween", spec := "fnExactEntriesBetween", inPlace := ["internal/bytealg.Compare"], plainKeys := false, apart := false }
def FnExactEntriesBetweenSaid : Prop := fnExactEntriesBetweenRow.holds Try.pinned (OpenSpec.ofChange fnExactEntriesBetweenSpec)

/-- ITS FALSE NEIGHBOUR: 'it returns false'. Refute it at one input. -/
def fnExactEntriesBetweenWrong : ChangeSpec := { name := "fnExactEntriesBetween", fn := fun _ => fun
  | [d1, d2, d3, d4] => { results := [.lit (.bool false)], args := [d1, d2, d3, d4] }
  | _ => none }
def FnExactEntriesBetweenWrongFalsely : Prop := fnExactEntriesBetweenRow.holds Try.pinned (OpenSpec.ofChange fnExactEntriesBetweenWrong)

/-- 'laws.FnExactEncodeFrame': WHATEVER THE INPUT: true; the input reads as it did. -/
def fnExactEncodeFrameSpec : ChangeSpec := { name := "fnExactEncodeFrame", fn := fun _ => fun
  | [d1, d2] => { results := [.lit (.bool true)], args := [d1, d2] }
  | _ => none }
def fnExactEncodeFrameRow : OpenClaim := { program := "ytoelagfcapdfpaa", sum := "90219a6b00b755b312c02ebe28cdb2873404c6ed353c925d097d82675a74d4b3", func := "loop.example/g01179/laws.FnExactEncodeFrame", spec := "fnExactEncodeFrame", plainKeys := false, apart := false }
def FnExactEncodeFrameSaid : Prop := fnExactEncodeFrameRow.holds Try.pinned (OpenSpec.ofChange fnExactEncodeFrameSpec)

/-- ITS FALSE NEIGHBOUR: 'it returns false'. Refute it at one input. -/
def fnExactEncodeFrameWrong : ChangeSpec := { name := "fnExactEncodeFrame", fn := fun _ => fun
  | [d1, d2] => { results := [.lit (.bool false)], args := [d1, d2] }
  | _ => none }
def FnExactEncodeFrameWrongFalsely : Prop := fnExactEncodeFrameRow.holds Try.pinned (OpenSpec.ofChange fnExactEncodeFrameWrong)

/-- 'laws.FnExactParseFrames': WHATEVER THE INPUT: true; the input reads as it did. -/
def fnExactParseFramesSpec : ChangeSpec := { name := "fnExactParseFrames", fn := fun _ => fun
  | [d1, d2] => { results := [.lit (.bool true)], args := [d1, d2] }
  | _ => none }
def fnExactParseFramesRow : OpenClaim := { program := "ytoelagfcapdfpaa", sum := "90219a6b00b755b312c02ebe28cdb2873404c6ed353c925d097d82675a74d4b3", func := "loop.example/g01179/laws.FnExactParseFrames", spec := "fnExactParseFrames", plainKeys := false, apart := false }
def FnExactParseFramesSaid : Prop := fnExactParseFramesRow.holds Try.pinned (OpenSpec.ofChange fnExactParseFramesSpec)

/-- ITS FALSE NEIGHBOUR: 'it returns false'. Refute it at one input. -/
def fnExactParseFramesWrong : ChangeSpec := { name := "fnExactParseFrames", fn := fun _ => fun
  | [d1, d2] => { results := [.lit (.bool false)], args := [d1, d2] }
  | _ => none }
def FnExactParseFramesWrongFalsely : Prop := fnExactParseFramesRow.holds Try.pinned (OpenSpec.ofChange fnExactParseFramesWrong)

/-- 'laws.FnExactTagsOf': WHATEVER THE INPUT: true; the input reads as it did. -/
def fnExactTagsOfSpec : ChangeSpec := { name := "fnExactTagsOf", fn := fun _ => fun
  | [d1, d2] => { results := [.lit (.bool true)], args := [d1, d2] }
  | _ => none }
def fnExactTagsOfRow : OpenClaim := { program := "ytoelagfcapdfpaa", sum := "90219a6b00b755b312c02ebe28cdb2873404c6ed353c925d097d82675a74d4b3", func := "loop.example/g01179/laws.FnExactTagsOf", spec := "fnExactTagsOf", plainKeys := false, apart := false }
def FnExactTagsOfSaid : Prop := fnExactTagsOfRow.holds Try.pinned (OpenSpec.ofChange fnExactTagsOfSpec)

/-- ITS FALSE NEIGHBOUR: 'it returns false'. Refute it at one input. -/
def fnExactTagsOfWrong : ChangeSpec := { name := "fnExactTagsOf", fn := fun _ => fun
  | [d1, d2] => { results := [.lit (.bool false)], args := [d1, d2] }
  | _ => none }
def FnExactTagsOfWrongFalsely : Prop := fnExactTagsOfRow.holds Try.pinned (OpenSpec.ofChange fnExactTagsOfWrong)

/-- 'laws.FnExactLoadTable': WHATEVER THE INPUT: true; the input reads as it did. -/
def fnExactLoadTableSpec : ChangeSpec := { name := "fnExactLoadTable", fn := fun _ => fun
  | [d1, d2] => { results := [.lit (.bool true)], args := [d1, d2] }
  | _ => none }
def fnExactLoadTableRow : OpenClaim := { program := "ytoelagfcapdfpaa", sum := "90219a6b00b755b312c02ebe28cdb2873404c6ed353c925d097d82675a74d4b3", func := "loop.example/g01179/laws.FnExactLoadTable", spec := "fnExactLoadTable", inPlace := ["internal/bytealg.Compare"], unfollowed := true, recurses := true, plainKeys := false, apart := false }
def FnExactLoadTableSaid : Prop := fnExactLoadTableRow.holds Try.pinned (OpenSpec.ofChange fnExactLoadTableSpec)

/-- ITS FALSE NEIGHBOUR: 'it returns false'. Refute it at one input. -/
def fnExactLoadTableWrong : ChangeSpec := { name := "fnExactLoadTable", fn := fun _ => fun
  | [d1, d2] => { results := [.lit (.bool false)], args := [d1, d2] }
  | _ => none }
def FnExactLoadTableWrongFalsely : Prop := fnExactLoadTableRow.holds Try.pinned (OpenSpec.ofChange fnExactLoadTableWrong)

/-- 'laws.FnExactAppendFrame': WHATEVER THE INPUT: true; the input reads as it did. -/
def fnExactAppendFrameSpec : ChangeSpec := { name := "fnExactAppendFrame", fn := fun _ => fun
  | [d1, d2, d3, d4] => { results := [.lit (.bool true)], args := [d1, d2, d3, d4] }
  | _ => none }
def fnExactAppendFrameRow : OpenClaim := { program := "ytoelagfcapdfpaa", sum := "90219a6b00b755b312c02ebe28cdb2873404c6ed353c925d097d82675a74d4b3", func := "loop.example/g01179/laws.FnExactAppendFrame", spec := "fnExactAppendFrame", plainKeys := false, apart := false }
def FnExactAppendFrameSaid : Prop := fnExactAppendFrameRow.holds Try.pinned (OpenSpec.ofChange fnExactAppendFrameSpec)

/-- ITS FALSE NEIGHBOUR: 'it returns false'. Refute it at one input. -/
def fnExactAppendFrameWrong : ChangeSpec := { name := "fnExactAppendFrame", fn := fun _ => fun
  | [d1, d2, d3, d4] => { results := [.lit (.bool false)], args := [d1, d2, d3, d4] }
  | _ => none }
def FnExactAppendFrameWrongFalsely : Prop := fnExactAppendFrameRow.holds Try.pinned (OpenSpec.ofChange fnExactAppendFrameWrong)

/- THE SECOND FORM. 'bulk': how many values and letters a reading holds, each counted each time it is reached (what is shared counts as often as it is met; a slice's spare places count too). A statement '..UptoSaid' is the law's where the arguments, and the package variables that the reading takes, are together of bulk at most 1048576: NARROWER than '..Said'. Prove '..Said' where nothing that the law and all that it calls make is longer than what came in: it says more and counts as full. Else prove '..UptoSaid'. A law counts once. -/
mutual
def uptoBulk {H : Type} : DataW H → Nat
  | .lit (.string bytes) => bytes.length + 1
  | .lit _ => 1
  | .nil => 1
  | .ptr d => uptoBulk d + 1
  | .slice elems spare => uptoBulkAll elems + uptoBulkAll spare + 1
  | .agg parts => uptoBulkAll parts + 1
  | .iface _ d => uptoBulk d + 1
  | .map entries => uptoBulkEntries entries + 1
  | .held _ => 1
def uptoBulkAll {H : Type} : List (DataW H) → Nat
  | [] => 0
  | d :: r => uptoBulk d + uptoBulkAll r
def uptoBulkEntries {H : Type} : List (Lit × DataW H) → Nat
  | [] => 0
  | x :: r => uptoBulkEntry x + uptoBulkEntries r
def uptoBulkEntry {H : Type} : Lit × DataW H → Nat
  | (.string bytes, d) => bytes.length + uptoBulk d + 1
  | (_, d) => uptoBulk d + 1
 end
def uptoSmall : (H : Type) → List (DataW H) → Bool := fun _ ds => decide (uptoBulkAll ds ≤ 1048576)
def OpenSpec.upto (s : _root_.Go.ChangeSpec) : _root_.Go.OpenSpec := { _root_.Go.OpenSpec.ofChange s with cond := some uptoSmall }

/-- 'laws.FnExactKeyAt', WHERE WHAT IT READS IS OF BULK AT MOST 1048576: true; the input reads as it did. -/
def fnExactKeyAtUptoRow : OpenClaim := { program := "ytoelagfcapdfpaa", sum := "90219a6b00b755b312c02ebe28cdb2873404c6ed353c925d097d82675a74d4b3", func := "loop.example/g01179/laws.FnExactKeyAt", spec := "fnExactKeyAt", plainKeys := false, apart := false, narrowed := true }
def FnExactKeyAtUptoSaid : Prop := fnExactKeyAtUptoRow.holds Try.pinned (OpenSpec.upto fnExactKeyAtSpec)

/-- 'laws.FnExactLessKey', WHERE WHAT IT READS IS OF BULK AT MOST 1048576: true; the input reads as it did. -/
def fnExactLessKeyUptoRow : OpenClaim := { program := "ytoelagfcapdfpaa", sum := "90219a6b00b755b312c02ebe28cdb2873404c6ed353c925d097d82675a74d4b3", func := "loop.example/g01179/laws.FnExactLessKey", spec := "fnExactLessKey", inPlace := ["internal/bytealg.Compare"], plainKeys := false, apart := false, narrowed := true }
def FnExactLessKeyUptoSaid : Prop := fnExactLessKeyUptoRow.holds Try.pinned (OpenSpec.upto fnExactLessKeySpec)

/-- 'laws.FnExactCommonBits', WHERE WHAT IT READS IS OF BULK AT MOST 1048576: true; the input reads as it did. -/
def fnExactCommonBitsUptoRow : OpenClaim := { program := "ytoelagfcapdfpaa", sum := "90219a6b00b755b312c02ebe28cdb2873404c6ed353c925d097d82675a74d4b3", func := "loop.example/g01179/laws.FnExactCommonBits", spec := "fnExactCommonBits", plainKeys := false, apart := false, narrowed := true }
def FnExactCommonBitsUptoSaid : Prop := fnExactCommonBitsUptoRow.holds Try.pinned (OpenSpec.upto fnExactCommonBitsSpec)

/-- 'laws.FnExactNextKey', WHERE WHAT IT READS IS OF BULK AT MOST 1048576: true; the input reads as it did. -/
def fnExactNextKeyUptoRow : OpenClaim := { program := "ytoelagfcapdfpaa", sum := "90219a6b00b755b312c02ebe28cdb2873404c6ed353c925d097d82675a74d4b3", func := "loop.example/g01179/laws.FnExactNextKey", spec := "fnExactNextKey", plainKeys := false, apart := false, narrowed := true }
def FnExactNextKeyUptoSaid : Prop := fnExactNextKeyUptoRow.holds Try.pinned (OpenSpec.upto fnExactNextKeySpec)

/-- 'laws.FnExactIsTable', WHERE WHAT IT READS IS OF BULK AT MOST 1048576: true; the input reads as it did. -/
def fnExactIsTableUptoRow : OpenClaim := { program := "ytoelagfcapdfpaa", sum := "90219a6b00b755b312c02ebe28cdb2873404c6ed353c925d097d82675a74d4b3", func := "loop.example/g01179/laws.FnExactIsTable", spec := "fnExactIsTable", inPlace := ["internal/bytealg.Compare"], plainKeys := false, apart := false, narrowed := true }
def FnExactIsTableUptoSaid : Prop := fnExactIsTableUptoRow.holds Try.pinned (OpenSpec.upto fnExactIsTableSpec)

/-- 'laws.FnExactFindEntry', WHERE WHAT IT READS IS OF BULK AT MOST 1048576: true; the input reads as it did. -/
def fnExactFindEntryUptoRow : OpenClaim := { program := "ytoelagfcapdfpaa", sum := "90219a6b00b755b312c02ebe28cdb2873404c6ed353c925d097d82675a74d4b3", func := "loop.example/g01179/laws.FnExactFindEntry", spec := "fnExactFindEntry", inPlace := ["internal/bytealg.Compare"], unfollowed := true, recurses := true, plainKeys := false, apart := false, narrowed := true }
def FnExactFindEntryUptoSaid : Prop := fnExactFindEntryUptoRow.holds Try.pinned (OpenSpec.upto fnExactFindEntrySpec)

/-- 'laws.FnExactPutEntry', WHERE WHAT IT READS IS OF BULK AT MOST 1048576: true; the input reads as it did. -/
def fnExactPutEntryUptoRow : OpenClaim := { program := "ytoelagfcapdfpaa", sum := "90219a6b00b755b312c02ebe28cdb2873404c6ed353c925d097d82675a74d4b3", func := "loop.example/g01179/laws.FnExactPutEntry", spec := "fnExactPutEntry", inPlace := ["internal/bytealg.Compare"], unfollowed := true, recurses := true, plainKeys := false, apart := false, narrowed := true }
def FnExactPutEntryUptoSaid : Prop := fnExactPutEntryUptoRow.holds Try.pinned (OpenSpec.upto fnExactPutEntrySpec)

/-- 'laws.FnExactDropEntry', WHERE WHAT IT READS IS OF BULK AT MOST 1048576: true; the input reads as it did. -/
def fnExactDropEntryUptoRow : OpenClaim := { program := "ytoelagfcapdfpaa", sum := "90219a6b00b755b312c02ebe28cdb2873404c6ed353c925d097d82675a74d4b3", func := "loop.example/g01179/laws.FnExactDropEntry", spec := "fnExactDropEntry", inPlace := ["internal/bytealg.Compare"], unfollowed := true, recurses := true, plainKeys := false, apart := false, narrowed := true }
def FnExactDropEntryUptoSaid : Prop := fnExactDropEntryUptoRow.holds Try.pinned (OpenSpec.upto fnExactDropEntrySpec)

/-- 'laws.FnExactMergeTables', WHERE WHAT IT READS IS OF BULK AT MOST 1048576: true; the input reads as it did. -/
def fnExactMergeTablesUptoRow : OpenClaim := { program := "ytoelagfcapdfpaa", sum := "90219a6b00b755b312c02ebe28cdb2873404c6ed353c925d097d82675a74d4b3", func := "loop.example/g01179/laws.FnExactMergeTables", spec := "fnExactMergeTables", inPlace := ["internal/bytealg.Compare"], unfollowed := true, recurses := true, plainKeys := false, apart := false, narrowed := true }
def FnExactMergeTablesUptoSaid : Prop := fnExactMergeTablesUptoRow.holds Try.pinned (OpenSpec.upto fnExactMergeTablesSpec)

/-- 'laws.FnExactEntriesBetween', WHERE WHAT IT READS IS OF BULK AT MOST 1048576: true; the input reads as it did. -/
def fnExactEntriesBetweenUptoRow : OpenClaim := { program := "ytoelagfcapdfpaa", sum := "90219a6b00b755b312c02ebe28cdb2873404c6ed353c925d097d82675a74d4b3", func := "loop.example/g01179/laws.FnExactEntriesBetween", spec := "fnExactEntriesBetween", inPlace := ["internal/bytealg.Compare"], plainKeys := false, apart := false, narrowed := true }
def FnExactEntriesBetweenUptoSaid : Prop := fnExactEntriesBetweenUptoRow.holds Try.pinned (OpenSpec.upto fnExactEntriesBetweenSpec)

/-- 'laws.FnExactEncodeFrame', WHERE WHAT IT READS IS OF BULK AT MOST 1048576: true; the input reads as it did. -/
def fnExactEncodeFrameUptoRow : OpenClaim := { program := "ytoelagfcapdfpaa", sum := "90219a6b00b755b312c02ebe28cdb2873404c6ed353c925d097d82675a74d4b3", func := "loop.example/g01179/laws.FnExactEncodeFrame", spec := "fnExactEncodeFrame", plainKeys := false, apart := false, narrowed := true }
def FnExactEncodeFrameUptoSaid : Prop := fnExactEncodeFrameUptoRow.holds Try.pinned (OpenSpec.upto fnExactEncodeFrameSpec)

/-- 'laws.FnExactParseFrames', WHERE WHAT IT READS IS OF BULK AT MOST 1048576: true; the input reads as it did. -/
def fnExactParseFramesUptoRow : OpenClaim := { program := "ytoelagfcapdfpaa", sum := "90219a6b00b755b312c02ebe28cdb2873404c6ed353c925d097d82675a74d4b3", func := "loop.example/g01179/laws.FnExactParseFrames", spec := "fnExactParseFrames", plainKeys := false, apart := false, narrowed := true }
def FnExactParseFramesUptoSaid : Prop := fnExactParseFramesUptoRow.holds Try.pinned (OpenSpec.upto fnExactParseFramesSpec)

/-- 'laws.FnExactTagsOf', WHERE WHAT IT READS IS OF BULK AT MOST 1048576: true; the input reads as it did. -/
def fnExactTagsOfUptoRow : OpenClaim := { program := "ytoelagfcapdfpaa", sum := "90219a6b00b755b312c02ebe28cdb2873404c6ed353c925d097d82675a74d4b3", func := "loop.example/g01179/laws.FnExactTagsOf", spec := "fnExactTagsOf", plainKeys := false, apart := false, narrowed := true }
def FnExactTagsOfUptoSaid : Prop := fnExactTagsOfUptoRow.holds Try.pinned (OpenSpec.upto fnExactTagsOfSpec)

/-- 'laws.FnExactLoadTable', WHERE WHAT IT READS IS OF BULK AT MOST 1048576: true; the input reads as it did. -/
def fnExactLoadTableUptoRow : OpenClaim := { program := "ytoelagfcapdfpaa", sum := "90219a6b00b755b312c02ebe28cdb2873404c6ed353c925d097d82675a74d4b3", func := "loop.example/g01179/laws.FnExactLoadTable", spec := "fnExactLoadTable", inPlace := ["internal/bytealg.Compare"], unfollowed := true, recurses := true, plainKeys := false, apart := false, narrowed := true }
def FnExactLoadTableUptoSaid : Prop := fnExactLoadTableUptoRow.holds Try.pinned (OpenSpec.upto fnExactLoadTableSpec)

/-- 'laws.FnExactAppendFrame', WHERE WHAT IT READS IS OF BULK AT MOST 1048576: true; the input reads as it did. -/
def fnExactAppendFrameUptoRow : OpenClaim := { program := "ytoelagfcapdfpaa", sum := "90219a6b00b755b312c02ebe28cdb2873404c6ed353c925d097d82675a74d4b3", func := "loop.example/g01179/laws.FnExactAppendFrame", spec := "fnExactAppendFrame", plainKeys := false, apart := false, narrowed := true }
def FnExactAppendFrameUptoSaid : Prop := fnExactAppendFrameUptoRow.holds Try.pinned (OpenSpec.upto fnExactAppendFrameSpec)

end Rows
end Go.Proofs.Ytoelagfcapdfpaa
