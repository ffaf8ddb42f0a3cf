/-
  No cell of these rows narrows 'for every input' (looked for: loops, veiled, ifaces, maps, wideKeys, modest, calm, conditions, laid).
  DERIVED. THE GIVEN ROWS OF THIS SEAT. 11 by the template 'for every input the law returns true; each argument reads behind the call as it read before'; 0 by the template 'total and deterministic' (their statements: YtbdaaeffbhcflaaTotals.lean).
  GIVEN WITH THE SEED: the statements are not yours to turn. If you find one false, say at which input.
  Laid BY PROGRAM, IN A SANDBOX (cutbox-rows.mjs): the forced cells as the released guide's own fill.sh prints them over the translation c585f3e9c8832c81… (all of the seat's roots in one cut). By AI agents, Wed Nov 11 2026. No macro, syntax, notation, axiom, sorry.
-/
import Derived.Test.YtbdaaeffbhcflaaChecked
import GoSem.Claim
import GoSem.ClaimJoined
import GoSem.ClaimMapViews
import Derived.JoinedTies
import Derived.KernelRfl
namespace Go.Proofs.Ytbdaaeffbhcflaa
/- THE CELL 'sum', in the pinned program and in every row, IS THE sha256 OF THE DUMP (.gsa) THAT YtbdaaeffbhcflaaProg.lean LOADS. Nothing in Lean hashes anything: it is a label: what it is worth is what the hold of that sum in a sandbox is worth. -/
noncomputable def Try.pinned : Pinned := { name := "ytbdaaeffbhcflaa", sum := "c585f3e9c8832c81f7d32ee0f04efcd4a69f8782bf23ddb1a2d7eab043c32291", checked := Try.checked }
namespace Rows
def none {H : Type} : Left H := { results := [], args := [] }

/-- 'laws.FnWrites': WHATEVER THE INPUT: true; the input reads as it did. -/
def fnWritesSpec : ChangeSpec := { name := "fnWrites", fn := fun _ => fun
  | [d] => { results := [.lit (.bool true)], args := [d] }
  | _ => none }
def fnWritesRow : OpenClaim := { program := "ytbdaaeffbhcflaa", sum := "c585f3e9c8832c81f7d32ee0f04efcd4a69f8782bf23ddb1a2d7eab043c32291", func := "loop.example/g01179/laws.FnWrites", spec := "fnWrites", inPlace := ["internal/bytealg.IndexByte"], apart := false }
def FnWritesSaid : Prop := fnWritesRow.holds Try.pinned (OpenSpec.ofChange fnWritesSpec)

/-- ITS FALSE NEIGHBOUR: 'it returns false'. Refute it at one input. -/
def fnWritesWrong : ChangeSpec := { name := "fnWrites", fn := fun _ => fun
  | [d] => { results := [.lit (.bool false)], args := [d] }
  | _ => none }
def FnWritesWrongFalsely : Prop := fnWritesRow.holds Try.pinned (OpenSpec.ofChange fnWritesWrong)

/-- 'laws.FnCopies': WHATEVER THE INPUT: true; the input reads as it did. -/
def fnCopiesSpec : ChangeSpec := { name := "fnCopies", fn := fun _ => fun
  | [d] => { results := [.lit (.bool true)], args := [d] }
  | _ => none }
def fnCopiesRow : OpenClaim := { program := "ytbdaaeffbhcflaa", sum := "c585f3e9c8832c81f7d32ee0f04efcd4a69f8782bf23ddb1a2d7eab043c32291", func := "loop.example/g01179/laws.FnCopies", spec := "fnCopies", inPlace := ["internal/bytealg.Compare", "internal/bytealg.IndexByteString", "internal/bytealg.IndexString", "internal/abi.NoEscape", "internal/bytealg.MakeNoZero"], unfollowed := true, recurses := true, named := ["internal/bytealg.MaxLen"], apart := false }
def FnCopiesSaid : Prop := fnCopiesRow.holds Try.pinned (OpenSpec.ofChange fnCopiesSpec)

/-- ITS FALSE NEIGHBOUR: 'it returns false'. Refute it at one input. -/
def fnCopiesWrong : ChangeSpec := { name := "fnCopies", fn := fun _ => fun
  | [d] => { results := [.lit (.bool false)], args := [d] }
  | _ => none }
def FnCopiesWrongFalsely : Prop := fnCopiesRow.holds Try.pinned (OpenSpec.ofChange fnCopiesWrong)

/-- 'laws.FnAppends': WHATEVER THE INPUT: true; the input reads as it did. -/
def fnAppendsSpec : ChangeSpec := { name := "fnAppends", fn := fun _ => fun
  | [d] => { results := [.lit (.bool true)], args := [d] }
  | _ => none }
def fnAppendsRow : OpenClaim := { program := "ytbdaaeffbhcflaa", sum := "c585f3e9c8832c81f7d32ee0f04efcd4a69f8782bf23ddb1a2d7eab043c32291", func := "loop.example/g01179/laws.FnAppends", spec := "fnAppends", apart := false }
def FnAppendsSaid : Prop := fnAppendsRow.holds Try.pinned (OpenSpec.ofChange fnAppendsSpec)

/-- ITS FALSE NEIGHBOUR: 'it returns false'. Refute it at one input. -/
def fnAppendsWrong : ChangeSpec := { name := "fnAppends", fn := fun _ => fun
  | [d] => { results := [.lit (.bool false)], args := [d] }
  | _ => none }
def FnAppendsWrongFalsely : Prop := fnAppendsRow.holds Try.pinned (OpenSpec.ofChange fnAppendsWrong)

/-- 'laws.FnExactIsMemory': WHATEVER THE INPUT: true; the input reads as it did. -/
def fnExactIsMemorySpec : ChangeSpec := { name := "fnExactIsMemory", fn := fun _ => fun
  | [d] => { results := [.lit (.bool true)], args := [d] }
  | _ => none }
def fnExactIsMemoryRow : OpenClaim := { program := "ytbdaaeffbhcflaa", sum := "c585f3e9c8832c81f7d32ee0f04efcd4a69f8782bf23ddb1a2d7eab043c32291", func := "loop.example/g01179/laws.FnExactIsMemory", spec := "fnExactIsMemory", apart := false }
def FnExactIsMemorySaid : Prop := fnExactIsMemoryRow.holds Try.pinned (OpenSpec.ofChange fnExactIsMemorySpec)

/-- ITS FALSE NEIGHBOUR: 'it returns false'. Refute it at one input. -/
def fnExactIsMemoryWrong : ChangeSpec := { name := "fnExactIsMemory", fn := fun _ => fun
  | [d] => { results := [.lit (.bool false)], args := [d] }
  | _ => none }
def FnExactIsMemoryWrongFalsely : Prop := fnExactIsMemoryRow.holds Try.pinned (OpenSpec.ofChange fnExactIsMemoryWrong)

/-- 'laws.FnExactIsWindow': WHATEVER THE INPUT: true; the input reads as it did. -/
def fnExactIsWindowSpec : ChangeSpec := { name := "fnExactIsWindow", fn := fun _ => fun
  | [d1, d2] => { results := [.lit (.bool true)], args := [d1, d2] }
  | _ => none }
def fnExactIsWindowRow : OpenClaim := { program := "ytbdaaeffbhcflaa", sum := "c585f3e9c8832c81f7d32ee0f04efcd4a69f8782bf23ddb1a2d7eab043c32291", func := "loop.example/g01179/laws.FnExactIsWindow", spec := "fnExactIsWindow", apart := false }
def FnExactIsWindowSaid : Prop := fnExactIsWindowRow.holds Try.pinned (OpenSpec.ofChange fnExactIsWindowSpec)

/-- ITS FALSE NEIGHBOUR: 'it returns false'. Refute it at one input. -/
def fnExactIsWindowWrong : ChangeSpec := { name := "fnExactIsWindow", fn := fun _ => fun
  | [d1, d2] => { results := [.lit (.bool false)], args := [d1, d2] }
  | _ => none }
def FnExactIsWindowWrongFalsely : Prop := fnExactIsWindowRow.holds Try.pinned (OpenSpec.ofChange fnExactIsWindowWrong)

/-- 'laws.FnExactNewArray': WHATEVER THE INPUT: true; the input reads as it did. -/
def fnExactNewArraySpec : ChangeSpec := { name := "fnExactNewArray", fn := fun _ => fun
  | [d1, d2] => { results := [.lit (.bool true)], args := [d1, d2] }
  | _ => none }
def fnExactNewArrayRow : OpenClaim := { program := "ytbdaaeffbhcflaa", sum := "c585f3e9c8832c81f7d32ee0f04efcd4a69f8782bf23ddb1a2d7eab043c32291", func := "loop.example/g01179/laws.FnExactNewArray", spec := "fnExactNewArray", apart := false }
def FnExactNewArraySaid : Prop := fnExactNewArrayRow.holds Try.pinned (OpenSpec.ofChange fnExactNewArraySpec)

/-- ITS FALSE NEIGHBOUR: 'it returns false'. Refute it at one input. -/
def fnExactNewArrayWrong : ChangeSpec := { name := "fnExactNewArray", fn := fun _ => fun
  | [d1, d2] => { results := [.lit (.bool false)], args := [d1, d2] }
  | _ => none }
def FnExactNewArrayWrongFalsely : Prop := fnExactNewArrayRow.holds Try.pinned (OpenSpec.ofChange fnExactNewArrayWrong)

/-- 'laws.FnExactWholeWindow': WHATEVER THE INPUT: true; the input reads as it did. -/
def fnExactWholeWindowSpec : ChangeSpec := { name := "fnExactWholeWindow", fn := fun _ => fun
  | [d1, d2] => { results := [.lit (.bool true)], args := [d1, d2] }
  | _ => none }
def fnExactWholeWindowRow : OpenClaim := { program := "ytbdaaeffbhcflaa", sum := "c585f3e9c8832c81f7d32ee0f04efcd4a69f8782bf23ddb1a2d7eab043c32291", func := "loop.example/g01179/laws.FnExactWholeWindow", spec := "fnExactWholeWindow", apart := false }
def FnExactWholeWindowSaid : Prop := fnExactWholeWindowRow.holds Try.pinned (OpenSpec.ofChange fnExactWholeWindowSpec)

/-- ITS FALSE NEIGHBOUR: 'it returns false'. Refute it at one input. -/
def fnExactWholeWindowWrong : ChangeSpec := { name := "fnExactWholeWindow", fn := fun _ => fun
  | [d1, d2] => { results := [.lit (.bool false)], args := [d1, d2] }
  | _ => none }
def FnExactWholeWindowWrongFalsely : Prop := fnExactWholeWindowRow.holds Try.pinned (OpenSpec.ofChange fnExactWholeWindowWrong)

/-- 'laws.FnExactWindowBytes': WHATEVER THE INPUT: true; the input reads as it did. -/
def fnExactWindowBytesSpec : ChangeSpec := { name := "fnExactWindowBytes", fn := fun _ => fun
  | [d1, d2] => { results := [.lit (.bool true)], args := [d1, d2] }
  | _ => none }
def fnExactWindowBytesRow : OpenClaim := { program := "ytbdaaeffbhcflaa", sum := "c585f3e9c8832c81f7d32ee0f04efcd4a69f8782bf23ddb1a2d7eab043c32291", func := "loop.example/g01179/laws.FnExactWindowBytes", spec := "fnExactWindowBytes", apart := false }
def FnExactWindowBytesSaid : Prop := fnExactWindowBytesRow.holds Try.pinned (OpenSpec.ofChange fnExactWindowBytesSpec)

/-- ITS FALSE NEIGHBOUR: 'it returns false'. Refute it at one input. -/
def fnExactWindowBytesWrong : ChangeSpec := { name := "fnExactWindowBytes", fn := fun _ => fun
  | [d1, d2] => { results := [.lit (.bool false)], args := [d1, d2] }
  | _ => none }
def FnExactWindowBytesWrongFalsely : Prop := fnExactWindowBytesRow.holds Try.pinned (OpenSpec.ofChange fnExactWindowBytesWrong)

/-- 'laws.FnExactReadAt': WHATEVER THE INPUT: true; the input reads as it did. -/
def fnExactReadAtSpec : ChangeSpec := { name := "fnExactReadAt", fn := fun _ => fun
  | [d1, d2, d3] => { results := [.lit (.bool true)], args := [d1, d2, d3] }
  | _ => none }
def fnExactReadAtRow : OpenClaim := { program := "ytbdaaeffbhcflaa", sum := "c585f3e9c8832c81f7d32ee0f04efcd4a69f8782bf23ddb1a2d7eab043c32291", func := "loop.example/g01179/laws.FnExactReadAt", spec := "fnExactReadAt", apart := false }
def FnExactReadAtSaid : Prop := fnExactReadAtRow.holds Try.pinned (OpenSpec.ofChange fnExactReadAtSpec)

/-- ITS FALSE NEIGHBOUR: 'it returns false'. Refute it at one input. -/
def fnExactReadAtWrong : ChangeSpec := { name := "fnExactReadAt", fn := fun _ => fun
  | [d1, d2, d3] => { results := [.lit (.bool false)], args := [d1, d2, d3] }
  | _ => none }
def FnExactReadAtWrongFalsely : Prop := fnExactReadAtRow.holds Try.pinned (OpenSpec.ofChange fnExactReadAtWrong)

/-- 'laws.FnExactWriteAt': WHATEVER THE INPUT: true; the input reads as it did. -/
def fnExactWriteAtSpec : ChangeSpec := { name := "fnExactWriteAt", fn := fun _ => fun
  | [d1, d2, d3, d4] => { results := [.lit (.bool true)], args := [d1, d2, d3, d4] }
  | _ => none }
def fnExactWriteAtRow : OpenClaim := { program := "ytbdaaeffbhcflaa", sum := "c585f3e9c8832c81f7d32ee0f04efcd4a69f8782bf23ddb1a2d7eab043c32291", func := "loop.example/g01179/laws.FnExactWriteAt", spec := "fnExactWriteAt", apart := false }
def FnExactWriteAtSaid : Prop := fnExactWriteAtRow.holds Try.pinned (OpenSpec.ofChange fnExactWriteAtSpec)

/-- ITS FALSE NEIGHBOUR: 'it returns false'. Refute it at one input. -/
def fnExactWriteAtWrong : ChangeSpec := { name := "fnExactWriteAt", fn := fun _ => fun
  | [d1, d2, d3, d4] => { results := [.lit (.bool false)], args := [d1, d2, d3, d4] }
  | _ => none }
def FnExactWriteAtWrongFalsely : Prop := fnExactWriteAtRow.holds Try.pinned (OpenSpec.ofChange fnExactWriteAtWrong)

/-- 'laws.FnExactSliceTwo': WHATEVER THE INPUT: true; the input reads as it did. -/
def fnExactSliceTwoSpec : ChangeSpec := { name := "fnExactSliceTwo", fn := fun _ => fun
  | [d1, d2, d3, d4] => { results := [.lit (.bool true)], args := [d1, d2, d3, d4] }
  | _ => none }
def fnExactSliceTwoRow : OpenClaim := { program := "ytbdaaeffbhcflaa", sum := "c585f3e9c8832c81f7d32ee0f04efcd4a69f8782bf23ddb1a2d7eab043c32291", func := "loop.example/g01179/laws.FnExactSliceTwo", spec := "fnExactSliceTwo", apart := false }
def FnExactSliceTwoSaid : Prop := fnExactSliceTwoRow.holds Try.pinned (OpenSpec.ofChange fnExactSliceTwoSpec)

/-- ITS FALSE NEIGHBOUR: 'it returns false'. Refute it at one input. -/
def fnExactSliceTwoWrong : ChangeSpec := { name := "fnExactSliceTwo", fn := fun _ => fun
  | [d1, d2, d3, d4] => { results := [.lit (.bool false)], args := [d1, d2, d3, d4] }
  | _ => none }
def FnExactSliceTwoWrongFalsely : Prop := fnExactSliceTwoRow.holds Try.pinned (OpenSpec.ofChange fnExactSliceTwoWrong)

/- THE SECOND FORM. 'bulk': how many values and letters a reading holds, each counted each time it is reached (what is shared counts as often as it is met; a slice's spare places count too). A statement '..UptoSaid' is the law's where the arguments, and the package variables that the reading takes, are together of bulk at most 1048576: NARROWER than '..Said'. Prove '..Said' where nothing that the law and all that it calls make is longer than what came in: it says more and counts as full. Else prove '..UptoSaid'. A law counts once. -/
mutual
def uptoBulk {H : Type} : DataW H → Nat
  | .lit (.string bytes) => bytes.length + 1
  | .lit _ => 1
  | .nil => 1
  | .ptr d => uptoBulk d + 1
  | .slice elems spare => uptoBulkAll elems + uptoBulkAll spare + 1
  | .agg parts => uptoBulkAll parts + 1
  | .iface _ d => uptoBulk d + 1
  | .map entries => uptoBulkEntries entries + 1
  | .held _ => 1
def uptoBulkAll {H : Type} : List (DataW H) → Nat
  | [] => 0
  | d :: r => uptoBulk d + uptoBulkAll r
def uptoBulkEntries {H : Type} : List (Lit × DataW H) → Nat
  | [] => 0
  | x :: r => uptoBulkEntry x + uptoBulkEntries r
def uptoBulkEntry {H : Type} : Lit × DataW H → Nat
  | (.string bytes, d) => bytes.length + uptoBulk d + 1
  | (_, d) => uptoBulk d + 1
 end
def uptoSmall : (H : Type) → List (DataW H) → Bool := fun _ ds => decide (uptoBulkAll ds ≤ 1048576)
def OpenSpec.upto (s : _root_.Go.ChangeSpec) : _root_.Go.OpenSpec := { _root_.Go.OpenSpec.ofChange s with cond := some uptoSmall }

/-- 'laws.FnWrites', WHERE WHAT IT READS IS OF BULK AT MOST 1048576: true; the input reads as it did. -/
def fnWritesUptoRow : OpenClaim := { program := "ytbdaaeffbhcflaa", sum := "c585f3e9c8832c81f7d32ee0f04efcd4a69f8782bf23ddb1a2d7eab043c32291", func := "loop.example/g01179/laws.FnWrites", spec := "fnWrites", inPlace := ["internal/bytealg.IndexByte"], apart := false, narrowed := true }
def FnWritesUptoSaid : Prop := fnWritesUptoRow.holds Try.pinned (OpenSpec.upto fnWritesSpec)

/-- 'laws.FnCopies', WHERE WHAT IT READS IS OF BULK AT MOST 1048576: true; the input reads as it did. -/
def fnCopiesUptoRow : OpenClaim := { program := "ytbdaaeffbhcflaa", sum := "c585f3e9c8832c81f7d32ee0f04efcd4a69f8782bf23ddb1a2d7eab043c32291", func := "loop.example/g01179/laws.FnCopies", spec := "fnCopies", inPlace := ["internal/bytealg.Compare", "internal/bytealg.IndexByteString", "internal/bytealg.IndexString", "internal/abi.NoEscape", "internal/bytealg.MakeNoZero"], unfollowed := true, recurses := true, named := ["internal/bytealg.MaxLen"], apart := false, narrowed := true }
def FnCopiesUptoSaid : Prop := fnCopiesUptoRow.holds Try.pinned (OpenSpec.upto fnCopiesSpec)

/-- 'laws.FnAppends', WHERE WHAT IT READS IS OF BULK AT MOST 1048576: true; the input reads as it did. -/
def fnAppendsUptoRow : OpenClaim := { program := "ytbdaaeffbhcflaa", sum := "c585f3e9c8832c81f7d32ee0f04efcd4a69f8782bf23ddb1a2d7eab043c32291", func := "loop.example/g01179/laws.FnAppends", spec := "fnAppends", apart := false, narrowed := true }
def FnAppendsUptoSaid : Prop := fnAppendsUptoRow.holds Try.pinned (OpenSpec.upto fnAppendsSpec)

/-- 'laws.FnExactIsMemory', WHERE WHAT IT READS IS OF BULK AT MOST 1048576: true; the input reads as it did. -/
def fnExactIsMemoryUptoRow : OpenClaim := { program := "ytbdaaeffbhcflaa", sum := "c585f3e9c8832c81f7d32ee0f04efcd4a69f8782bf23ddb1a2d7eab043c32291", func := "loop.example/g01179/laws.FnExactIsMemory", spec := "fnExactIsMemory", apart := false, narrowed := true }
def FnExactIsMemoryUptoSaid : Prop := fnExactIsMemoryUptoRow.holds Try.pinned (OpenSpec.upto fnExactIsMemorySpec)

/-- 'laws.FnExactIsWindow', WHERE WHAT IT READS IS OF BULK AT MOST 1048576: true; the input reads as it did. -/
def fnExactIsWindowUptoRow : OpenClaim := { program := "ytbdaaeffbhcflaa", sum := "c585f3e9c8832c81f7d32ee0f04efcd4a69f8782bf23ddb1a2d7eab043c32291", func := "loop.example/g01179/laws.FnExactIsWindow", spec := "fnExactIsWindow", apart := false, narrowed := true }
def FnExactIsWindowUptoSaid : Prop := fnExactIsWindowUptoRow.holds Try.pinned (OpenSpec.upto fnExactIsWindowSpec)

/-- 'laws.FnExactNewArray', WHERE WHAT IT READS IS OF BULK AT MOST 1048576: true; the input reads as it did. -/
def fnExactNewArrayUptoRow : OpenClaim := { program := "ytbdaaeffbhcflaa", sum := "c585f3e9c8832c81f7d32ee0f04efcd4a69f8782bf23ddb1a2d7eab043c32291", func := "loop.example/g01179/laws.FnExactNewArray", spec := "fnExactNewArray", apart := false, narrowed := true }
def FnExactNewArrayUptoSaid : Prop := fnExactNewArrayUptoRow.holds Try.pinned (OpenSpec.upto fnExactNewArraySpec)

/-- 'laws.FnExactWholeWindow', WHERE WHAT IT READS IS OF BULK AT MOST 1048576: true; the input reads as it did. -/
def fnExactWholeWindowUptoRow : OpenClaim := { program := "ytbdaaeffbhcflaa", sum := "c585f3e9c8832c81f7d32ee0f04efcd4a69f8782bf23ddb1a2d7eab043c32291", func := "loop.example/g01179/laws.FnExactWholeWindow", spec := "fnExactWholeWindow", apart := false, narrowed := true }
def FnExactWholeWindowUptoSaid : Prop := fnExactWholeWindowUptoRow.holds Try.pinned (OpenSpec.upto fnExactWholeWindowSpec)

/-- 'laws.FnExactWindowBytes', WHERE WHAT IT READS IS OF BULK AT MOST 1048576: true; the input reads as it did. -/
def fnExactWindowBytesUptoRow : OpenClaim := { program := "ytbdaaeffbhcflaa", sum := "c585f3e9c8832c81f7d32ee0f04efcd4a69f8782bf23ddb1a2d7eab043c32291", func := "loop.example/g01179/laws.FnExactWindowBytes", spec := "fnExactWindowBytes", apart := false, narrowed := true }
def FnExactWindowBytesUptoSaid : Prop := fnExactWindowBytesUptoRow.holds Try.pinned (OpenSpec.upto fnExactWindowBytesSpec)

/-- 'laws.FnExactReadAt', WHERE WHAT IT READS IS OF BULK AT MOST 1048576: true; the input reads as it did. -/
def fnExactReadAtUptoRow : OpenClaim := { program := "ytbdaaeffbhcflaa", sum := "c585f3e9c8832c81f7d32ee0f04efcd4a69f8782bf23ddb1a2d7eab043c32291", func := "loop.example/g01179/laws.FnExactReadAt", spec := "fnExactReadAt", apart := false, narrowed := true }
def FnExactReadAtUptoSaid : Prop := fnExactReadAtUptoRow.holds Try.pinned (OpenSpec.upto fnExactReadAtSpec)

/-- 'laws.FnExactWriteAt', WHERE WHAT IT READS IS OF BULK AT MOST 1048576: true; the input reads as it did. -/
def fnExactWriteAtUptoRow : OpenClaim := { program := "ytbdaaeffbhcflaa", sum := "c585f3e9c8832c81f7d32ee0f04efcd4a69f8782bf23ddb1a2d7eab043c32291", func := "loop.example/g01179/laws.FnExactWriteAt", spec := "fnExactWriteAt", apart := false, narrowed := true }
def FnExactWriteAtUptoSaid : Prop := fnExactWriteAtUptoRow.holds Try.pinned (OpenSpec.upto fnExactWriteAtSpec)

/-- 'laws.FnExactSliceTwo', WHERE WHAT IT READS IS OF BULK AT MOST 1048576: true; the input reads as it did. -/
def fnExactSliceTwoUptoRow : OpenClaim := { program := "ytbdaaeffbhcflaa", sum := "c585f3e9c8832c81f7d32ee0f04efcd4a69f8782bf23ddb1a2d7eab043c32291", func := "loop.example/g01179/laws.FnExactSliceTwo", spec := "fnExactSliceTwo", apart := false, narrowed := true }
def FnExactSliceTwoUptoSaid : Prop := fnExactSliceTwoUptoRow.holds Try.pinned (OpenSpec.upto fnExactSliceTwoSpec)

end Rows
end Go.Proofs.Ytbdaaeffbhcflaa
