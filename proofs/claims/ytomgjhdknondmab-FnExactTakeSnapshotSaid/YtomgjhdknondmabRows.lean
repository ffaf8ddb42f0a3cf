/-
  No cell of these rows narrows 'for every input' (looked for: loops, veiled, ifaces, maps, wideKeys, modest, calm, conditions, laid).
  DERIVED. THE GIVEN ROWS OF THIS SEAT. 10 by the template 'for every input the law returns true; each argument reads behind the call as it read before'; 0 by the template 'total and deterministic' (their statements: YtomgjhdknondmabTotals.lean).
  GIVEN WITH THE SEED: the statements are not yours to turn. If you find one false, say at which input.
  Laid BY PROGRAM, IN A SANDBOX (cutbox-rows.mjs): the forced cells as the released guide's own fill.sh prints them over the translation af016a9c1d604d60… (all of the seat's roots in one cut). By AI agents, Wed Nov 11 2026. No macro, syntax, notation, axiom, sorry.
-/
import Derived.Test.YtomgjhdknondmabChecked
import GoSem.Claim
import GoSem.ClaimJoined
import GoSem.ClaimMapViews
import Derived.JoinedTies
import Derived.KernelRfl
namespace Go.Proofs.Ytomgjhdknondmab
/- THE CELL 'sum', in the pinned program and in every row, IS THE sha256 OF THE DUMP (.gsa) THAT YtomgjhdknondmabProg.lean LOADS. Nothing in Lean hashes anything: it is a label: what it is worth is what the hold of that sum in a sandbox is worth. -/
noncomputable def Try.pinned : Pinned := { name := "ytomgjhdknondmab", sum := "af016a9c1d604d60054b6c357bbb2bbffdd906f635a0fbb9548939d89dbfeab1", checked := Try.checked }
namespace Rows
def none {H : Type} : Left H := { results := [], args := [] }

/-- 'laws.FnExactMostApart': WHATEVER THE INPUT: true; the input reads as it did. -/
def fnExactMostApartSpec : ChangeSpec := { name := "fnExactMostApart", fn := fun _ => fun
  | [d1, d2] => { results := [.lit (.bool true)], args := [d1, d2] }
  | _ => none }
def fnExactMostApartRow : OpenClaim := { program := "ytomgjhdknondmab", sum := "af016a9c1d604d60054b6c357bbb2bbffdd906f635a0fbb9548939d89dbfeab1", func := "loop.example/g01179/laws.FnExactMostApart", spec := "fnExactMostApart", recurses := true, apart := false }
def FnExactMostApartSaid : Prop := fnExactMostApartRow.holds Try.pinned (OpenSpec.ofChange fnExactMostApartSpec)

/-- ITS FALSE NEIGHBOUR: 'it returns false'. Refute it at one input. -/
def fnExactMostApartWrong : ChangeSpec := { name := "fnExactMostApart", fn := fun _ => fun
  | [d1, d2] => { results := [.lit (.bool false)], args := [d1, d2] }
  | _ => none }
def FnExactMostApartWrongFalsely : Prop := fnExactMostApartRow.holds Try.pinned (OpenSpec.ofChange fnExactMostApartWrong)

/-- 'laws.FnExactPartCover': WHATEVER THE INPUT: true; the input reads as it did. -/
def fnExactPartCoverSpec : ChangeSpec := { name := "fnExactPartCover", fn := fun _ => fun
  | [d1, d2, d3] => { results := [.lit (.bool true)], args := [d1, d2, d3] }
  | _ => none }
def fnExactPartCoverRow : OpenClaim := { program := "ytomgjhdknondmab", sum := "af016a9c1d604d60054b6c357bbb2bbffdd906f635a0fbb9548939d89dbfeab1", func := "loop.example/g01179/laws.FnExactPartCover", spec := "fnExactPartCover", unfollowed := true, recurses := true, apart := false }
def FnExactPartCoverSaid : Prop := fnExactPartCoverRow.holds Try.pinned (OpenSpec.ofChange fnExactPartCoverSpec)

/-- ITS FALSE NEIGHBOUR: 'it returns false'. Refute it at one input. -/
def fnExactPartCoverWrong : ChangeSpec := { name := "fnExactPartCover", fn := fun _ => fun
  | [d1, d2, d3] => { results := [.lit (.bool false)], args := [d1, d2, d3] }
  | _ => none }
def FnExactPartCoverWrongFalsely : Prop := fnExactPartCoverRow.holds Try.pinned (OpenSpec.ofChange fnExactPartCoverWrong)

/-- 'laws.FnExactTakeSnapshot': WHATEVER THE INPUT: true; the input reads as it did. -/
def fnExactTakeSnapshotSpec : ChangeSpec := { name := "fnExactTakeSnapshot", fn := fun _ => fun
  | [d1, d2] => { results := [.lit (.bool true)], args := [d1, d2] }
  | _ => none }
def fnExactTakeSnapshotRow : OpenClaim := { program := "ytomgjhdknondmab", sum := "af016a9c1d604d60054b6c357bbb2bbffdd906f635a0fbb9548939d89dbfeab1", func := "loop.example/g01179/laws.FnExactTakeSnapshot", spec := "fnExactTakeSnapshot", apart := false }
def FnExactTakeSnapshotSaid : Prop := fnExactTakeSnapshotRow.holds Try.pinned (OpenSpec.ofChange fnExactTakeSnapshotSpec)

/-- ITS FALSE NEIGHBOUR: 'it returns false'. Refute it at one input. -/
def fnExactTakeSnapshotWrong : ChangeSpec := { name := "fnExactTakeSnapshot", fn := fun _ => fun
  | [d1, d2] => { results := [.lit (.bool false)], args := [d1, d2] }
  | _ => none }
def FnExactTakeSnapshotWrongFalsely : Prop := fnExactTakeSnapshotRow.holds Try.pinned (OpenSpec.ofChange fnExactTakeSnapshotWrong)

/-- 'laws.FnExactChangedSince': WHATEVER THE INPUT: true; the input reads as it did. -/
def fnExactChangedSinceSpec : ChangeSpec := { name := "fnExactChangedSince", fn := fun _ => fun
  | [d1, d2, d3] => { results := [.lit (.bool true)], args := [d1, d2, d3] }
  | _ => none }
def fnExactChangedSinceRow : OpenClaim := { program := "ytomgjhdknondmab", sum := "af016a9c1d604d60054b6c357bbb2bbffdd906f635a0fbb9548939d89dbfeab1", func := "loop.example/g01179/laws.FnExactChangedSince", spec := "fnExactChangedSince", apart := false }
def FnExactChangedSinceSaid : Prop := fnExactChangedSinceRow.holds Try.pinned (OpenSpec.ofChange fnExactChangedSinceSpec)

/-- ITS FALSE NEIGHBOUR: 'it returns false'. Refute it at one input. -/
def fnExactChangedSinceWrong : ChangeSpec := { name := "fnExactChangedSince", fn := fun _ => fun
  | [d1, d2, d3] => { results := [.lit (.bool false)], args := [d1, d2, d3] }
  | _ => none }
def FnExactChangedSinceWrongFalsely : Prop := fnExactChangedSinceRow.holds Try.pinned (OpenSpec.ofChange fnExactChangedSinceWrong)

/-- 'laws.FnWrites': WHATEVER THE INPUT: true; the input reads as it did. -/
def fnWritesSpec : ChangeSpec := { name := "fnWrites", fn := fun _ => fun
  | [d] => { results := [.lit (.bool true)], args := [d] }
  | _ => none }
def fnWritesRow : OpenClaim := { program := "ytomgjhdknondmab", sum := "af016a9c1d604d60054b6c357bbb2bbffdd906f635a0fbb9548939d89dbfeab1", func := "loop.example/g01179/laws.FnWrites", spec := "fnWrites", inPlace := ["internal/bytealg.IndexByte"], apart := false }
def FnWritesSaid : Prop := fnWritesRow.holds Try.pinned (OpenSpec.ofChange fnWritesSpec)

/-- ITS FALSE NEIGHBOUR: 'it returns false'. Refute it at one input. -/
def fnWritesWrong : ChangeSpec := { name := "fnWrites", fn := fun _ => fun
  | [d] => { results := [.lit (.bool false)], args := [d] }
  | _ => none }
def FnWritesWrongFalsely : Prop := fnWritesRow.holds Try.pinned (OpenSpec.ofChange fnWritesWrong)

/-- 'laws.FnCopies': WHATEVER THE INPUT: true; the input reads as it did. -/
def fnCopiesSpec : ChangeSpec := { name := "fnCopies", fn := fun _ => fun
  | [d] => { results := [.lit (.bool true)], args := [d] }
  | _ => none }
def fnCopiesRow : OpenClaim := { program := "ytomgjhdknondmab", sum := "af016a9c1d604d60054b6c357bbb2bbffdd906f635a0fbb9548939d89dbfeab1", func := "loop.example/g01179/laws.FnCopies", spec := "fnCopies", inPlace := ["internal/bytealg.Compare", "internal/bytealg.IndexByteString", "internal/bytealg.IndexString", "internal/abi.NoEscape", "internal/bytealg.MakeNoZero"], unfollowed := true, recurses := true, named := ["internal/bytealg.MaxLen"], apart := false }
def FnCopiesSaid : Prop := fnCopiesRow.holds Try.pinned (OpenSpec.ofChange fnCopiesSpec)

/-- ITS FALSE NEIGHBOUR: 'it returns false'. Refute it at one input. -/
def fnCopiesWrong : ChangeSpec := { name := "fnCopies", fn := fun _ => fun
  | [d] => { results := [.lit (.bool false)], args := [d] }
  | _ => none }
def FnCopiesWrongFalsely : Prop := fnCopiesRow.holds Try.pinned (OpenSpec.ofChange fnCopiesWrong)

/-- 'laws.FnAppends': WHATEVER THE INPUT: true; the input reads as it did. -/
def fnAppendsSpec : ChangeSpec := { name := "fnAppends", fn := fun _ => fun
  | [d] => { results := [.lit (.bool true)], args := [d] }
  | _ => none }
def fnAppendsRow : OpenClaim := { program := "ytomgjhdknondmab", sum := "af016a9c1d604d60054b6c357bbb2bbffdd906f635a0fbb9548939d89dbfeab1", func := "loop.example/g01179/laws.FnAppends", spec := "fnAppends", apart := false }
def FnAppendsSaid : Prop := fnAppendsRow.holds Try.pinned (OpenSpec.ofChange fnAppendsSpec)

/-- ITS FALSE NEIGHBOUR: 'it returns false'. Refute it at one input. -/
def fnAppendsWrong : ChangeSpec := { name := "fnAppends", fn := fun _ => fun
  | [d] => { results := [.lit (.bool false)], args := [d] }
  | _ => none }
def FnAppendsWrongFalsely : Prop := fnAppendsRow.holds Try.pinned (OpenSpec.ofChange fnAppendsWrong)

/-- 'laws.FnExactAppendBytes': WHATEVER THE INPUT: true; the input reads as it did. -/
def fnExactAppendBytesSpec : ChangeSpec := { name := "fnExactAppendBytes", fn := fun _ => fun
  | [d1, d2, d3] => { results := [.lit (.bool true)], args := [d1, d2, d3] }
  | _ => none }
def fnExactAppendBytesRow : OpenClaim := { program := "ytomgjhdknondmab", sum := "af016a9c1d604d60054b6c357bbb2bbffdd906f635a0fbb9548939d89dbfeab1", func := "loop.example/g01179/laws.FnExactAppendBytes", spec := "fnExactAppendBytes", apart := false }
def FnExactAppendBytesSaid : Prop := fnExactAppendBytesRow.holds Try.pinned (OpenSpec.ofChange fnExactAppendBytesSpec)

/-- ITS FALSE NEIGHBOUR: 'it returns false'. Refute it at one input. -/
def fnExactAppendBytesWrong : ChangeSpec := { name := "fnExactAppendBytes", fn := fun _ => fun
  | [d1, d2, d3] => { results := [.lit (.bool false)], args := [d1, d2, d3] }
  | _ => none }
def FnExactAppendBytesWrongFalsely : Prop := fnExactAppendBytesRow.holds Try.pinned (OpenSpec.ofChange fnExactAppendBytesWrong)

/-- 'laws.FnExactAppendWindow': WHATEVER THE INPUT: true; the input reads as it did. -/
def fnExactAppendWindowSpec : ChangeSpec := { name := "fnExactAppendWindow", fn := fun _ => fun
  | [d1, d2, d3] => { results := [.lit (.bool true)], args := [d1, d2, d3] }
  | _ => none }
def fnExactAppendWindowRow : OpenClaim := { program := "ytomgjhdknondmab", sum := "af016a9c1d604d60054b6c357bbb2bbffdd906f635a0fbb9548939d89dbfeab1", func := "loop.example/g01179/laws.FnExactAppendWindow", spec := "fnExactAppendWindow", apart := false }
def FnExactAppendWindowSaid : Prop := fnExactAppendWindowRow.holds Try.pinned (OpenSpec.ofChange fnExactAppendWindowSpec)

/-- ITS FALSE NEIGHBOUR: 'it returns false'. Refute it at one input. -/
def fnExactAppendWindowWrong : ChangeSpec := { name := "fnExactAppendWindow", fn := fun _ => fun
  | [d1, d2, d3] => { results := [.lit (.bool false)], args := [d1, d2, d3] }
  | _ => none }
def FnExactAppendWindowWrongFalsely : Prop := fnExactAppendWindowRow.holds Try.pinned (OpenSpec.ofChange fnExactAppendWindowWrong)

/-- 'laws.FnExactParseMemory': WHATEVER THE INPUT: true; the input reads as it did. -/
def fnExactParseMemorySpec : ChangeSpec := { name := "fnExactParseMemory", fn := fun _ => fun
  | [d] => { results := [.lit (.bool true)], args := [d] }
  | _ => none }
def fnExactParseMemoryRow : OpenClaim := { program := "ytomgjhdknondmab", sum := "af016a9c1d604d60054b6c357bbb2bbffdd906f635a0fbb9548939d89dbfeab1", func := "loop.example/g01179/laws.FnExactParseMemory", spec := "fnExactParseMemory", inPlace := ["internal/bytealg.IndexByteString"], unfollowed := true, recurses := true, apart := false }
def FnExactParseMemorySaid : Prop := fnExactParseMemoryRow.holds Try.pinned (OpenSpec.ofChange fnExactParseMemorySpec)

/-- ITS FALSE NEIGHBOUR: 'it returns false'. Refute it at one input. -/
def fnExactParseMemoryWrong : ChangeSpec := { name := "fnExactParseMemory", fn := fun _ => fun
  | [d] => { results := [.lit (.bool false)], args := [d] }
  | _ => none }
def FnExactParseMemoryWrongFalsely : Prop := fnExactParseMemoryRow.holds Try.pinned (OpenSpec.ofChange fnExactParseMemoryWrong)

/- THE SECOND FORM. 'bulk': how many values and letters a reading holds, each counted each time it is reached (what is shared counts as often as it is met; a slice's spare places count too). A statement '..UptoSaid' is the law's where the arguments, and the package variables that the reading takes, are together of bulk at most 1048576: NARROWER than '..Said'. Prove '..Said' where nothing that the law and all that it calls make is longer than what came in: it says more and counts as full. Else prove '..UptoSaid'. A law counts once. -/
mutual
def uptoBulk {H : Type} : DataW H → Nat
  | .lit (.string bytes) => bytes.length + 1
  | .lit _ => 1
  | .nil => 1
  | .ptr d => uptoBulk d + 1
  | .slice elems spare => uptoBulkAll elems + uptoBulkAll spare + 1
  | .agg parts => uptoBulkAll parts + 1
  | .iface _ d => uptoBulk d + 1
  | .map entries => uptoBulkEntries entries + 1
  | .held _ => 1
def uptoBulkAll {H : Type} : List (DataW H) → Nat
  | [] => 0
  | d :: r => uptoBulk d + uptoBulkAll r
def uptoBulkEntries {H : Type} : List (Lit × DataW H) → Nat
  | [] => 0
  | x :: r => uptoBulkEntry x + uptoBulkEntries r
def uptoBulkEntry {H : Type} : Lit × DataW H → Nat
  | (.string bytes, d) => bytes.length + uptoBulk d + 1
  | (_, d) => uptoBulk d + 1
 end
def uptoSmall : (H : Type) → List (DataW H) → Bool := fun _ ds => decide (uptoBulkAll ds ≤ 1048576)
def OpenSpec.upto (s : _root_.Go.ChangeSpec) : _root_.Go.OpenSpec := { _root_.Go.OpenSpec.ofChange s with cond := some uptoSmall }

/-- 'laws.FnExactMostApart', WHERE WHAT IT READS IS OF BULK AT MOST 1048576: true; the input reads as it did. -/
def fnExactMostApartUptoRow : OpenClaim := { program := "ytomgjhdknondmab", sum := "af016a9c1d604d60054b6c357bbb2bbffdd906f635a0fbb9548939d89dbfeab1", func := "loop.example/g01179/laws.FnExactMostApart", spec := "fnExactMostApart", recurses := true, apart := false, narrowed := true }
def FnExactMostApartUptoSaid : Prop := fnExactMostApartUptoRow.holds Try.pinned (OpenSpec.upto fnExactMostApartSpec)

/-- 'laws.FnExactPartCover', WHERE WHAT IT READS IS OF BULK AT MOST 1048576: true; the input reads as it did. -/
def fnExactPartCoverUptoRow : OpenClaim := { program := "ytomgjhdknondmab", sum := "af016a9c1d604d60054b6c357bbb2bbffdd906f635a0fbb9548939d89dbfeab1", func := "loop.example/g01179/laws.FnExactPartCover", spec := "fnExactPartCover", unfollowed := true, recurses := true, apart := false, narrowed := true }
def FnExactPartCoverUptoSaid : Prop := fnExactPartCoverUptoRow.holds Try.pinned (OpenSpec.upto fnExactPartCoverSpec)

/-- 'laws.FnExactTakeSnapshot', WHERE WHAT IT READS IS OF BULK AT MOST 1048576: true; the input reads as it did. -/
def fnExactTakeSnapshotUptoRow : OpenClaim := { program := "ytomgjhdknondmab", sum := "af016a9c1d604d60054b6c357bbb2bbffdd906f635a0fbb9548939d89dbfeab1", func := "loop.example/g01179/laws.FnExactTakeSnapshot", spec := "fnExactTakeSnapshot", apart := false, narrowed := true }
def FnExactTakeSnapshotUptoSaid : Prop := fnExactTakeSnapshotUptoRow.holds Try.pinned (OpenSpec.upto fnExactTakeSnapshotSpec)

/-- 'laws.FnExactChangedSince', WHERE WHAT IT READS IS OF BULK AT MOST 1048576: true; the input reads as it did. -/
def fnExactChangedSinceUptoRow : OpenClaim := { program := "ytomgjhdknondmab", sum := "af016a9c1d604d60054b6c357bbb2bbffdd906f635a0fbb9548939d89dbfeab1", func := "loop.example/g01179/laws.FnExactChangedSince", spec := "fnExactChangedSince", apart := false, narrowed := true }
def FnExactChangedSinceUptoSaid : Prop := fnExactChangedSinceUptoRow.holds Try.pinned (OpenSpec.upto fnExactChangedSinceSpec)

/-- 'laws.FnWrites', WHERE WHAT IT READS IS OF BULK AT MOST 1048576: true; the input reads as it did. -/
def fnWritesUptoRow : OpenClaim := { program := "ytomgjhdknondmab", sum := "af016a9c1d604d60054b6c357bbb2bbffdd906f635a0fbb9548939d89dbfeab1", func := "loop.example/g01179/laws.FnWrites", spec := "fnWrites", inPlace := ["internal/bytealg.IndexByte"], apart := false, narrowed := true }
def FnWritesUptoSaid : Prop := fnWritesUptoRow.holds Try.pinned (OpenSpec.upto fnWritesSpec)

/-- 'laws.FnCopies', WHERE WHAT IT READS IS OF BULK AT MOST 1048576: true; the input reads as it did. -/
def fnCopiesUptoRow : OpenClaim := { program := "ytomgjhdknondmab", sum := "af016a9c1d604d60054b6c357bbb2bbffdd906f635a0fbb9548939d89dbfeab1", func := "loop.example/g01179/laws.FnCopies", spec := "fnCopies", inPlace := ["internal/bytealg.Compare", "internal/bytealg.IndexByteString", "internal/bytealg.IndexString", "internal/abi.NoEscape", "internal/bytealg.MakeNoZero"], unfollowed := true, recurses := true, named := ["internal/bytealg.MaxLen"], apart := false, narrowed := true }
def FnCopiesUptoSaid : Prop := fnCopiesUptoRow.holds Try.pinned (OpenSpec.upto fnCopiesSpec)

/-- 'laws.FnAppends', WHERE WHAT IT READS IS OF BULK AT MOST 1048576: true; the input reads as it did. -/
def fnAppendsUptoRow : OpenClaim := { program := "ytomgjhdknondmab", sum := "af016a9c1d604d60054b6c357bbb2bbffdd906f635a0fbb9548939d89dbfeab1", func := "loop.example/g01179/laws.FnAppends", spec := "fnAppends", apart := false, narrowed := true }
def FnAppendsUptoSaid : Prop := fnAppendsUptoRow.holds Try.pinned (OpenSpec.upto fnAppendsSpec)

/-- 'laws.FnExactAppendBytes', WHERE WHAT IT READS IS OF BULK AT MOST 1048576: true; the input reads as it did. -/
def fnExactAppendBytesUptoRow : OpenClaim := { program := "ytomgjhdknondmab", sum := "af016a9c1d604d60054b6c357bbb2bbffdd906f635a0fbb9548939d89dbfeab1", func := "loop.example/g01179/laws.FnExactAppendBytes", spec := "fnExactAppendBytes", apart := false, narrowed := true }
def FnExactAppendBytesUptoSaid : Prop := fnExactAppendBytesUptoRow.holds Try.pinned (OpenSpec.upto fnExactAppendBytesSpec)

/-- 'laws.FnExactAppendWindow', WHERE WHAT IT READS IS OF BULK AT MOST 1048576: true; the input reads as it did. -/
def fnExactAppendWindowUptoRow : OpenClaim := { program := "ytomgjhdknondmab", sum := "af016a9c1d604d60054b6c357bbb2bbffdd906f635a0fbb9548939d89dbfeab1", func := "loop.example/g01179/laws.FnExactAppendWindow", spec := "fnExactAppendWindow", apart := false, narrowed := true }
def FnExactAppendWindowUptoSaid : Prop := fnExactAppendWindowUptoRow.holds Try.pinned (OpenSpec.upto fnExactAppendWindowSpec)

/-- 'laws.FnExactParseMemory', WHERE WHAT IT READS IS OF BULK AT MOST 1048576: true; the input reads as it did. -/
def fnExactParseMemoryUptoRow : OpenClaim := { program := "ytomgjhdknondmab", sum := "af016a9c1d604d60054b6c357bbb2bbffdd906f635a0fbb9548939d89dbfeab1", func := "loop.example/g01179/laws.FnExactParseMemory", spec := "fnExactParseMemory", inPlace := ["internal/bytealg.IndexByteString"], unfollowed := true, recurses := true, apart := false, narrowed := true }
def FnExactParseMemoryUptoSaid : Prop := fnExactParseMemoryUptoRow.holds Try.pinned (OpenSpec.upto fnExactParseMemorySpec)

end Rows
end Go.Proofs.Ytomgjhdknondmab
