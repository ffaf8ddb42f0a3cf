/-
  No cell of these rows narrows 'for every input' (looked for: loops, veiled, ifaces, maps, wideKeys, modest, calm, conditions, laid).
  DERIVED. THE GIVEN ROWS OF THIS SEAT. 9 by the template 'for every input the law returns true; each argument reads behind the call as it read before'; 0 by the template 'total and deterministic' (their statements: YtmcabnbmjbepjaaTotals.lean).
  GIVEN WITH THE SEED: the statements are not yours to turn. If you find one false, say at which input.
  Laid BY PROGRAM, IN A SANDBOX (cutbox-rows.mjs): the forced cells as the released guide's own fill.sh prints them over the translation fa28da0f244d7a9a… (all of the seat's roots in one cut). By AI agents, Wed Nov 11 2026. No macro, syntax, notation, axiom, sorry.
-/
import Derived.Test.YtmcabnbmjbepjaaChecked
import GoSem.Claim
import GoSem.ClaimJoined
import GoSem.ClaimMapViews
import Derived.JoinedTies
import Derived.KernelRfl
namespace Go.Proofs.Ytmcabnbmjbepjaa
/- THE CELL 'sum', in the pinned program and in every row, IS THE sha256 OF THE DUMP (.gsa) THAT YtmcabnbmjbepjaaProg.lean LOADS. Nothing in Lean hashes anything: it is a label: what it is worth is what the hold of that sum in a sandbox is worth. -/
noncomputable def Try.pinned : Pinned := { name := "ytmcabnbmjbepjaa", sum := "fa28da0f244d7a9a3a94626be3281c855b7732f371a5930f0cc621a49c431d49", checked := Try.checked }
namespace Rows
def none {H : Type} : Left H := { results := [], args := [] }

/-- 'laws.FnExactAppendBytes': WHATEVER THE INPUT: true; the input reads as it did. -/
def fnExactAppendBytesSpec : ChangeSpec := { name := "fnExactAppendBytes", fn := fun _ => fun
  | [d1, d2, d3] => { results := [.lit (.bool true)], args := [d1, d2, d3] }
  | _ => none }
def fnExactAppendBytesRow : OpenClaim := { program := "ytmcabnbmjbepjaa", sum := "fa28da0f244d7a9a3a94626be3281c855b7732f371a5930f0cc621a49c431d49", func := "loop.example/g01179/laws.FnExactAppendBytes", spec := "fnExactAppendBytes", plainKeys := false, apart := false }
def FnExactAppendBytesSaid : Prop := fnExactAppendBytesRow.holds Try.pinned (OpenSpec.ofChange fnExactAppendBytesSpec)

/-- ITS FALSE NEIGHBOUR: 'it returns false'. Refute it at one input. -/
def fnExactAppendBytesWrong : ChangeSpec := { name := "fnExactAppendBytes", fn := fun _ => fun
  | [d1, d2, d3] => { results := [.lit (.bool false)], args := [d1, d2, d3] }
  | _ => none }
def FnExactAppendBytesWrongFalsely : Prop := fnExactAppendBytesRow.holds Try.pinned (OpenSpec.ofChange fnExactAppendBytesWrong)

/-- 'laws.FnWrites': WHATEVER THE INPUT: true; the input reads as it did. -/
def fnWritesSpec : ChangeSpec := { name := "fnWrites", fn := fun _ => fun
  | [d] => { results := [.lit (.bool true)], args := [d] }
  | _ => none }
def fnWritesRow : OpenClaim := { program := "ytmcabnbmjbepjaa", sum := "fa28da0f244d7a9a3a94626be3281c855b7732f371a5930f0cc621a49c431d49", func := "loop.example/g01179/laws.FnWrites", spec := "fnWrites", inPlace := ["internal/bytealg.IndexByte"], plainKeys := false, apart := false }
def FnWritesSaid : Prop := fnWritesRow.holds Try.pinned (OpenSpec.ofChange fnWritesSpec)

/-- ITS FALSE NEIGHBOUR: 'it returns false'. Refute it at one input. -/
def fnWritesWrong : ChangeSpec := { name := "fnWrites", fn := fun _ => fun
  | [d] => { results := [.lit (.bool false)], args := [d] }
  | _ => none }
def FnWritesWrongFalsely : Prop := fnWritesRow.holds Try.pinned (OpenSpec.ofChange fnWritesWrong)

/-- 'laws.FnCopies': WHATEVER THE INPUT: true; the input reads as it did. -/
def fnCopiesSpec : ChangeSpec := { name := "fnCopies", fn := fun _ => fun
  | [d] => { results := [.lit (.bool true)], args := [d] }
  | _ => none }
def fnCopiesRow : OpenClaim := { program := "ytmcabnbmjbepjaa", sum := "fa28da0f244d7a9a3a94626be3281c855b7732f371a5930f0cc621a49c431d49", func := "loop.example/g01179/laws.FnCopies", spec := "fnCopies", inPlace := ["internal/bytealg.Compare", "internal/bytealg.IndexByteString", "internal/bytealg.IndexString", "internal/abi.NoEscape", "internal/bytealg.MakeNoZero"], unfollowed := true, recurses := true, named := ["internal/bytealg.MaxLen"], plainKeys := false, apart := false }
def FnCopiesSaid : Prop := fnCopiesRow.holds Try.pinned (OpenSpec.ofChange fnCopiesSpec)

/-- ITS FALSE NEIGHBOUR: 'it returns false'. Refute it at one input. -/
def fnCopiesWrong : ChangeSpec := { name := "fnCopies", fn := fun _ => fun
  | [d] => { results := [.lit (.bool false)], args := [d] }
  | _ => none }
def FnCopiesWrongFalsely : Prop := fnCopiesRow.holds Try.pinned (OpenSpec.ofChange fnCopiesWrong)

/-- 'laws.FnAppends': WHATEVER THE INPUT: true; the input reads as it did. -/
def fnAppendsSpec : ChangeSpec := { name := "fnAppends", fn := fun _ => fun
  | [d] => { results := [.lit (.bool true)], args := [d] }
  | _ => none }
def fnAppendsRow : OpenClaim := { program := "ytmcabnbmjbepjaa", sum := "fa28da0f244d7a9a3a94626be3281c855b7732f371a5930f0cc621a49c431d49", func := "loop.example/g01179/laws.FnAppends", spec := "fnAppends", plainKeys := false, apart := false }
def FnAppendsSaid : Prop := fnAppendsRow.holds Try.pinned (OpenSpec.ofChange fnAppendsSpec)

/-- ITS FALSE NEIGHBOUR: 'it returns false'. Refute it at one input. -/
def fnAppendsWrong : ChangeSpec := { name := "fnAppends", fn := fun _ => fun
  | [d] => { results := [.lit (.bool false)], args := [d] }
  | _ => none }
def FnAppendsWrongFalsely : Prop := fnAppendsRow.holds Try.pinned (OpenSpec.ofChange fnAppendsWrong)

/-- 'laws.FnExactParseMemory': WHATEVER THE INPUT: true; the input reads as it did. -/
def fnExactParseMemorySpec : ChangeSpec := { name := "fnExactParseMemory", fn := fun _ => fun
  | [d] => { results := [.lit (.bool true)], args := [d] }
  | _ => none }
def fnExactParseMemoryRow : OpenClaim := { program := "ytmcabnbmjbepjaa", sum := "fa28da0f244d7a9a3a94626be3281c855b7732f371a5930f0cc621a49c431d49", func := "loop.example/g01179/laws.FnExactParseMemory", spec := "fnExactParseMemory", inPlace := ["internal/bytealg.IndexByteString"], unfollowed := true, recurses := true, plainKeys := false, apart := false }
def FnExactParseMemorySaid : Prop := fnExactParseMemoryRow.holds Try.pinned (OpenSpec.ofChange fnExactParseMemorySpec)

/-- ITS FALSE NEIGHBOUR: 'it returns false'. Refute it at one input. -/
def fnExactParseMemoryWrong : ChangeSpec := { name := "fnExactParseMemory", fn := fun _ => fun
  | [d] => { results := [.lit (.bool false)], args := [d] }
  | _ => none }
def FnExactParseMemoryWrongFalsely : Prop := fnExactParseMemoryRow.holds Try.pinned (OpenSpec.ofChange fnExactParseMemoryWrong)

/-- 'laws.FnSharing': WHATEVER THE INPUT: true; the input reads as it did. -/
def fnSharingSpec : ChangeSpec := { name := "fnSharing", fn := fun _ => fun
  | [d] => { results := [.lit (.bool true)], args := [d] }
  | _ => none }
def fnSharingRow : OpenClaim := { program := "ytmcabnbmjbepjaa", sum := "fa28da0f244d7a9a3a94626be3281c855b7732f371a5930f0cc621a49c431d49", func := "loop.example/g01179/laws.FnSharing", spec := "fnSharing", unfollowed := true, recurses := true, plainKeys := false, apart := false }
def FnSharingSaid : Prop := fnSharingRow.holds Try.pinned (OpenSpec.ofChange fnSharingSpec)

/-- ITS FALSE NEIGHBOUR: 'it returns false'. Refute it at one input. -/
def fnSharingWrong : ChangeSpec := { name := "fnSharing", fn := fun _ => fun
  | [d] => { results := [.lit (.bool false)], args := [d] }
  | _ => none }
def FnSharingWrongFalsely : Prop := fnSharingRow.holds Try.pinned (OpenSpec.ofChange fnSharingWrong)

/-- 'laws.FnNoticing': WHATEVER THE INPUT: true; the input reads as it did. -/
def fnNoticingSpec : ChangeSpec := { name := "fnNoticing", fn := fun _ => fun
  | [d] => { results := [.lit (.bool true)], args := [d] }
  | _ => none }
def fnNoticingRow : OpenClaim := { program := "ytmcabnbmjbepjaa", sum := "fa28da0f244d7a9a3a94626be3281c855b7732f371a5930f0cc621a49c431d49", func := "loop.example/g01179/laws.FnNoticing", spec := "fnNoticing", unfollowed := true, recurses := true, plainKeys := false, apart := false }
def FnNoticingSaid : Prop := fnNoticingRow.holds Try.pinned (OpenSpec.ofChange fnNoticingSpec)

/-- ITS FALSE NEIGHBOUR: 'it returns false'. Refute it at one input. -/
def fnNoticingWrong : ChangeSpec := { name := "fnNoticing", fn := fun _ => fun
  | [d] => { results := [.lit (.bool false)], args := [d] }
  | _ => none }
def FnNoticingWrongFalsely : Prop := fnNoticingRow.holds Try.pinned (OpenSpec.ofChange fnNoticingWrong)

/-- 'laws.FnTreading': WHATEVER THE INPUT: true; the input reads as it did. -/
def fnTreadingSpec : ChangeSpec := { name := "fnTreading", fn := fun _ => fun
  | [d] => { results := [.lit (.bool true)], args := [d] }
  | _ => none }
def fnTreadingRow : OpenClaim := { program := "ytmcabnbmjbepjaa", sum := "fa28da0f244d7a9a3a94626be3281c855b7732f371a5930f0cc621a49c431d49", func := "loop.example/g01179/laws.FnTreading", spec := "fnTreading", unfollowed := true, recurses := true, plainKeys := false, apart := false }
def FnTreadingSaid : Prop := fnTreadingRow.holds Try.pinned (OpenSpec.ofChange fnTreadingSpec)

/-- ITS FALSE NEIGHBOUR: 'it returns false'. Refute it at one input. -/
def fnTreadingWrong : ChangeSpec := { name := "fnTreading", fn := fun _ => fun
  | [d] => { results := [.lit (.bool false)], args := [d] }
  | _ => none }
def FnTreadingWrongFalsely : Prop := fnTreadingRow.holds Try.pinned (OpenSpec.ofChange fnTreadingWrong)

/-- 'laws.FnExactShareGroups': WHATEVER THE INPUT: true; the input reads as it did. -/
def fnExactShareGroupsSpec : ChangeSpec := { name := "fnExactShareGroups", fn := fun _ => fun
  | [d1, d2] => { results := [.lit (.bool true)], args := [d1, d2] }
  | _ => none }
def fnExactShareGroupsRow : OpenClaim := { program := "ytmcabnbmjbepjaa", sum := "fa28da0f244d7a9a3a94626be3281c855b7732f371a5930f0cc621a49c431d49", func := "loop.example/g01179/laws.FnExactShareGroups", spec := "fnExactShareGroups", plainKeys := false, apart := false }
def FnExactShareGroupsSaid : Prop := fnExactShareGroupsRow.holds Try.pinned (OpenSpec.ofChange fnExactShareGroupsSpec)

/-- ITS FALSE NEIGHBOUR: 'it returns false'. Refute it at one input. -/
def fnExactShareGroupsWrong : ChangeSpec := { name := "fnExactShareGroups", fn := fun _ => fun
  | [d1, d2] => { results := [.lit (.bool false)], args := [d1, d2] }
  | _ => none }
def FnExactShareGroupsWrongFalsely : Prop := fnExactShareGroupsRow.holds Try.pinned (OpenSpec.ofChange fnExactShareGroupsWrong)

/- THE SECOND FORM. 'bulk': how many values and letters a reading holds, each counted each time it is reached (what is shared counts as often as it is met; a slice's spare places count too). A statement '..UptoSaid' is the law's where the arguments, and the package variables that the reading takes, are together of bulk at most 1048576: NARROWER than '..Said'. Prove '..Said' where nothing that the law and all that it calls make is longer than what came in: it says more and counts as full. Else prove '..UptoSaid'. A law counts once. -/
mutual
def uptoBulk {H : Type} : DataW H → Nat
  | .lit (.string bytes) => bytes.length + 1
  | .lit _ => 1
  | .nil => 1
  | .ptr d => uptoBulk d + 1
  | .slice elems spare => uptoBulkAll elems + uptoBulkAll spare + 1
  | .agg parts => uptoBulkAll parts + 1
  | .iface _ d => uptoBulk d + 1
  | .map entries => uptoBulkEntries entries + 1
  | .held _ => 1
def uptoBulkAll {H : Type} : List (DataW H) → Nat
  | [] => 0
  | d :: r => uptoBulk d + uptoBulkAll r
def uptoBulkEntries {H : Type} : List (Lit × DataW H) → Nat
  | [] => 0
  | x :: r => uptoBulkEntry x + uptoBulkEntries r
def uptoBulkEntry {H : Type} : Lit × DataW H → Nat
  | (.string bytes, d) => bytes.length + uptoBulk d + 1
  | (_, d) => uptoBulk d + 1
 end
def uptoSmall : (H : Type) → List (DataW H) → Bool := fun _ ds => decide (uptoBulkAll ds ≤ 1048576)
def OpenSpec.upto (s : _root_.Go.ChangeSpec) : _root_.Go.OpenSpec := { _root_.Go.OpenSpec.ofChange s with cond := some uptoSmall }

/-- 'laws.FnExactAppendBytes', WHERE WHAT IT READS IS OF BULK AT MOST 1048576: true; the input reads as it did. -/
def fnExactAppendBytesUptoRow : OpenClaim := { program := "ytmcabnbmjbepjaa", sum := "fa28da0f244d7a9a3a94626be3281c855b7732f371a5930f0cc621a49c431d49", func := "loop.example/g01179/laws.FnExactAppendBytes", spec := "fnExactAppendBytes", plainKeys := false, apart := false, narrowed := true }
def FnExactAppendBytesUptoSaid : Prop := fnExactAppendBytesUptoRow.holds Try.pinned (OpenSpec.upto fnExactAppendBytesSpec)

/-- 'laws.FnWrites', WHERE WHAT IT READS IS OF BULK AT MOST 1048576: true; the input reads as it did. -/
def fnWritesUptoRow : OpenClaim := { program := "ytmcabnbmjbepjaa", sum := "fa28da0f244d7a9a3a94626be3281c855b7732f371a5930f0cc621a49c431d49", func := "loop.example/g01179/laws.FnWrites", spec := "fnWrites", inPlace := ["internal/bytealg.IndexByte"], plainKeys := false, apart := false, narrowed := true }
def FnWritesUptoSaid : Prop := fnWritesUptoRow.holds Try.pinned (OpenSpec.upto fnWritesSpec)

/-- 'laws.FnCopies', WHERE WHAT IT READS IS OF BULK AT MOST 1048576: true; the input reads as it did. -/
def fnCopiesUptoRow : OpenClaim := { program := "ytmcabnbmjbepjaa", sum := "fa28da0f244d7a9a3a94626be3281c855b7732f371a5930f0cc621a49c431d49", func := "loop.example/g01179/laws.FnCopies", spec := "fnCopies", inPlace := ["internal/bytealg.Compare", "internal/bytealg.IndexByteString", "internal/bytealg.IndexString", "internal/abi.NoEscape", "internal/bytealg.MakeNoZero"], unfollowed := true, recurses := true, named := ["internal/bytealg.MaxLen"], plainKeys := false, apart := false, narrowed := true }
def FnCopiesUptoSaid : Prop := fnCopiesUptoRow.holds Try.pinned (OpenSpec.upto fnCopiesSpec)

/-- 'laws.FnAppends', WHERE WHAT IT READS IS OF BULK AT MOST 1048576: true; the input reads as it did. -/
def fnAppendsUptoRow : OpenClaim := { program := "ytmcabnbmjbepjaa", sum := "fa28da0f244d7a9a3a94626be3281c855b7732f371a5930f0cc621a49c431d49", func := "loop.example/g01179/laws.FnAppends", spec := "fnAppends", plainKeys := false, apart := false, narrowed := true }
def FnAppendsUptoSaid : Prop := fnAppendsUptoRow.holds Try.pinned (OpenSpec.upto fnAppendsSpec)

/-- 'laws.FnExactParseMemory', WHERE WHAT IT READS IS OF BULK AT MOST 1048576: true; the input reads as it did. -/
def fnExactParseMemoryUptoRow : OpenClaim := { program := "ytmcabnbmjbepjaa", sum := "fa28da0f244d7a9a3a94626be3281c855b7732f371a5930f0cc621a49c431d49", func := "loop.example/g01179/laws.FnExactParseMemory", spec := "fnExactParseMemory", inPlace := ["internal/bytealg.IndexByteString"], unfollowed := true, recurses := true, plainKeys := false, apart := false, narrowed := true }
def FnExactParseMemoryUptoSaid : Prop := fnExactParseMemoryUptoRow.holds Try.pinned (OpenSpec.upto fnExactParseMemorySpec)

/-- 'laws.FnSharing', WHERE WHAT IT READS IS OF BULK AT MOST 1048576: true; the input reads as it did. -/
def fnSharingUptoRow : OpenClaim := { program := "ytmcabnbmjbepjaa", sum := "fa28da0f244d7a9a3a94626be3281c855b7732f371a5930f0cc621a49c431d49", func := "loop.example/g01179/laws.FnSharing", spec := "fnSharing", unfollowed := true, recurses := true, plainKeys := false, apart := false, narrowed := true }
def FnSharingUptoSaid : Prop := fnSharingUptoRow.holds Try.pinned (OpenSpec.upto fnSharingSpec)

/-- 'laws.FnNoticing', WHERE WHAT IT READS IS OF BULK AT MOST 1048576: true; the input reads as it did. -/
def fnNoticingUptoRow : OpenClaim := { program := "ytmcabnbmjbepjaa", sum := "fa28da0f244d7a9a3a94626be3281c855b7732f371a5930f0cc621a49c431d49", func := "loop.example/g01179/laws.FnNoticing", spec := "fnNoticing", unfollowed := true, recurses := true, plainKeys := false, apart := false, narrowed := true }
def FnNoticingUptoSaid : Prop := fnNoticingUptoRow.holds Try.pinned (OpenSpec.upto fnNoticingSpec)

/-- 'laws.FnTreading', WHERE WHAT IT READS IS OF BULK AT MOST 1048576: true; the input reads as it did. -/
def fnTreadingUptoRow : OpenClaim := { program := "ytmcabnbmjbepjaa", sum := "fa28da0f244d7a9a3a94626be3281c855b7732f371a5930f0cc621a49c431d49", func := "loop.example/g01179/laws.FnTreading", spec := "fnTreading", unfollowed := true, recurses := true, plainKeys := false, apart := false, narrowed := true }
def FnTreadingUptoSaid : Prop := fnTreadingUptoRow.holds Try.pinned (OpenSpec.upto fnTreadingSpec)

/-- 'laws.FnExactShareGroups', WHERE WHAT IT READS IS OF BULK AT MOST 1048576: true; the input reads as it did. -/
def fnExactShareGroupsUptoRow : OpenClaim := { program := "ytmcabnbmjbepjaa", sum := "fa28da0f244d7a9a3a94626be3281c855b7732f371a5930f0cc621a49c431d49", func := "loop.example/g01179/laws.FnExactShareGroups", spec := "fnExactShareGroups", plainKeys := false, apart := false, narrowed := true }
def FnExactShareGroupsUptoSaid : Prop := fnExactShareGroupsUptoRow.holds Try.pinned (OpenSpec.upto fnExactShareGroupsSpec)

end Rows
end Go.Proofs.Ytmcabnbmjbepjaa
