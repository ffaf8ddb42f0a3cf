/-
  No cell of these rows narrows 'for every input' (looked for: loops, veiled, ifaces, maps, wideKeys, modest, calm, conditions, laid).
  DERIVED. THE GIVEN ROWS OF THIS SEAT. 15 by the template 'for every input the law returns true; each argument reads behind the call as it read before'; 0 by the template 'total and deterministic' (their statements: YtkclpppnjfhbpaaTotals.lean).
  GIVEN WITH THE SEED: the statements are not yours to turn. If you find one false, say at which input.
  Laid BY PROGRAM, IN A SANDBOX (cutbox-rows.mjs): the forced cells as the released guide's own fill.sh prints them over the translation 33f9b96dd617e76a… (all of the seat's roots in one cut). By AI agents, Wed Nov 11 2026. No macro, syntax, notation, axiom, sorry.
-/
import Derived.Test.YtkclpppnjfhbpaaChecked
import GoSem.Claim
import GoSem.ClaimJoined
import GoSem.ClaimMapViews
import Derived.JoinedTies
import Derived.KernelRfl
namespace Go.Proofs.Ytkclpppnjfhbpaa
/- THE CELL 'sum', in the pinned program and in every row, IS THE sha256 OF THE DUMP (.gsa) THAT YtkclpppnjfhbpaaProg.lean LOADS. Nothing in Lean hashes anything: it is a label: what it is worth is what the hold of that sum in a sandbox is worth. -/
noncomputable def Try.pinned : Pinned := { name := "ytkclpppnjfhbpaa", sum := "33f9b96dd617e76a3a8d514d2bea684d39f9e4aaec4383d562266c480dc66dc4", checked := Try.checked }
namespace Rows
def none {H : Type} : Left H := { results := [], args := [] }

/-- 'laws.FnExactIsGap': WHATEVER THE INPUT: true; the input reads as it did. -/
def fnExactIsGapSpec : ChangeSpec := { name := "fnExactIsGap", fn := fun _ => fun
  | [d] => { results := [.lit (.bool true)], args := [d] }
  | _ => none }
def fnExactIsGapRow : OpenClaim := { program := "ytkclpppnjfhbpaa", sum := "33f9b96dd617e76a3a8d514d2bea684d39f9e4aaec4383d562266c480dc66dc4", func := "loop.example/g01179/laws.FnExactIsGap", spec := "fnExactIsGap", apart := false }
def FnExactIsGapSaid : Prop := fnExactIsGapRow.holds Try.pinned (OpenSpec.ofChange fnExactIsGapSpec)

/-- ITS FALSE NEIGHBOUR: 'it returns false'. Refute it at one input. -/
def fnExactIsGapWrong : ChangeSpec := { name := "fnExactIsGap", fn := fun _ => fun
  | [d] => { results := [.lit (.bool false)], args := [d] }
  | _ => none }
def FnExactIsGapWrongFalsely : Prop := fnExactIsGapRow.holds Try.pinned (OpenSpec.ofChange fnExactIsGapWrong)

/-- 'laws.FnExactNewGap': WHATEVER THE INPUT: true; the input reads as it did. -/
def fnExactNewGapSpec : ChangeSpec := { name := "fnExactNewGap", fn := fun _ => fun
  | [d1, d2] => { results := [.lit (.bool true)], args := [d1, d2] }
  | _ => none }
def fnExactNewGapRow : OpenClaim := { program := "ytkclpppnjfhbpaa", sum := "33f9b96dd617e76a3a8d514d2bea684d39f9e4aaec4383d562266c480dc66dc4", func := "loop.example/g01179/laws.FnExactNewGap", spec := "fnExactNewGap", apart := false }
def FnExactNewGapSaid : Prop := fnExactNewGapRow.holds Try.pinned (OpenSpec.ofChange fnExactNewGapSpec)

/-- ITS FALSE NEIGHBOUR: 'it returns false'. Refute it at one input. -/
def fnExactNewGapWrong : ChangeSpec := { name := "fnExactNewGap", fn := fun _ => fun
  | [d1, d2] => { results := [.lit (.bool false)], args := [d1, d2] }
  | _ => none }
def FnExactNewGapWrongFalsely : Prop := fnExactNewGapRow.holds Try.pinned (OpenSpec.ofChange fnExactNewGapWrong)

/-- 'laws.FnExactGapText': WHATEVER THE INPUT: true; the input reads as it did. -/
def fnExactGapTextSpec : ChangeSpec := { name := "fnExactGapText", fn := fun _ => fun
  | [d] => { results := [.lit (.bool true)], args := [d] }
  | _ => none }
def fnExactGapTextRow : OpenClaim := { program := "ytkclpppnjfhbpaa", sum := "33f9b96dd617e76a3a8d514d2bea684d39f9e4aaec4383d562266c480dc66dc4", func := "loop.example/g01179/laws.FnExactGapText", spec := "fnExactGapText", apart := false }
def FnExactGapTextSaid : Prop := fnExactGapTextRow.holds Try.pinned (OpenSpec.ofChange fnExactGapTextSpec)

/-- ITS FALSE NEIGHBOUR: 'it returns false'. Refute it at one input. -/
def fnExactGapTextWrong : ChangeSpec := { name := "fnExactGapText", fn := fun _ => fun
  | [d] => { results := [.lit (.bool false)], args := [d] }
  | _ => none }
def FnExactGapTextWrongFalsely : Prop := fnExactGapTextRow.holds Try.pinned (OpenSpec.ofChange fnExactGapTextWrong)

/-- 'laws.FnExactMoveGap': WHATEVER THE INPUT: true; the input reads as it did. -/
def fnExactMoveGapSpec : ChangeSpec := { name := "fnExactMoveGap", fn := fun _ => fun
  | [d1, d2] => { results := [.lit (.bool true)], args := [d1, d2] }
  | _ => none }
def fnExactMoveGapRow : OpenClaim := { program := "ytkclpppnjfhbpaa", sum := "33f9b96dd617e76a3a8d514d2bea684d39f9e4aaec4383d562266c480dc66dc4", func := "loop.example/g01179/laws.FnExactMoveGap", spec := "fnExactMoveGap", apart := false }
def FnExactMoveGapSaid : Prop := fnExactMoveGapRow.holds Try.pinned (OpenSpec.ofChange fnExactMoveGapSpec)

/-- ITS FALSE NEIGHBOUR: 'it returns false'. Refute it at one input. -/
def fnExactMoveGapWrong : ChangeSpec := { name := "fnExactMoveGap", fn := fun _ => fun
  | [d1, d2] => { results := [.lit (.bool false)], args := [d1, d2] }
  | _ => none }
def FnExactMoveGapWrongFalsely : Prop := fnExactMoveGapRow.holds Try.pinned (OpenSpec.ofChange fnExactMoveGapWrong)

/-- 'laws.FnExactWidenGap': WHATEVER THE INPUT: true; the input reads as it did. -/
def fnExactWidenGapSpec : ChangeSpec := { name := "fnExactWidenGap", fn := fun _ => fun
  | [d1, d2] => { results := [.lit (.bool true)], args := [d1, d2] }
  | _ => none }
def fnExactWidenGapRow : OpenClaim := { program := "ytkclpppnjfhbpaa", sum := "33f9b96dd617e76a3a8d514d2bea684d39f9e4aaec4383d562266c480dc66dc4", func := "loop.example/g01179/laws.FnExactWidenGap", spec := "fnExactWidenGap", apart := false }
def FnExactWidenGapSaid : Prop := fnExactWidenGapRow.holds Try.pinned (OpenSpec.ofChange fnExactWidenGapSpec)

/-- ITS FALSE NEIGHBOUR: 'it returns false'. Refute it at one input. -/
def fnExactWidenGapWrong : ChangeSpec := { name := "fnExactWidenGap", fn := fun _ => fun
  | [d1, d2] => { results := [.lit (.bool false)], args := [d1, d2] }
  | _ => none }
def FnExactWidenGapWrongFalsely : Prop := fnExactWidenGapRow.holds Try.pinned (OpenSpec.ofChange fnExactWidenGapWrong)

/-- 'laws.FnExactPutBytes': WHATEVER THE INPUT: true; the input reads as it did. -/
def fnExactPutBytesSpec : ChangeSpec := { name := "fnExactPutBytes", fn := fun _ => fun
  | [d1, d2] => { results := [.lit (.bool true)], args := [d1, d2] }
  | _ => none }
def fnExactPutBytesRow : OpenClaim := { program := "ytkclpppnjfhbpaa", sum := "33f9b96dd617e76a3a8d514d2bea684d39f9e4aaec4383d562266c480dc66dc4", func := "loop.example/g01179/laws.FnExactPutBytes", spec := "fnExactPutBytes", apart := false }
def FnExactPutBytesSaid : Prop := fnExactPutBytesRow.holds Try.pinned (OpenSpec.ofChange fnExactPutBytesSpec)

/-- ITS FALSE NEIGHBOUR: 'it returns false'. Refute it at one input. -/
def fnExactPutBytesWrong : ChangeSpec := { name := "fnExactPutBytes", fn := fun _ => fun
  | [d1, d2] => { results := [.lit (.bool false)], args := [d1, d2] }
  | _ => none }
def FnExactPutBytesWrongFalsely : Prop := fnExactPutBytesRow.holds Try.pinned (OpenSpec.ofChange fnExactPutBytesWrong)

/-- 'laws.FnExactTakeBack': WHATEVER THE INPUT: true; the input reads as it did. -/
def fnExactTakeBackSpec : ChangeSpec := { name := "fnExactTakeBack", fn := fun _ => fun
  | [d1, d2] => { results := [.lit (.bool true)], args := [d1, d2] }
  | _ => none }
def fnExactTakeBackRow : OpenClaim := { program := "ytkclpppnjfhbpaa", sum := "33f9b96dd617e76a3a8d514d2bea684d39f9e4aaec4383d562266c480dc66dc4", func := "loop.example/g01179/laws.FnExactTakeBack", spec := "fnExactTakeBack", apart := false }
def FnExactTakeBackSaid : Prop := fnExactTakeBackRow.holds Try.pinned (OpenSpec.ofChange fnExactTakeBackSpec)

/-- ITS FALSE NEIGHBOUR: 'it returns false'. Refute it at one input. -/
def fnExactTakeBackWrong : ChangeSpec := { name := "fnExactTakeBack", fn := fun _ => fun
  | [d1, d2] => { results := [.lit (.bool false)], args := [d1, d2] }
  | _ => none }
def FnExactTakeBackWrongFalsely : Prop := fnExactTakeBackRow.holds Try.pinned (OpenSpec.ofChange fnExactTakeBackWrong)

/-- 'laws.FnExactTakeAhead': WHATEVER THE INPUT: true; the input reads as it did. -/
def fnExactTakeAheadSpec : ChangeSpec := { name := "fnExactTakeAhead", fn := fun _ => fun
  | [d1, d2] => { results := [.lit (.bool true)], args := [d1, d2] }
  | _ => none }
def fnExactTakeAheadRow : OpenClaim := { program := "ytkclpppnjfhbpaa", sum := "33f9b96dd617e76a3a8d514d2bea684d39f9e4aaec4383d562266c480dc66dc4", func := "loop.example/g01179/laws.FnExactTakeAhead", spec := "fnExactTakeAhead", apart := false }
def FnExactTakeAheadSaid : Prop := fnExactTakeAheadRow.holds Try.pinned (OpenSpec.ofChange fnExactTakeAheadSpec)

/-- ITS FALSE NEIGHBOUR: 'it returns false'. Refute it at one input. -/
def fnExactTakeAheadWrong : ChangeSpec := { name := "fnExactTakeAhead", fn := fun _ => fun
  | [d1, d2] => { results := [.lit (.bool false)], args := [d1, d2] }
  | _ => none }
def FnExactTakeAheadWrongFalsely : Prop := fnExactTakeAheadRow.holds Try.pinned (OpenSpec.ofChange fnExactTakeAheadWrong)

/-- 'laws.FnExactDoEdit': WHATEVER THE INPUT: true; the input reads as it did. -/
def fnExactDoEditSpec : ChangeSpec := { name := "fnExactDoEdit", fn := fun _ => fun
  | [d1, d2] => { results := [.lit (.bool true)], args := [d1, d2] }
  | _ => none }
def fnExactDoEditRow : OpenClaim := { program := "ytkclpppnjfhbpaa", sum := "33f9b96dd617e76a3a8d514d2bea684d39f9e4aaec4383d562266c480dc66dc4", func := "loop.example/g01179/laws.FnExactDoEdit", spec := "fnExactDoEdit", apart := false }
def FnExactDoEditSaid : Prop := fnExactDoEditRow.holds Try.pinned (OpenSpec.ofChange fnExactDoEditSpec)

/-- ITS FALSE NEIGHBOUR: 'it returns false'. Refute it at one input. -/
def fnExactDoEditWrong : ChangeSpec := { name := "fnExactDoEdit", fn := fun _ => fun
  | [d1, d2] => { results := [.lit (.bool false)], args := [d1, d2] }
  | _ => none }
def FnExactDoEditWrongFalsely : Prop := fnExactDoEditRow.holds Try.pinned (OpenSpec.ofChange fnExactDoEditWrong)

/-- 'laws.FnExactDoEdits': WHATEVER THE INPUT: true; the input reads as it did. -/
def fnExactDoEditsSpec : ChangeSpec := { name := "fnExactDoEdits", fn := fun _ => fun
  | [d1, d2] => { results := [.lit (.bool true)], args := [d1, d2] }
  | _ => none }
def fnExactDoEditsRow : OpenClaim := { program := "ytkclpppnjfhbpaa", sum := "33f9b96dd617e76a3a8d514d2bea684d39f9e4aaec4383d562266c480dc66dc4", func := "loop.example/g01179/laws.FnExactDoEdits", spec := "fnExactDoEdits", apart := false }
def FnExactDoEditsSaid : Prop := fnExactDoEditsRow.holds Try.pinned (OpenSpec.ofChange fnExactDoEditsSpec)

/-- ITS FALSE NEIGHBOUR: 'it returns false'. Refute it at one input. -/
def fnExactDoEditsWrong : ChangeSpec := { name := "fnExactDoEdits", fn := fun _ => fun
  | [d1, d2] => { results := [.lit (.bool false)], args := [d1, d2] }
  | _ => none }
def FnExactDoEditsWrongFalsely : Prop := fnExactDoEditsRow.holds Try.pinned (OpenSpec.ofChange fnExactDoEditsWrong)

/-- 'laws.FnExactEditText': WHATEVER THE INPUT: true; the input reads as it did. -/
def fnExactEditTextSpec : ChangeSpec := { name := "fnExactEditText", fn := fun _ => fun
  | [d1, d2] => { results := [.lit (.bool true)], args := [d1, d2] }
  | _ => none }
def fnExactEditTextRow : OpenClaim := { program := "ytkclpppnjfhbpaa", sum := "33f9b96dd617e76a3a8d514d2bea684d39f9e4aaec4383d562266c480dc66dc4", func := "loop.example/g01179/laws.FnExactEditText", spec := "fnExactEditText", apart := false }
def FnExactEditTextSaid : Prop := fnExactEditTextRow.holds Try.pinned (OpenSpec.ofChange fnExactEditTextSpec)

/-- ITS FALSE NEIGHBOUR: 'it returns false'. Refute it at one input. -/
def fnExactEditTextWrong : ChangeSpec := { name := "fnExactEditText", fn := fun _ => fun
  | [d1, d2] => { results := [.lit (.bool false)], args := [d1, d2] }
  | _ => none }
def FnExactEditTextWrongFalsely : Prop := fnExactEditTextRow.holds Try.pinned (OpenSpec.ofChange fnExactEditTextWrong)

/-- 'laws.FnExactCloseGap': WHATEVER THE INPUT: true; the input reads as it did. -/
def fnExactCloseGapSpec : ChangeSpec := { name := "fnExactCloseGap", fn := fun _ => fun
  | [d] => { results := [.lit (.bool true)], args := [d] }
  | _ => none }
def fnExactCloseGapRow : OpenClaim := { program := "ytkclpppnjfhbpaa", sum := "33f9b96dd617e76a3a8d514d2bea684d39f9e4aaec4383d562266c480dc66dc4", func := "loop.example/g01179/laws.FnExactCloseGap", spec := "fnExactCloseGap", apart := false }
def FnExactCloseGapSaid : Prop := fnExactCloseGapRow.holds Try.pinned (OpenSpec.ofChange fnExactCloseGapSpec)

/-- ITS FALSE NEIGHBOUR: 'it returns false'. Refute it at one input. -/
def fnExactCloseGapWrong : ChangeSpec := { name := "fnExactCloseGap", fn := fun _ => fun
  | [d] => { results := [.lit (.bool false)], args := [d] }
  | _ => none }
def FnExactCloseGapWrongFalsely : Prop := fnExactCloseGapRow.holds Try.pinned (OpenSpec.ofChange fnExactCloseGapWrong)

/-- 'laws.FnExactSeenThrough': WHATEVER THE INPUT: true; the input reads as it did. -/
def fnExactSeenThroughSpec : ChangeSpec := { name := "fnExactSeenThrough", fn := fun _ => fun
  | [d1, d2] => { results := [.lit (.bool true)], args := [d1, d2] }
  | _ => none }
def fnExactSeenThroughRow : OpenClaim := { program := "ytkclpppnjfhbpaa", sum := "33f9b96dd617e76a3a8d514d2bea684d39f9e4aaec4383d562266c480dc66dc4", func := "loop.example/g01179/laws.FnExactSeenThrough", spec := "fnExactSeenThrough", unfollowed := true, recurses := true, apart := false }
def FnExactSeenThroughSaid : Prop := fnExactSeenThroughRow.holds Try.pinned (OpenSpec.ofChange fnExactSeenThroughSpec)

/-- ITS FALSE NEIGHBOUR: 'it returns false'. Refute it at one input. -/
def fnExactSeenThroughWrong : ChangeSpec := { name := "fnExactSeenThrough", fn := fun _ => fun
  | [d1, d2] => { results := [.lit (.bool false)], args := [d1, d2] }
  | _ => none }
def FnExactSeenThroughWrongFalsely : Prop := fnExactSeenThroughRow.holds Try.pinned (OpenSpec.ofChange fnExactSeenThroughWrong)

/-- 'laws.FnGaps': WHATEVER THE INPUT: true; the input reads as it did. -/
def fnGapsSpec : ChangeSpec := { name := "fnGaps", fn := fun _ => fun
  | [d] => { results := [.lit (.bool true)], args := [d] }
  | _ => none }
def fnGapsRow : OpenClaim := { program := "ytkclpppnjfhbpaa", sum := "33f9b96dd617e76a3a8d514d2bea684d39f9e4aaec4383d562266c480dc66dc4", func := "loop.example/g01179/laws.FnGaps", spec := "fnGaps", apart := false }
def FnGapsSaid : Prop := fnGapsRow.holds Try.pinned (OpenSpec.ofChange fnGapsSpec)

/-- ITS FALSE NEIGHBOUR: 'it returns false'. Refute it at one input. -/
def fnGapsWrong : ChangeSpec := { name := "fnGaps", fn := fun _ => fun
  | [d] => { results := [.lit (.bool false)], args := [d] }
  | _ => none }
def FnGapsWrongFalsely : Prop := fnGapsRow.holds Try.pinned (OpenSpec.ofChange fnGapsWrong)

/-- 'laws.FnEdits': WHATEVER THE INPUT: true; the input reads as it did. -/
def fnEditsSpec : ChangeSpec := { name := "fnEdits", fn := fun _ => fun
  | [d] => { results := [.lit (.bool true)], args := [d] }
  | _ => none }
def fnEditsRow : OpenClaim := { program := "ytkclpppnjfhbpaa", sum := "33f9b96dd617e76a3a8d514d2bea684d39f9e4aaec4383d562266c480dc66dc4", func := "loop.example/g01179/laws.FnEdits", spec := "fnEdits", unfollowed := true, recurses := true, apart := false }
def FnEditsSaid : Prop := fnEditsRow.holds Try.pinned (OpenSpec.ofChange fnEditsSpec)

/-- ITS FALSE NEIGHBOUR: 'it returns false'. Refute it at one input. -/
def fnEditsWrong : ChangeSpec := { name := "fnEdits", fn := fun _ => fun
  | [d] => { results := [.lit (.bool false)], args := [d] }
  | _ => none }
def FnEditsWrongFalsely : Prop := fnEditsRow.holds Try.pinned (OpenSpec.ofChange fnEditsWrong)

/- THE SECOND FORM. 'bulk': how many values and letters a reading holds, each counted each time it is reached (what is shared counts as often as it is met; a slice's spare places count too). A statement '..UptoSaid' is the law's where the arguments, and the package variables that the reading takes, are together of bulk at most 1048576: NARROWER than '..Said'. Prove '..Said' where nothing that the law and all that it calls make is longer than what came in: it says more and counts as full. Else prove '..UptoSaid'. A law counts once. -/
mutual
def uptoBulk {H : Type} : DataW H → Nat
  | .lit (.string bytes) => bytes.length + 1
  | .lit _ => 1
  | .nil => 1
  | .ptr d => uptoBulk d + 1
  | .slice elems spare => uptoBulkAll elems + uptoBulkAll spare + 1
  | .agg parts => uptoBulkAll parts + 1
  | .iface _ d => uptoBulk d + 1
  | .map entries => uptoBulkEntries entries + 1
  | .held _ => 1
def uptoBulkAll {H : Type} : List (DataW H) → Nat
  | [] => 0
  | d :: r => uptoBulk d + uptoBulkAll r
def uptoBulkEntries {H : Type} : List (Lit × DataW H) → Nat
  | [] => 0
  | x :: r => uptoBulkEntry x + uptoBulkEntries r
def uptoBulkEntry {H : Type} : Lit × DataW H → Nat
  | (.string bytes, d) => bytes.length + uptoBulk d + 1
  | (_, d) => uptoBulk d + 1
 end
def uptoSmall : (H : Type) → List (DataW H) → Bool := fun _ ds => decide (uptoBulkAll ds ≤ 1048576)
def OpenSpec.upto (s : _root_.Go.ChangeSpec) : _root_.Go.OpenSpec := { _root_.Go.OpenSpec.ofChange s with cond := some uptoSmall }

/-- 'laws.FnExactIsGap', WHERE WHAT IT READS IS OF BULK AT MOST 1048576: true; the input reads as it did. -/
def fnExactIsGapUptoRow : OpenClaim := { program := "ytkclpppnjfhbpaa", sum := "33f9b96dd617e76a3a8d514d2bea684d39f9e4aaec4383d562266c480dc66dc4", func := "loop.example/g01179/laws.FnExactIsGap", spec := "fnExactIsGap", apart := false, narrowed := true }
def FnExactIsGapUptoSaid : Prop := fnExactIsGapUptoRow.holds Try.pinned (OpenSpec.upto fnExactIsGapSpec)

/-- 'laws.FnExactNewGap', WHERE WHAT IT READS IS OF BULK AT MOST 1048576: true; the input reads as it did. -/
def fnExactNewGapUptoRow : OpenClaim := { program := "ytkclpppnjfhbpaa", sum := "33f9b96dd617e76a3a8d514d2bea684d39f9e4aaec4383d562266c480dc66dc4", func := "loop.example/g01179/laws.FnExactNewGap", spec := "fnExactNewGap", apart := false, narrowed := true }
def FnExactNewGapUptoSaid : Prop := fnExactNewGapUptoRow.holds Try.pinned (OpenSpec.upto fnExactNewGapSpec)

/-- 'laws.FnExactGapText', WHERE WHAT IT READS IS OF BULK AT MOST 1048576: true; the input reads as it did. -/
def fnExactGapTextUptoRow : OpenClaim := { program := "ytkclpppnjfhbpaa", sum := "33f9b96dd617e76a3a8d514d2bea684d39f9e4aaec4383d562266c480dc66dc4", func := "loop.example/g01179/laws.FnExactGapText", spec := "fnExactGapText", apart := false, narrowed := true }
def FnExactGapTextUptoSaid : Prop := fnExactGapTextUptoRow.holds Try.pinned (OpenSpec.upto fnExactGapTextSpec)

/-- 'laws.FnExactMoveGap', WHERE WHAT IT READS IS OF BULK AT MOST 1048576: true; the input reads as it did. -/
def fnExactMoveGapUptoRow : OpenClaim := { program := "ytkclpppnjfhbpaa", sum := "33f9b96dd617e76a3a8d514d2bea684d39f9e4aaec4383d562266c480dc66dc4", func := "loop.example/g01179/laws.FnExactMoveGap", spec := "fnExactMoveGap", apart := false, narrowed := true }
def FnExactMoveGapUptoSaid : Prop := fnExactMoveGapUptoRow.holds Try.pinned (OpenSpec.upto fnExactMoveGapSpec)

/-- 'laws.FnExactWidenGap', WHERE WHAT IT READS IS OF BULK AT MOST 1048576: true; the input reads as it did. -/
def fnExactWidenGapUptoRow : OpenClaim := { program := "ytkclpppnjfhbpaa", sum := "33f9b96dd617e76a3a8d514d2bea684d39f9e4aaec4383d562266c480dc66dc4", func := "loop.example/g01179/laws.FnExactWidenGap", spec := "fnExactWidenGap", apart := false, narrowed := true }
def FnExactWidenGapUptoSaid : Prop := fnExactWidenGapUptoRow.holds Try.pinned (OpenSpec.upto fnExactWidenGapSpec)

/-- 'laws.FnExactPutBytes', WHERE WHAT IT READS IS OF BULK AT MOST 1048576: true; the input reads as it did. -/
def fnExactPutBytesUptoRow : OpenClaim := { program := "ytkclpppnjfhbpaa", sum := "33f9b96dd617e76a3a8d514d2bea684d39f9e4aaec4383d562266c480dc66dc4", func := "loop.example/g01179/laws.FnExactPutBytes", spec := "fnExactPutBytes", apart := false, narrowed := true }
def FnExactPutBytesUptoSaid : Prop := fnExactPutBytesUptoRow.holds Try.pinned (OpenSpec.upto fnExactPutBytesSpec)

/-- 'laws.FnExactTakeBack', WHERE WHAT IT READS IS OF BULK AT MOST 1048576: true; the input reads as it did. -/
def fnExactTakeBackUptoRow : OpenClaim := { program := "ytkclpppnjfhbpaa", sum := "33f9b96dd617e76a3a8d514d2bea684d39f9e4aaec4383d562266c480dc66dc4", func := "loop.example/g01179/laws.FnExactTakeBack", spec := "fnExactTakeBack", apart := false, narrowed := true }
def FnExactTakeBackUptoSaid : Prop := fnExactTakeBackUptoRow.holds Try.pinned (OpenSpec.upto fnExactTakeBackSpec)

/-- 'laws.FnExactTakeAhead', WHERE WHAT IT READS IS OF BULK AT MOST 1048576: true; the input reads as it did. -/
def fnExactTakeAheadUptoRow : OpenClaim := { program := "ytkclpppnjfhbpaa", sum := "33f9b96dd617e76a3a8d514d2bea684d39f9e4aaec4383d562266c480dc66dc4", func := "loop.example/g01179/laws.FnExactTakeAhead", spec := "fnExactTakeAhead", apart := false, narrowed := true }
def FnExactTakeAheadUptoSaid : Prop := fnExactTakeAheadUptoRow.holds Try.pinned (OpenSpec.upto fnExactTakeAheadSpec)

/-- 'laws.FnExactDoEdit', WHERE WHAT IT READS IS OF BULK AT MOST 1048576: true; the input reads as it did. -/
def fnExactDoEditUptoRow : OpenClaim := { program := "ytkclpppnjfhbpaa", sum := "33f9b96dd617e76a3a8d514d2bea684d39f9e4aaec4383d562266c480dc66dc4", func := "loop.example/g01179/laws.FnExactDoEdit", spec := "fnExactDoEdit", apart := false, narrowed := true }
def FnExactDoEditUptoSaid : Prop := fnExactDoEditUptoRow.holds Try.pinned (OpenSpec.upto fnExactDoEditSpec)

/-- 'laws.FnExactDoEdits', WHERE WHAT IT READS IS OF BULK AT MOST 1048576: true; the input reads as it did. -/
def fnExactDoEditsUptoRow : OpenClaim := { program := "ytkclpppnjfhbpaa", sum := "33f9b96dd617e76a3a8d514d2bea684d39f9e4aaec4383d562266c480dc66dc4", func := "loop.example/g01179/laws.FnExactDoEdits", spec := "fnExactDoEdits", apart := false, narrowed := true }
def FnExactDoEditsUptoSaid : Prop := fnExactDoEditsUptoRow.holds Try.pinned (OpenSpec.upto fnExactDoEditsSpec)

/-- 'laws.FnExactEditText', WHERE WHAT IT READS IS OF BULK AT MOST 1048576: true; the input reads as it did. -/
def fnExactEditTextUptoRow : OpenClaim := { program := "ytkclpppnjfhbpaa", sum := "33f9b96dd617e76a3a8d514d2bea684d39f9e4aaec4383d562266c480dc66dc4", func := "loop.example/g01179/laws.FnExactEditText", spec := "fnExactEditText", apart := false, narrowed := true }
def FnExactEditTextUptoSaid : Prop := fnExactEditTextUptoRow.holds Try.pinned (OpenSpec.upto fnExactEditTextSpec)

/-- 'laws.FnExactCloseGap', WHERE WHAT IT READS IS OF BULK AT MOST 1048576: true; the input reads as it did. -/
def fnExactCloseGapUptoRow : OpenClaim := { program := "ytkclpppnjfhbpaa", sum := "33f9b96dd617e76a3a8d514d2bea684d39f9e4aaec4383d562266c480dc66dc4", func := "loop.example/g01179/laws.FnExactCloseGap", spec := "fnExactCloseGap", apart := false, narrowed := true }
def FnExactCloseGapUptoSaid : Prop := fnExactCloseGapUptoRow.holds Try.pinned (OpenSpec.upto fnExactCloseGapSpec)

/-- 'laws.FnExactSeenThrough', WHERE WHAT IT READS IS OF BULK AT MOST 1048576: true; the input reads as it did. -/
def fnExactSeenThroughUptoRow : OpenClaim := { program := "ytkclpppnjfhbpaa", sum := "33f9b96dd617e76a3a8d514d2bea684d39f9e4aaec4383d562266c480dc66dc4", func := "loop.example/g01179/laws.FnExactSeenThrough", spec := "fnExactSeenThrough", unfollowed := true, recurses := true, apart := false, narrowed := true }
def FnExactSeenThroughUptoSaid : Prop := fnExactSeenThroughUptoRow.holds Try.pinned (OpenSpec.upto fnExactSeenThroughSpec)

/-- 'laws.FnGaps', WHERE WHAT IT READS IS OF BULK AT MOST 1048576: true; the input reads as it did. -/
def fnGapsUptoRow : OpenClaim := { program := "ytkclpppnjfhbpaa", sum := "33f9b96dd617e76a3a8d514d2bea684d39f9e4aaec4383d562266c480dc66dc4", func := "loop.example/g01179/laws.FnGaps", spec := "fnGaps", apart := false, narrowed := true }
def FnGapsUptoSaid : Prop := fnGapsUptoRow.holds Try.pinned (OpenSpec.upto fnGapsSpec)

/-- 'laws.FnEdits', WHERE WHAT IT READS IS OF BULK AT MOST 1048576: true; the input reads as it did. -/
def fnEditsUptoRow : OpenClaim := { program := "ytkclpppnjfhbpaa", sum := "33f9b96dd617e76a3a8d514d2bea684d39f9e4aaec4383d562266c480dc66dc4", func := "loop.example/g01179/laws.FnEdits", spec := "fnEdits", unfollowed := true, recurses := true, apart := false, narrowed := true }
def FnEditsUptoSaid : Prop := fnEditsUptoRow.holds Try.pinned (OpenSpec.upto fnEditsSpec)

end Rows
end Go.Proofs.Ytkclpppnjfhbpaa
