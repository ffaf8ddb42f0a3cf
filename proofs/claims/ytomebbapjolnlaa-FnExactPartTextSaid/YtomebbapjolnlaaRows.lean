/-
  No cell of these rows narrows 'for every input' (looked for: loops, veiled, ifaces, maps, wideKeys, modest, calm, conditions, laid).
  DERIVED. THE GIVEN ROWS OF THIS SEAT. 15 by the template 'for every input the law returns true; each argument reads behind the call as it read before'; 0 by the template 'total and deterministic' (their statements: YtomebbapjolnlaaTotals.lean).
  GIVEN WITH THE SEED: the statements are not yours to turn. If you find one false, say at which input.
  Laid BY PROGRAM, IN A SANDBOX (cutbox-rows.mjs): the forced cells as the released guide's own fill.sh prints them over the translation 45feb580d99c1c31… (all of the seat's roots in one cut). By AI agents, Wed Nov 11 2026. No macro, syntax, notation, axiom, sorry.
-/
import Derived.Test.YtomebbapjolnlaaChecked
import GoSem.Claim
import GoSem.ClaimJoined
import GoSem.ClaimMapViews
import Derived.JoinedTies
import Derived.KernelRfl
namespace Go.Proofs.Ytomebbapjolnlaa
/- THE CELL 'sum', in the pinned program and in every row, IS THE sha256 OF THE DUMP (.gsa) THAT YtomebbapjolnlaaProg.lean LOADS. Nothing in Lean hashes anything: it is a label: what it is worth is what the hold of that sum in a sandbox is worth. -/
noncomputable def Try.pinned : Pinned := { name := "ytomebbapjolnlaa", sum := "45feb580d99c1c315185f0c464a7ec35c8c0ed7fea545b98c0dd3ee83e97664c", checked := Try.checked }
namespace Rows
def none {H : Type} : Left H := { results := [], args := [] }

/-- 'laws.FnExactIsRope': WHATEVER THE INPUT: true; the input reads as it did. -/
def fnExactIsRopeSpec : ChangeSpec := { name := "fnExactIsRope", fn := fun _ => fun
  | [d1, d2] => { results := [.lit (.bool true)], args := [d1, d2] }
  | _ => none }
def fnExactIsRopeRow : OpenClaim := { program := "ytomebbapjolnlaa", sum := "45feb580d99c1c315185f0c464a7ec35c8c0ed7fea545b98c0dd3ee83e97664c", func := "loop.example/g01179/laws.FnExactIsRope", spec := "fnExactIsRope", apart := false }
def FnExactIsRopeSaid : Prop := fnExactIsRopeRow.holds Try.pinned (OpenSpec.ofChange fnExactIsRopeSpec)

/-- ITS FALSE NEIGHBOUR: 'it returns false'. Refute it at one input. -/
def fnExactIsRopeWrong : ChangeSpec := { name := "fnExactIsRope", fn := fun _ => fun
  | [d1, d2] => { results := [.lit (.bool false)], args := [d1, d2] }
  | _ => none }
def FnExactIsRopeWrongFalsely : Prop := fnExactIsRopeRow.holds Try.pinned (OpenSpec.ofChange fnExactIsRopeWrong)

/-- 'laws.FnExactRopeText': WHATEVER THE INPUT: true; the input reads as it did. -/
def fnExactRopeTextSpec : ChangeSpec := { name := "fnExactRopeText", fn := fun _ => fun
  | [d1, d2] => { results := [.lit (.bool true)], args := [d1, d2] }
  | _ => none }
def fnExactRopeTextRow : OpenClaim := { program := "ytomebbapjolnlaa", sum := "45feb580d99c1c315185f0c464a7ec35c8c0ed7fea545b98c0dd3ee83e97664c", func := "loop.example/g01179/laws.FnExactRopeText", spec := "fnExactRopeText", unfollowed := true, recurses := true, apart := false }
def FnExactRopeTextSaid : Prop := fnExactRopeTextRow.holds Try.pinned (OpenSpec.ofChange fnExactRopeTextSpec)

/-- ITS FALSE NEIGHBOUR: 'it returns false'. Refute it at one input. -/
def fnExactRopeTextWrong : ChangeSpec := { name := "fnExactRopeText", fn := fun _ => fun
  | [d1, d2] => { results := [.lit (.bool false)], args := [d1, d2] }
  | _ => none }
def FnExactRopeTextWrongFalsely : Prop := fnExactRopeTextRow.holds Try.pinned (OpenSpec.ofChange fnExactRopeTextWrong)

/-- 'laws.FnExactRopeLength': WHATEVER THE INPUT: true; the input reads as it did. -/
def fnExactRopeLengthSpec : ChangeSpec := { name := "fnExactRopeLength", fn := fun _ => fun
  | [d1, d2] => { results := [.lit (.bool true)], args := [d1, d2] }
  | _ => none }
def fnExactRopeLengthRow : OpenClaim := { program := "ytomebbapjolnlaa", sum := "45feb580d99c1c315185f0c464a7ec35c8c0ed7fea545b98c0dd3ee83e97664c", func := "loop.example/g01179/laws.FnExactRopeLength", spec := "fnExactRopeLength", unfollowed := true, recurses := true, apart := false }
def FnExactRopeLengthSaid : Prop := fnExactRopeLengthRow.holds Try.pinned (OpenSpec.ofChange fnExactRopeLengthSpec)

/-- ITS FALSE NEIGHBOUR: 'it returns false'. Refute it at one input. -/
def fnExactRopeLengthWrong : ChangeSpec := { name := "fnExactRopeLength", fn := fun _ => fun
  | [d1, d2] => { results := [.lit (.bool false)], args := [d1, d2] }
  | _ => none }
def FnExactRopeLengthWrongFalsely : Prop := fnExactRopeLengthRow.holds Try.pinned (OpenSpec.ofChange fnExactRopeLengthWrong)

/-- 'laws.FnExactFindPart': WHATEVER THE INPUT: true; the input reads as it did. -/
def fnExactFindPartSpec : ChangeSpec := { name := "fnExactFindPart", fn := fun _ => fun
  | [d1, d2, d3] => { results := [.lit (.bool true)], args := [d1, d2, d3] }
  | _ => none }
def fnExactFindPartRow : OpenClaim := { program := "ytomebbapjolnlaa", sum := "45feb580d99c1c315185f0c464a7ec35c8c0ed7fea545b98c0dd3ee83e97664c", func := "loop.example/g01179/laws.FnExactFindPart", spec := "fnExactFindPart", apart := false }
def FnExactFindPartSaid : Prop := fnExactFindPartRow.holds Try.pinned (OpenSpec.ofChange fnExactFindPartSpec)

/-- ITS FALSE NEIGHBOUR: 'it returns false'. Refute it at one input. -/
def fnExactFindPartWrong : ChangeSpec := { name := "fnExactFindPart", fn := fun _ => fun
  | [d1, d2, d3] => { results := [.lit (.bool false)], args := [d1, d2, d3] }
  | _ => none }
def FnExactFindPartWrongFalsely : Prop := fnExactFindPartRow.holds Try.pinned (OpenSpec.ofChange fnExactFindPartWrong)

/-- 'laws.FnExactJoinRopes': WHATEVER THE INPUT: true; the input reads as it did. -/
def fnExactJoinRopesSpec : ChangeSpec := { name := "fnExactJoinRopes", fn := fun _ => fun
  | [d1, d2, d3] => { results := [.lit (.bool true)], args := [d1, d2, d3] }
  | _ => none }
def fnExactJoinRopesRow : OpenClaim := { program := "ytomebbapjolnlaa", sum := "45feb580d99c1c315185f0c464a7ec35c8c0ed7fea545b98c0dd3ee83e97664c", func := "loop.example/g01179/laws.FnExactJoinRopes", spec := "fnExactJoinRopes", unfollowed := true, recurses := true, apart := false }
def FnExactJoinRopesSaid : Prop := fnExactJoinRopesRow.holds Try.pinned (OpenSpec.ofChange fnExactJoinRopesSpec)

/-- ITS FALSE NEIGHBOUR: 'it returns false'. Refute it at one input. -/
def fnExactJoinRopesWrong : ChangeSpec := { name := "fnExactJoinRopes", fn := fun _ => fun
  | [d1, d2, d3] => { results := [.lit (.bool false)], args := [d1, d2, d3] }
  | _ => none }
def FnExactJoinRopesWrongFalsely : Prop := fnExactJoinRopesRow.holds Try.pinned (OpenSpec.ofChange fnExactJoinRopesWrong)

/-- 'laws.FnExactSplitRope': WHATEVER THE INPUT: true; the input reads as it did. -/
def fnExactSplitRopeSpec : ChangeSpec := { name := "fnExactSplitRope", fn := fun _ => fun
  | [d1, d2, d3] => { results := [.lit (.bool true)], args := [d1, d2, d3] }
  | _ => none }
def fnExactSplitRopeRow : OpenClaim := { program := "ytomebbapjolnlaa", sum := "45feb580d99c1c315185f0c464a7ec35c8c0ed7fea545b98c0dd3ee83e97664c", func := "loop.example/g01179/laws.FnExactSplitRope", spec := "fnExactSplitRope", unfollowed := true, recurses := true, apart := false }
def FnExactSplitRopeSaid : Prop := fnExactSplitRopeRow.holds Try.pinned (OpenSpec.ofChange fnExactSplitRopeSpec)

/-- ITS FALSE NEIGHBOUR: 'it returns false'. Refute it at one input. -/
def fnExactSplitRopeWrong : ChangeSpec := { name := "fnExactSplitRope", fn := fun _ => fun
  | [d1, d2, d3] => { results := [.lit (.bool false)], args := [d1, d2, d3] }
  | _ => none }
def FnExactSplitRopeWrongFalsely : Prop := fnExactSplitRopeRow.holds Try.pinned (OpenSpec.ofChange fnExactSplitRopeWrong)

/-- 'laws.FnExactInsertText': WHATEVER THE INPUT: true; the input reads as it did. -/
def fnExactInsertTextSpec : ChangeSpec := { name := "fnExactInsertText", fn := fun _ => fun
  | [d1, d2, d3, d4] => { results := [.lit (.bool true)], args := [d1, d2, d3, d4] }
  | _ => none }
def fnExactInsertTextRow : OpenClaim := { program := "ytomebbapjolnlaa", sum := "45feb580d99c1c315185f0c464a7ec35c8c0ed7fea545b98c0dd3ee83e97664c", func := "loop.example/g01179/laws.FnExactInsertText", spec := "fnExactInsertText", unfollowed := true, recurses := true, apart := false }
def FnExactInsertTextSaid : Prop := fnExactInsertTextRow.holds Try.pinned (OpenSpec.ofChange fnExactInsertTextSpec)

/-- ITS FALSE NEIGHBOUR: 'it returns false'. Refute it at one input. -/
def fnExactInsertTextWrong : ChangeSpec := { name := "fnExactInsertText", fn := fun _ => fun
  | [d1, d2, d3, d4] => { results := [.lit (.bool false)], args := [d1, d2, d3, d4] }
  | _ => none }
def FnExactInsertTextWrongFalsely : Prop := fnExactInsertTextRow.holds Try.pinned (OpenSpec.ofChange fnExactInsertTextWrong)

/-- 'laws.FnExactDeleteText': WHATEVER THE INPUT: true; the input reads as it did. -/
def fnExactDeleteTextSpec : ChangeSpec := { name := "fnExactDeleteText", fn := fun _ => fun
  | [d1, d2, d3, d4] => { results := [.lit (.bool true)], args := [d1, d2, d3, d4] }
  | _ => none }
def fnExactDeleteTextRow : OpenClaim := { program := "ytomebbapjolnlaa", sum := "45feb580d99c1c315185f0c464a7ec35c8c0ed7fea545b98c0dd3ee83e97664c", func := "loop.example/g01179/laws.FnExactDeleteText", spec := "fnExactDeleteText", unfollowed := true, recurses := true, apart := false }
def FnExactDeleteTextSaid : Prop := fnExactDeleteTextRow.holds Try.pinned (OpenSpec.ofChange fnExactDeleteTextSpec)

/-- ITS FALSE NEIGHBOUR: 'it returns false'. Refute it at one input. -/
def fnExactDeleteTextWrong : ChangeSpec := { name := "fnExactDeleteText", fn := fun _ => fun
  | [d1, d2, d3, d4] => { results := [.lit (.bool false)], args := [d1, d2, d3, d4] }
  | _ => none }
def FnExactDeleteTextWrongFalsely : Prop := fnExactDeleteTextRow.holds Try.pinned (OpenSpec.ofChange fnExactDeleteTextWrong)

/-- 'laws.FnExactPartText': WHATEVER THE INPUT: true; the input reads as it did. -/
def fnExactPartTextSpec : ChangeSpec := { name := "fnExactPartText", fn := fun _ => fun
  | [d1, d2, d3, d4] => { results := [.lit (.bool true)], args := [d1, d2, d3, d4] }
  | _ => none }
def fnExactPartTextRow : OpenClaim := { program := "ytomebbapjolnlaa", sum := "45feb580d99c1c315185f0c464a7ec35c8c0ed7fea545b98c0dd3ee83e97664c", func := "loop.example/g01179/laws.FnExactPartText", spec := "fnExactPartText", unfollowed := true, recurses := true, apart := false }
def FnExactPartTextSaid : Prop := fnExactPartTextRow.holds Try.pinned (OpenSpec.ofChange fnExactPartTextSpec)

/-- ITS FALSE NEIGHBOUR: 'it returns false'. Refute it at one input. -/
def fnExactPartTextWrong : ChangeSpec := { name := "fnExactPartText", fn := fun _ => fun
  | [d1, d2, d3, d4] => { results := [.lit (.bool false)], args := [d1, d2, d3, d4] }
  | _ => none }
def FnExactPartTextWrongFalsely : Prop := fnExactPartTextRow.holds Try.pinned (OpenSpec.ofChange fnExactPartTextWrong)

/-- 'laws.FnExactMergeParts': WHATEVER THE INPUT: true; the input reads as it did. -/
def fnExactMergePartsSpec : ChangeSpec := { name := "fnExactMergeParts", fn := fun _ => fun
  | [d1, d2] => { results := [.lit (.bool true)], args := [d1, d2] }
  | _ => none }
def fnExactMergePartsRow : OpenClaim := { program := "ytomebbapjolnlaa", sum := "45feb580d99c1c315185f0c464a7ec35c8c0ed7fea545b98c0dd3ee83e97664c", func := "loop.example/g01179/laws.FnExactMergeParts", spec := "fnExactMergeParts", apart := false }
def FnExactMergePartsSaid : Prop := fnExactMergePartsRow.holds Try.pinned (OpenSpec.ofChange fnExactMergePartsSpec)

/-- ITS FALSE NEIGHBOUR: 'it returns false'. Refute it at one input. -/
def fnExactMergePartsWrong : ChangeSpec := { name := "fnExactMergeParts", fn := fun _ => fun
  | [d1, d2] => { results := [.lit (.bool false)], args := [d1, d2] }
  | _ => none }
def FnExactMergePartsWrongFalsely : Prop := fnExactMergePartsRow.holds Try.pinned (OpenSpec.ofChange fnExactMergePartsWrong)

/-- 'laws.FnExactFlattenRope': WHATEVER THE INPUT: true; the input reads as it did. -/
def fnExactFlattenRopeSpec : ChangeSpec := { name := "fnExactFlattenRope", fn := fun _ => fun
  | [d1, d2] => { results := [.lit (.bool true)], args := [d1, d2] }
  | _ => none }
def fnExactFlattenRopeRow : OpenClaim := { program := "ytomebbapjolnlaa", sum := "45feb580d99c1c315185f0c464a7ec35c8c0ed7fea545b98c0dd3ee83e97664c", func := "loop.example/g01179/laws.FnExactFlattenRope", spec := "fnExactFlattenRope", unfollowed := true, recurses := true, apart := false }
def FnExactFlattenRopeSaid : Prop := fnExactFlattenRopeRow.holds Try.pinned (OpenSpec.ofChange fnExactFlattenRopeSpec)

/-- ITS FALSE NEIGHBOUR: 'it returns false'. Refute it at one input. -/
def fnExactFlattenRopeWrong : ChangeSpec := { name := "fnExactFlattenRope", fn := fun _ => fun
  | [d1, d2] => { results := [.lit (.bool false)], args := [d1, d2] }
  | _ => none }
def FnExactFlattenRopeWrongFalsely : Prop := fnExactFlattenRopeRow.holds Try.pinned (OpenSpec.ofChange fnExactFlattenRopeWrong)

/-- 'laws.FnExactSameTexts': WHATEVER THE INPUT: true; the input reads as it did. -/
def fnExactSameTextsSpec : ChangeSpec := { name := "fnExactSameTexts", fn := fun _ => fun
  | [d1, d2, d3] => { results := [.lit (.bool true)], args := [d1, d2, d3] }
  | _ => none }
def fnExactSameTextsRow : OpenClaim := { program := "ytomebbapjolnlaa", sum := "45feb580d99c1c315185f0c464a7ec35c8c0ed7fea545b98c0dd3ee83e97664c", func := "loop.example/g01179/laws.FnExactSameTexts", spec := "fnExactSameTexts", unfollowed := true, recurses := true, apart := false }
def FnExactSameTextsSaid : Prop := fnExactSameTextsRow.holds Try.pinned (OpenSpec.ofChange fnExactSameTextsSpec)

/-- ITS FALSE NEIGHBOUR: 'it returns false'. Refute it at one input. -/
def fnExactSameTextsWrong : ChangeSpec := { name := "fnExactSameTexts", fn := fun _ => fun
  | [d1, d2, d3] => { results := [.lit (.bool false)], args := [d1, d2, d3] }
  | _ => none }
def FnExactSameTextsWrongFalsely : Prop := fnExactSameTextsRow.holds Try.pinned (OpenSpec.ofChange fnExactSameTextsWrong)

/-- 'laws.FnExactSharedPlaces': WHATEVER THE INPUT: true; the input reads as it did. -/
def fnExactSharedPlacesSpec : ChangeSpec := { name := "fnExactSharedPlaces", fn := fun _ => fun
  | [d1, d2, d3] => { results := [.lit (.bool true)], args := [d1, d2, d3] }
  | _ => none }
def fnExactSharedPlacesRow : OpenClaim := { program := "ytomebbapjolnlaa", sum := "45feb580d99c1c315185f0c464a7ec35c8c0ed7fea545b98c0dd3ee83e97664c", func := "loop.example/g01179/laws.FnExactSharedPlaces", spec := "fnExactSharedPlaces", unfollowed := true, recurses := true, apart := false }
def FnExactSharedPlacesSaid : Prop := fnExactSharedPlacesRow.holds Try.pinned (OpenSpec.ofChange fnExactSharedPlacesSpec)

/-- ITS FALSE NEIGHBOUR: 'it returns false'. Refute it at one input. -/
def fnExactSharedPlacesWrong : ChangeSpec := { name := "fnExactSharedPlaces", fn := fun _ => fun
  | [d1, d2, d3] => { results := [.lit (.bool false)], args := [d1, d2, d3] }
  | _ => none }
def FnExactSharedPlacesWrongFalsely : Prop := fnExactSharedPlacesRow.holds Try.pinned (OpenSpec.ofChange fnExactSharedPlacesWrong)

/-- 'laws.FnExactWriteRope': WHATEVER THE INPUT: true; the input reads as it did. -/
def fnExactWriteRopeSpec : ChangeSpec := { name := "fnExactWriteRope", fn := fun _ => fun
  | [d1, d2, d3, d4] => { results := [.lit (.bool true)], args := [d1, d2, d3, d4] }
  | _ => none }
def fnExactWriteRopeRow : OpenClaim := { program := "ytomebbapjolnlaa", sum := "45feb580d99c1c315185f0c464a7ec35c8c0ed7fea545b98c0dd3ee83e97664c", func := "loop.example/g01179/laws.FnExactWriteRope", spec := "fnExactWriteRope", unfollowed := true, recurses := true, apart := false }
def FnExactWriteRopeSaid : Prop := fnExactWriteRopeRow.holds Try.pinned (OpenSpec.ofChange fnExactWriteRopeSpec)

/-- ITS FALSE NEIGHBOUR: 'it returns false'. Refute it at one input. -/
def fnExactWriteRopeWrong : ChangeSpec := { name := "fnExactWriteRope", fn := fun _ => fun
  | [d1, d2, d3, d4] => { results := [.lit (.bool false)], args := [d1, d2, d3, d4] }
  | _ => none }
def FnExactWriteRopeWrongFalsely : Prop := fnExactWriteRopeRow.holds Try.pinned (OpenSpec.ofChange fnExactWriteRopeWrong)

/-- 'laws.FnRopesChanged': WHATEVER THE INPUT: true; the input reads as it did. -/
def fnRopesChangedSpec : ChangeSpec := { name := "fnRopesChanged", fn := fun _ => fun
  | [d] => { results := [.lit (.bool true)], args := [d] }
  | _ => none }
def fnRopesChangedRow : OpenClaim := { program := "ytomebbapjolnlaa", sum := "45feb580d99c1c315185f0c464a7ec35c8c0ed7fea545b98c0dd3ee83e97664c", func := "loop.example/g01179/laws.FnRopesChanged", spec := "fnRopesChanged", unfollowed := true, recurses := true, apart := false }
def FnRopesChangedSaid : Prop := fnRopesChangedRow.holds Try.pinned (OpenSpec.ofChange fnRopesChangedSpec)

/-- ITS FALSE NEIGHBOUR: 'it returns false'. Refute it at one input. -/
def fnRopesChangedWrong : ChangeSpec := { name := "fnRopesChanged", fn := fun _ => fun
  | [d] => { results := [.lit (.bool false)], args := [d] }
  | _ => none }
def FnRopesChangedWrongFalsely : Prop := fnRopesChangedRow.holds Try.pinned (OpenSpec.ofChange fnRopesChangedWrong)

/- THE SECOND FORM. 'bulk': how many values and letters a reading holds, each counted each time it is reached (what is shared counts as often as it is met; a slice's spare places count too). A statement '..UptoSaid' is the law's where the arguments, and the package variables that the reading takes, are together of bulk at most 1048576: NARROWER than '..Said'. Prove '..Said' where nothing that the law and all that it calls make is longer than what came in: it says more and counts as full. Else prove '..UptoSaid'. A law counts once. -/
mutual
def uptoBulk {H : Type} : DataW H → Nat
  | .lit (.string bytes) => bytes.length + 1
  | .lit _ => 1
  | .nil => 1
  | .ptr d => uptoBulk d + 1
  | .slice elems spare => uptoBulkAll elems + uptoBulkAll spare + 1
  | .agg parts => uptoBulkAll parts + 1
  | .iface _ d => uptoBulk d + 1
  | .map entries => uptoBulkEntries entries + 1
  | .held _ => 1
def uptoBulkAll {H : Type} : List (DataW H) → Nat
  | [] => 0
  | d :: r => uptoBulk d + uptoBulkAll r
def uptoBulkEntries {H : Type} : List (Lit × DataW H) → Nat
  | [] => 0
  | x :: r => uptoBulkEntry x + uptoBulkEntries r
def uptoBulkEntry {H : Type} : Lit × DataW H → Nat
  | (.string bytes, d) => bytes.length + uptoBulk d + 1
  | (_, d) => uptoBulk d + 1
 end
def uptoSmall : (H : Type) → List (DataW H) → Bool := fun _ ds => decide (uptoBulkAll ds ≤ 1048576)
def OpenSpec.upto (s : _root_.Go.ChangeSpec) : _root_.Go.OpenSpec := { _root_.Go.OpenSpec.ofChange s with cond := some uptoSmall }

/-- 'laws.FnExactIsRope', WHERE WHAT IT READS IS OF BULK AT MOST 1048576: true; the input reads as it did. -/
def fnExactIsRopeUptoRow : OpenClaim := { program := "ytomebbapjolnlaa", sum := "45feb580d99c1c315185f0c464a7ec35c8c0ed7fea545b98c0dd3ee83e97664c", func := "loop.example/g01179/laws.FnExactIsRope", spec := "fnExactIsRope", apart := false, narrowed := true }
def FnExactIsRopeUptoSaid : Prop := fnExactIsRopeUptoRow.holds Try.pinned (OpenSpec.upto fnExactIsRopeSpec)

/-- 'laws.FnExactRopeText', WHERE WHAT IT READS IS OF BULK AT MOST 1048576: true; the input reads as it did. -/
def fnExactRopeTextUptoRow : OpenClaim := { program := "ytomebbapjolnlaa", sum := "45feb580d99c1c315185f0c464a7ec35c8c0ed7fea545b98c0dd3ee83e97664c", func := "loop.example/g01179/laws.FnExactRopeText", spec := "fnExactRopeText", unfollowed := true, recurses := true, apart := false, narrowed := true }
def FnExactRopeTextUptoSaid : Prop := fnExactRopeTextUptoRow.holds Try.pinned (OpenSpec.upto fnExactRopeTextSpec)

/-- 'laws.FnExactRopeLength', WHERE WHAT IT READS IS OF BULK AT MOST 1048576: true; the input reads as it did. -/
def fnExactRopeLengthUptoRow : OpenClaim := { program := "ytomebbapjolnlaa", sum := "45feb580d99c1c315185f0c464a7ec35c8c0ed7fea545b98c0dd3ee83e97664c", func := "loop.example/g01179/laws.FnExactRopeLength", spec := "fnExactRopeLength", unfollowed := true, recurses := true, apart := false, narrowed := true }
def FnExactRopeLengthUptoSaid : Prop := fnExactRopeLengthUptoRow.holds Try.pinned (OpenSpec.upto fnExactRopeLengthSpec)

/-- 'laws.FnExactFindPart', WHERE WHAT IT READS IS OF BULK AT MOST 1048576: true; the input reads as it did. -/
def fnExactFindPartUptoRow : OpenClaim := { program := "ytomebbapjolnlaa", sum := "45feb580d99c1c315185f0c464a7ec35c8c0ed7fea545b98c0dd3ee83e97664c", func := "loop.example/g01179/laws.FnExactFindPart", spec := "fnExactFindPart", apart := false, narrowed := true }
def FnExactFindPartUptoSaid : Prop := fnExactFindPartUptoRow.holds Try.pinned (OpenSpec.upto fnExactFindPartSpec)

/-- 'laws.FnExactJoinRopes', WHERE WHAT IT READS IS OF BULK AT MOST 1048576: true; the input reads as it did. -/
def fnExactJoinRopesUptoRow : OpenClaim := { program := "ytomebbapjolnlaa", sum := "45feb580d99c1c315185f0c464a7ec35c8c0ed7fea545b98c0dd3ee83e97664c", func := "loop.example/g01179/laws.FnExactJoinRopes", spec := "fnExactJoinRopes", unfollowed := true, recurses := true, apart := false, narrowed := true }
def FnExactJoinRopesUptoSaid : Prop := fnExactJoinRopesUptoRow.holds Try.pinned (OpenSpec.upto fnExactJoinRopesSpec)

/-- 'laws.FnExactSplitRope', WHERE WHAT IT READS IS OF BULK AT MOST 1048576: true; the input reads as it did. -/
def fnExactSplitRopeUptoRow : OpenClaim := { program := "ytomebbapjolnlaa", sum := "45feb580d99c1c315185f0c464a7ec35c8c0ed7fea545b98c0dd3ee83e97664c", func := "loop.example/g01179/laws.FnExactSplitRope", spec := "fnExactSplitRope", unfollowed := true, recurses := true, apart := false, narrowed := true }
def FnExactSplitRopeUptoSaid : Prop := fnExactSplitRopeUptoRow.holds Try.pinned (OpenSpec.upto fnExactSplitRopeSpec)

/-- 'laws.FnExactInsertText', WHERE WHAT IT READS IS OF BULK AT MOST 1048576: true; the input reads as it did. -/
def fnExactInsertTextUptoRow : OpenClaim := { program := "ytomebbapjolnlaa", sum := "45feb580d99c1c315185f0c464a7ec35c8c0ed7fea545b98c0dd3ee83e97664c", func := "loop.example/g01179/laws.FnExactInsertText", spec := "fnExactInsertText", unfollowed := true, recurses := true, apart := false, narrowed := true }
def FnExactInsertTextUptoSaid : Prop := fnExactInsertTextUptoRow.holds Try.pinned (OpenSpec.upto fnExactInsertTextSpec)

/-- 'laws.FnExactDeleteText', WHERE WHAT IT READS IS OF BULK AT MOST 1048576: true; the input reads as it did. -/
def fnExactDeleteTextUptoRow : OpenClaim := { program := "ytomebbapjolnlaa", sum := "45feb580d99c1c315185f0c464a7ec35c8c0ed7fea545b98c0dd3ee83e97664c", func := "loop.example/g01179/laws.FnExactDeleteText", spec := "fnExactDeleteText", unfollowed := true, recurses := true, apart := false, narrowed := true }
def FnExactDeleteTextUptoSaid : Prop := fnExactDeleteTextUptoRow.holds Try.pinned (OpenSpec.upto fnExactDeleteTextSpec)

/-- 'laws.FnExactPartText', WHERE WHAT IT READS IS OF BULK AT MOST 1048576: true; the input reads as it did. -/
def fnExactPartTextUptoRow : OpenClaim := { program := "ytomebbapjolnlaa", sum := "45feb580d99c1c315185f0c464a7ec35c8c0ed7fea545b98c0dd3ee83e97664c", func := "loop.example/g01179/laws.FnExactPartText", spec := "fnExactPartText", unfollowed := true, recurses := true, apart := false, narrowed := true }
def FnExactPartTextUptoSaid : Prop := fnExactPartTextUptoRow.holds Try.pinned (OpenSpec.upto fnExactPartTextSpec)

/-- 'laws.FnExactMergeParts', WHERE WHAT IT READS IS OF BULK AT MOST 1048576: true; the input reads as it did. -/
def fnExactMergePartsUptoRow : OpenClaim := { program := "ytomebbapjolnlaa", sum := "45feb580d99c1c315185f0c464a7ec35c8c0ed7fea545b98c0dd3ee83e97664c", func := "loop.example/g01179/laws.FnExactMergeParts", spec := "fnExactMergeParts", apart := false, narrowed := true }
def FnExactMergePartsUptoSaid : Prop := fnExactMergePartsUptoRow.holds Try.pinned (OpenSpec.upto fnExactMergePartsSpec)

/-- 'laws.FnExactFlattenRope', WHERE WHAT IT READS IS OF BULK AT MOST 1048576: true; the input reads as it did. -/
def fnExactFlattenRopeUptoRow : OpenClaim := { program := "ytomebbapjolnlaa", sum := "45feb580d99c1c315185f0c464a7ec35c8c0ed7fea545b98c0dd3ee83e97664c", func := "loop.example/g01179/laws.FnExactFlattenRope", spec := "fnExactFlattenRope", unfollowed := true, recurses := true, apart := false, narrowed := true }
def FnExactFlattenRopeUptoSaid : Prop := fnExactFlattenRopeUptoRow.holds Try.pinned (OpenSpec.upto fnExactFlattenRopeSpec)

/-- 'laws.FnExactSameTexts', WHERE WHAT IT READS IS OF BULK AT MOST 1048576: true; the input reads as it did. -/
def fnExactSameTextsUptoRow : OpenClaim := { program := "ytomebbapjolnlaa", sum := "45feb580d99c1c315185f0c464a7ec35c8c0ed7fea545b98c0dd3ee83e97664c", func := "loop.example/g01179/laws.FnExactSameTexts", spec := "fnExactSameTexts", unfollowed := true, recurses := true, apart := false, narrowed := true }
def FnExactSameTextsUptoSaid : Prop := fnExactSameTextsUptoRow.holds Try.pinned (OpenSpec.upto fnExactSameTextsSpec)

/-- 'laws.FnExactSharedPlaces', WHERE WHAT IT READS IS OF BULK AT MOST 1048576: true; the input reads as it did. -/
def fnExactSharedPlacesUptoRow : OpenClaim := { program := "ytomebbapjolnlaa", sum := "45feb580d99c1c315185f0c464a7ec35c8c0ed7fea545b98c0dd3ee83e97664c", func := "loop.example/g01179/laws.FnExactSharedPlaces", spec := "fnExactSharedPlaces", unfollowed := true, recurses := true, apart := false, narrowed := true }
def FnExactSharedPlacesUptoSaid : Prop := fnExactSharedPlacesUptoRow.holds Try.pinned (OpenSpec.upto fnExactSharedPlacesSpec)

/-- 'laws.FnExactWriteRope', WHERE WHAT IT READS IS OF BULK AT MOST 1048576: true; the input reads as it did. -/
def fnExactWriteRopeUptoRow : OpenClaim := { program := "ytomebbapjolnlaa", sum := "45feb580d99c1c315185f0c464a7ec35c8c0ed7fea545b98c0dd3ee83e97664c", func := "loop.example/g01179/laws.FnExactWriteRope", spec := "fnExactWriteRope", unfollowed := true, recurses := true, apart := false, narrowed := true }
def FnExactWriteRopeUptoSaid : Prop := fnExactWriteRopeUptoRow.holds Try.pinned (OpenSpec.upto fnExactWriteRopeSpec)

/-- 'laws.FnRopesChanged', WHERE WHAT IT READS IS OF BULK AT MOST 1048576: true; the input reads as it did. -/
def fnRopesChangedUptoRow : OpenClaim := { program := "ytomebbapjolnlaa", sum := "45feb580d99c1c315185f0c464a7ec35c8c0ed7fea545b98c0dd3ee83e97664c", func := "loop.example/g01179/laws.FnRopesChanged", spec := "fnRopesChanged", unfollowed := true, recurses := true, apart := false, narrowed := true }
def FnRopesChangedUptoSaid : Prop := fnRopesChangedUptoRow.holds Try.pinned (OpenSpec.upto fnRopesChangedSpec)

end Rows
end Go.Proofs.Ytomebbapjolnlaa
