/-
  No cell of these rows narrows 'for every input' (looked for: loops, veiled, ifaces, maps, wideKeys, modest, calm, conditions, laid).
  DERIVED. THE GIVEN ROWS OF THIS SEAT. 14 by the template 'for every input the law returns true; each argument reads behind the call as it read before'; 0 by the template 'total and deterministic' (their statements: YtlioamjmkaaooaaTotals.lean).
  GIVEN WITH THE SEED: the statements are not yours to turn. If you find one false, say at which input.
  Laid BY PROGRAM, IN A SANDBOX (cutbox-rows.mjs): the forced cells as the released guide's own fill.sh prints them over the translation 709f06e1b12b8764… (all of the seat's roots in one cut). By AI agents, Wed Nov 11 2026. No macro, syntax, notation, axiom, sorry.
-/
import Derived.Test.YtlioamjmkaaooaaChecked
import GoSem.Claim
import GoSem.ClaimJoined
import GoSem.ClaimMapViews
import Derived.JoinedTies
import Derived.KernelRfl
namespace Go.Proofs.Ytlioamjmkaaooaa
/- THE CELL 'sum', in the pinned program and in every row, IS THE sha256 OF THE DUMP (.gsa) THAT YtlioamjmkaaooaaProg.lean LOADS. Nothing in Lean hashes anything: it is a label: what it is worth is what the hold of that sum in a sandbox is worth. -/
noncomputable def Try.pinned : Pinned := { name := "ytlioamjmkaaooaa", sum := "709f06e1b12b8764d38edf80d645834b71d9cf931d30d051501487298848f6c5", checked := Try.checked }
namespace Rows
def none {H : Type} : Left H := { results := [], args := [] }

/-- 'laws.FnExactIsRing': WHATEVER THE INPUT: true; the input reads as it did. -/
def fnExactIsRingSpec : ChangeSpec := { name := "fnExactIsRing", fn := fun _ => fun
  | [d1, d2] => { results := [.lit (.bool true)], args := [d1, d2] }
  | _ => none }
def fnExactIsRingRow : OpenClaim := { program := "ytlioamjmkaaooaa", sum := "709f06e1b12b8764d38edf80d645834b71d9cf931d30d051501487298848f6c5", func := "loop.example/g01179/laws.FnExactIsRing", spec := "fnExactIsRing", apart := false }
def FnExactIsRingSaid : Prop := fnExactIsRingRow.holds Try.pinned (OpenSpec.ofChange fnExactIsRingSpec)

/-- ITS FALSE NEIGHBOUR: 'it returns false'. Refute it at one input. -/
def fnExactIsRingWrong : ChangeSpec := { name := "fnExactIsRing", fn := fun _ => fun
  | [d1, d2] => { results := [.lit (.bool false)], args := [d1, d2] }
  | _ => none }
def FnExactIsRingWrongFalsely : Prop := fnExactIsRingRow.holds Try.pinned (OpenSpec.ofChange fnExactIsRingWrong)

/-- 'laws.FnExactNewRing': WHATEVER THE INPUT: true; the input reads as it did. -/
def fnExactNewRingSpec : ChangeSpec := { name := "fnExactNewRing", fn := fun _ => fun
  | [d1, d2] => { results := [.lit (.bool true)], args := [d1, d2] }
  | _ => none }
def fnExactNewRingRow : OpenClaim := { program := "ytlioamjmkaaooaa", sum := "709f06e1b12b8764d38edf80d645834b71d9cf931d30d051501487298848f6c5", func := "loop.example/g01179/laws.FnExactNewRing", spec := "fnExactNewRing", apart := false }
def FnExactNewRingSaid : Prop := fnExactNewRingRow.holds Try.pinned (OpenSpec.ofChange fnExactNewRingSpec)

/-- ITS FALSE NEIGHBOUR: 'it returns false'. Refute it at one input. -/
def fnExactNewRingWrong : ChangeSpec := { name := "fnExactNewRing", fn := fun _ => fun
  | [d1, d2] => { results := [.lit (.bool false)], args := [d1, d2] }
  | _ => none }
def FnExactNewRingWrongFalsely : Prop := fnExactNewRingRow.holds Try.pinned (OpenSpec.ofChange fnExactNewRingWrong)

/-- 'laws.FnExactRingBytes': WHATEVER THE INPUT: true; the input reads as it did. -/
def fnExactRingBytesSpec : ChangeSpec := { name := "fnExactRingBytes", fn := fun _ => fun
  | [d1, d2] => { results := [.lit (.bool true)], args := [d1, d2] }
  | _ => none }
def fnExactRingBytesRow : OpenClaim := { program := "ytlioamjmkaaooaa", sum := "709f06e1b12b8764d38edf80d645834b71d9cf931d30d051501487298848f6c5", func := "loop.example/g01179/laws.FnExactRingBytes", spec := "fnExactRingBytes", apart := false }
def FnExactRingBytesSaid : Prop := fnExactRingBytesRow.holds Try.pinned (OpenSpec.ofChange fnExactRingBytesSpec)

/-- ITS FALSE NEIGHBOUR: 'it returns false'. Refute it at one input. -/
def fnExactRingBytesWrong : ChangeSpec := { name := "fnExactRingBytes", fn := fun _ => fun
  | [d1, d2] => { results := [.lit (.bool false)], args := [d1, d2] }
  | _ => none }
def FnExactRingBytesWrongFalsely : Prop := fnExactRingBytesRow.holds Try.pinned (OpenSpec.ofChange fnExactRingBytesWrong)

/-- 'laws.FnExactPushBack': WHATEVER THE INPUT: true; the input reads as it did. -/
def fnExactPushBackSpec : ChangeSpec := { name := "fnExactPushBack", fn := fun _ => fun
  | [d1, d2, d3] => { results := [.lit (.bool true)], args := [d1, d2, d3] }
  | _ => none }
def fnExactPushBackRow : OpenClaim := { program := "ytlioamjmkaaooaa", sum := "709f06e1b12b8764d38edf80d645834b71d9cf931d30d051501487298848f6c5", func := "loop.example/g01179/laws.FnExactPushBack", spec := "fnExactPushBack", unfollowed := true, recurses := true, apart := false }
def FnExactPushBackSaid : Prop := fnExactPushBackRow.holds Try.pinned (OpenSpec.ofChange fnExactPushBackSpec)

/-- ITS FALSE NEIGHBOUR: 'it returns false'. Refute it at one input. -/
def fnExactPushBackWrong : ChangeSpec := { name := "fnExactPushBack", fn := fun _ => fun
  | [d1, d2, d3] => { results := [.lit (.bool false)], args := [d1, d2, d3] }
  | _ => none }
def FnExactPushBackWrongFalsely : Prop := fnExactPushBackRow.holds Try.pinned (OpenSpec.ofChange fnExactPushBackWrong)

/-- 'laws.FnExactPushFront': WHATEVER THE INPUT: true; the input reads as it did. -/
def fnExactPushFrontSpec : ChangeSpec := { name := "fnExactPushFront", fn := fun _ => fun
  | [d1, d2, d3] => { results := [.lit (.bool true)], args := [d1, d2, d3] }
  | _ => none }
def fnExactPushFrontRow : OpenClaim := { program := "ytlioamjmkaaooaa", sum := "709f06e1b12b8764d38edf80d645834b71d9cf931d30d051501487298848f6c5", func := "loop.example/g01179/laws.FnExactPushFront", spec := "fnExactPushFront", unfollowed := true, recurses := true, apart := false }
def FnExactPushFrontSaid : Prop := fnExactPushFrontRow.holds Try.pinned (OpenSpec.ofChange fnExactPushFrontSpec)

/-- ITS FALSE NEIGHBOUR: 'it returns false'. Refute it at one input. -/
def fnExactPushFrontWrong : ChangeSpec := { name := "fnExactPushFront", fn := fun _ => fun
  | [d1, d2, d3] => { results := [.lit (.bool false)], args := [d1, d2, d3] }
  | _ => none }
def FnExactPushFrontWrongFalsely : Prop := fnExactPushFrontRow.holds Try.pinned (OpenSpec.ofChange fnExactPushFrontWrong)

/-- 'laws.FnExactPopFront': WHATEVER THE INPUT: true; the input reads as it did. -/
def fnExactPopFrontSpec : ChangeSpec := { name := "fnExactPopFront", fn := fun _ => fun
  | [d1, d2] => { results := [.lit (.bool true)], args := [d1, d2] }
  | _ => none }
def fnExactPopFrontRow : OpenClaim := { program := "ytlioamjmkaaooaa", sum := "709f06e1b12b8764d38edf80d645834b71d9cf931d30d051501487298848f6c5", func := "loop.example/g01179/laws.FnExactPopFront", spec := "fnExactPopFront", unfollowed := true, recurses := true, apart := false }
def FnExactPopFrontSaid : Prop := fnExactPopFrontRow.holds Try.pinned (OpenSpec.ofChange fnExactPopFrontSpec)

/-- ITS FALSE NEIGHBOUR: 'it returns false'. Refute it at one input. -/
def fnExactPopFrontWrong : ChangeSpec := { name := "fnExactPopFront", fn := fun _ => fun
  | [d1, d2] => { results := [.lit (.bool false)], args := [d1, d2] }
  | _ => none }
def FnExactPopFrontWrongFalsely : Prop := fnExactPopFrontRow.holds Try.pinned (OpenSpec.ofChange fnExactPopFrontWrong)

/-- 'laws.FnExactPopBack': WHATEVER THE INPUT: true; the input reads as it did. -/
def fnExactPopBackSpec : ChangeSpec := { name := "fnExactPopBack", fn := fun _ => fun
  | [d1, d2] => { results := [.lit (.bool true)], args := [d1, d2] }
  | _ => none }
def fnExactPopBackRow : OpenClaim := { program := "ytlioamjmkaaooaa", sum := "709f06e1b12b8764d38edf80d645834b71d9cf931d30d051501487298848f6c5", func := "loop.example/g01179/laws.FnExactPopBack", spec := "fnExactPopBack", unfollowed := true, recurses := true, apart := false }
def FnExactPopBackSaid : Prop := fnExactPopBackRow.holds Try.pinned (OpenSpec.ofChange fnExactPopBackSpec)

/-- ITS FALSE NEIGHBOUR: 'it returns false'. Refute it at one input. -/
def fnExactPopBackWrong : ChangeSpec := { name := "fnExactPopBack", fn := fun _ => fun
  | [d1, d2] => { results := [.lit (.bool false)], args := [d1, d2] }
  | _ => none }
def FnExactPopBackWrongFalsely : Prop := fnExactPopBackRow.holds Try.pinned (OpenSpec.ofChange fnExactPopBackWrong)

/-- 'laws.FnExactRingParts': WHATEVER THE INPUT: true; the input reads as it did. -/
def fnExactRingPartsSpec : ChangeSpec := { name := "fnExactRingParts", fn := fun _ => fun
  | [d1, d2] => { results := [.lit (.bool true)], args := [d1, d2] }
  | _ => none }
def fnExactRingPartsRow : OpenClaim := { program := "ytlioamjmkaaooaa", sum := "709f06e1b12b8764d38edf80d645834b71d9cf931d30d051501487298848f6c5", func := "loop.example/g01179/laws.FnExactRingParts", spec := "fnExactRingParts", apart := false }
def FnExactRingPartsSaid : Prop := fnExactRingPartsRow.holds Try.pinned (OpenSpec.ofChange fnExactRingPartsSpec)

/-- ITS FALSE NEIGHBOUR: 'it returns false'. Refute it at one input. -/
def fnExactRingPartsWrong : ChangeSpec := { name := "fnExactRingParts", fn := fun _ => fun
  | [d1, d2] => { results := [.lit (.bool false)], args := [d1, d2] }
  | _ => none }
def FnExactRingPartsWrongFalsely : Prop := fnExactRingPartsRow.holds Try.pinned (OpenSpec.ofChange fnExactRingPartsWrong)

/-- 'laws.FnExactTurnWindow': WHATEVER THE INPUT: true; the input reads as it did. -/
def fnExactTurnWindowSpec : ChangeSpec := { name := "fnExactTurnWindow", fn := fun _ => fun
  | [d1, d2, d3] => { results := [.lit (.bool true)], args := [d1, d2, d3] }
  | _ => none }
def fnExactTurnWindowRow : OpenClaim := { program := "ytlioamjmkaaooaa", sum := "709f06e1b12b8764d38edf80d645834b71d9cf931d30d051501487298848f6c5", func := "loop.example/g01179/laws.FnExactTurnWindow", spec := "fnExactTurnWindow", apart := false }
def FnExactTurnWindowSaid : Prop := fnExactTurnWindowRow.holds Try.pinned (OpenSpec.ofChange fnExactTurnWindowSpec)

/-- ITS FALSE NEIGHBOUR: 'it returns false'. Refute it at one input. -/
def fnExactTurnWindowWrong : ChangeSpec := { name := "fnExactTurnWindow", fn := fun _ => fun
  | [d1, d2, d3] => { results := [.lit (.bool false)], args := [d1, d2, d3] }
  | _ => none }
def FnExactTurnWindowWrongFalsely : Prop := fnExactTurnWindowRow.holds Try.pinned (OpenSpec.ofChange fnExactTurnWindowWrong)

/-- 'laws.FnExactFindInRing': WHATEVER THE INPUT: true; the input reads as it did. -/
def fnExactFindInRingSpec : ChangeSpec := { name := "fnExactFindInRing", fn := fun _ => fun
  | [d1, d2, d3] => { results := [.lit (.bool true)], args := [d1, d2, d3] }
  | _ => none }
def fnExactFindInRingRow : OpenClaim := { program := "ytlioamjmkaaooaa", sum := "709f06e1b12b8764d38edf80d645834b71d9cf931d30d051501487298848f6c5", func := "loop.example/g01179/laws.FnExactFindInRing", spec := "fnExactFindInRing", inPlace := ["internal/bytealg.IndexByte"], apart := false }
def FnExactFindInRingSaid : Prop := fnExactFindInRingRow.holds Try.pinned (OpenSpec.ofChange fnExactFindInRingSpec)

/-- ITS FALSE NEIGHBOUR: 'it returns false'. Refute it at one input. -/
def fnExactFindInRingWrong : ChangeSpec := { name := "fnExactFindInRing", fn := fun _ => fun
  | [d1, d2, d3] => { results := [.lit (.bool false)], args := [d1, d2, d3] }
  | _ => none }
def FnExactFindInRingWrongFalsely : Prop := fnExactFindInRingRow.holds Try.pinned (OpenSpec.ofChange fnExactFindInRingWrong)

/-- 'laws.FnExactSameRings': WHATEVER THE INPUT: true; the input reads as it did. -/
def fnExactSameRingsSpec : ChangeSpec := { name := "fnExactSameRings", fn := fun _ => fun
  | [d1, d2, d3] => { results := [.lit (.bool true)], args := [d1, d2, d3] }
  | _ => none }
def fnExactSameRingsRow : OpenClaim := { program := "ytlioamjmkaaooaa", sum := "709f06e1b12b8764d38edf80d645834b71d9cf931d30d051501487298848f6c5", func := "loop.example/g01179/laws.FnExactSameRings", spec := "fnExactSameRings", apart := false }
def FnExactSameRingsSaid : Prop := fnExactSameRingsRow.holds Try.pinned (OpenSpec.ofChange fnExactSameRingsSpec)

/-- ITS FALSE NEIGHBOUR: 'it returns false'. Refute it at one input. -/
def fnExactSameRingsWrong : ChangeSpec := { name := "fnExactSameRings", fn := fun _ => fun
  | [d1, d2, d3] => { results := [.lit (.bool false)], args := [d1, d2, d3] }
  | _ => none }
def FnExactSameRingsWrongFalsely : Prop := fnExactSameRingsRow.holds Try.pinned (OpenSpec.ofChange fnExactSameRingsWrong)

/-- 'laws.FnExactStraightRing': WHATEVER THE INPUT: true; the input reads as it did. -/
def fnExactStraightRingSpec : ChangeSpec := { name := "fnExactStraightRing", fn := fun _ => fun
  | [d1, d2] => { results := [.lit (.bool true)], args := [d1, d2] }
  | _ => none }
def fnExactStraightRingRow : OpenClaim := { program := "ytlioamjmkaaooaa", sum := "709f06e1b12b8764d38edf80d645834b71d9cf931d30d051501487298848f6c5", func := "loop.example/g01179/laws.FnExactStraightRing", spec := "fnExactStraightRing", apart := false }
def FnExactStraightRingSaid : Prop := fnExactStraightRingRow.holds Try.pinned (OpenSpec.ofChange fnExactStraightRingSpec)

/-- ITS FALSE NEIGHBOUR: 'it returns false'. Refute it at one input. -/
def fnExactStraightRingWrong : ChangeSpec := { name := "fnExactStraightRing", fn := fun _ => fun
  | [d1, d2] => { results := [.lit (.bool false)], args := [d1, d2] }
  | _ => none }
def FnExactStraightRingWrongFalsely : Prop := fnExactStraightRingRow.holds Try.pinned (OpenSpec.ofChange fnExactStraightRingWrong)

/-- 'laws.FnExactMoveRing': WHATEVER THE INPUT: true; the input reads as it did. -/
def fnExactMoveRingSpec : ChangeSpec := { name := "fnExactMoveRing", fn := fun _ => fun
  | [d1, d2, d3] => { results := [.lit (.bool true)], args := [d1, d2, d3] }
  | _ => none }
def fnExactMoveRingRow : OpenClaim := { program := "ytlioamjmkaaooaa", sum := "709f06e1b12b8764d38edf80d645834b71d9cf931d30d051501487298848f6c5", func := "loop.example/g01179/laws.FnExactMoveRing", spec := "fnExactMoveRing", apart := false }
def FnExactMoveRingSaid : Prop := fnExactMoveRingRow.holds Try.pinned (OpenSpec.ofChange fnExactMoveRingSpec)

/-- ITS FALSE NEIGHBOUR: 'it returns false'. Refute it at one input. -/
def fnExactMoveRingWrong : ChangeSpec := { name := "fnExactMoveRing", fn := fun _ => fun
  | [d1, d2, d3] => { results := [.lit (.bool false)], args := [d1, d2, d3] }
  | _ => none }
def FnExactMoveRingWrongFalsely : Prop := fnExactMoveRingRow.holds Try.pinned (OpenSpec.ofChange fnExactMoveRingWrong)

/-- 'laws.FnExactPushAll': WHATEVER THE INPUT: true; the input reads as it did. -/
def fnExactPushAllSpec : ChangeSpec := { name := "fnExactPushAll", fn := fun _ => fun
  | [d1, d2, d3] => { results := [.lit (.bool true)], args := [d1, d2, d3] }
  | _ => none }
def fnExactPushAllRow : OpenClaim := { program := "ytlioamjmkaaooaa", sum := "709f06e1b12b8764d38edf80d645834b71d9cf931d30d051501487298848f6c5", func := "loop.example/g01179/laws.FnExactPushAll", spec := "fnExactPushAll", apart := false }
def FnExactPushAllSaid : Prop := fnExactPushAllRow.holds Try.pinned (OpenSpec.ofChange fnExactPushAllSpec)

/-- ITS FALSE NEIGHBOUR: 'it returns false'. Refute it at one input. -/
def fnExactPushAllWrong : ChangeSpec := { name := "fnExactPushAll", fn := fun _ => fun
  | [d1, d2, d3] => { results := [.lit (.bool false)], args := [d1, d2, d3] }
  | _ => none }
def FnExactPushAllWrongFalsely : Prop := fnExactPushAllRow.holds Try.pinned (OpenSpec.ofChange fnExactPushAllWrong)

/- THE SECOND FORM. 'bulk': how many values and letters a reading holds, each counted each time it is reached (what is shared counts as often as it is met; a slice's spare places count too). A statement '..UptoSaid' is the law's where the arguments, and the package variables that the reading takes, are together of bulk at most 1048576: NARROWER than '..Said'. Prove '..Said' where nothing that the law and all that it calls make is longer than what came in: it says more and counts as full. Else prove '..UptoSaid'. A law counts once. -/
mutual
def uptoBulk {H : Type} : DataW H → Nat
  | .lit (.string bytes) => bytes.length + 1
  | .lit _ => 1
  | .nil => 1
  | .ptr d => uptoBulk d + 1
  | .slice elems spare => uptoBulkAll elems + uptoBulkAll spare + 1
  | .agg parts => uptoBulkAll parts + 1
  | .iface _ d => uptoBulk d + 1
  | .map entries => uptoBulkEntries entries + 1
  | .held _ => 1
def uptoBulkAll {H : Type} : List (DataW H) → Nat
  | [] => 0
  | d :: r => uptoBulk d + uptoBulkAll r
def uptoBulkEntries {H : Type} : List (Lit × DataW H) → Nat
  | [] => 0
  | x :: r => uptoBulkEntry x + uptoBulkEntries r
def uptoBulkEntry {H : Type} : Lit × DataW H → Nat
  | (.string bytes, d) => bytes.length + uptoBulk d + 1
  | (_, d) => uptoBulk d + 1
 end
def uptoSmall : (H : Type) → List (DataW H) → Bool := fun _ ds => decide (uptoBulkAll ds ≤ 1048576)
def OpenSpec.upto (s : _root_.Go.ChangeSpec) : _root_.Go.OpenSpec := { _root_.Go.OpenSpec.ofChange s with cond := some uptoSmall }

/-- 'laws.FnExactIsRing', WHERE WHAT IT READS IS OF BULK AT MOST 1048576: true; the input reads as it did. -/
def fnExactIsRingUptoRow : OpenClaim := { program := "ytlioamjmkaaooaa", sum := "709f06e1b12b8764d38edf80d645834b71d9cf931d30d051501487298848f6c5", func := "loop.example/g01179/laws.FnExactIsRing", spec := "fnExactIsRing", apart := false, narrowed := true }
def FnExactIsRingUptoSaid : Prop := fnExactIsRingUptoRow.holds Try.pinned (OpenSpec.upto fnExactIsRingSpec)

/-- 'laws.FnExactNewRing', WHERE WHAT IT READS IS OF BULK AT MOST 1048576: true; the input reads as it did. -/
def fnExactNewRingUptoRow : OpenClaim := { program := "ytlioamjmkaaooaa", sum := "709f06e1b12b8764d38edf80d645834b71d9cf931d30d051501487298848f6c5", func := "loop.example/g01179/laws.FnExactNewRing", spec := "fnExactNewRing", apart := false, narrowed := true }
def FnExactNewRingUptoSaid : Prop := fnExactNewRingUptoRow.holds Try.pinned (OpenSpec.upto fnExactNewRingSpec)

/-- 'laws.FnExactRingBytes', WHERE WHAT IT READS IS OF BULK AT MOST 1048576: true; the input reads as it did. -/
def fnExactRingBytesUptoRow : OpenClaim := { program := "ytlioamjmkaaooaa", sum := "709f06e1b12b8764d38edf80d645834b71d9cf931d30d051501487298848f6c5", func := "loop.example/g01179/laws.FnExactRingBytes", spec := "fnExactRingBytes", apart := false, narrowed := true }
def FnExactRingBytesUptoSaid : Prop := fnExactRingBytesUptoRow.holds Try.pinned (OpenSpec.upto fnExactRingBytesSpec)

/-- 'laws.FnExactPushBack', WHERE WHAT IT READS IS OF BULK AT MOST 1048576: true; the input reads as it did. -/
def fnExactPushBackUptoRow : OpenClaim := { program := "ytlioamjmkaaooaa", sum := "709f06e1b12b8764d38edf80d645834b71d9cf931d30d051501487298848f6c5", func := "loop.example/g01179/laws.FnExactPushBack", spec := "fnExactPushBack", unfollowed := true, recurses := true, apart := false, narrowed := true }
def FnExactPushBackUptoSaid : Prop := fnExactPushBackUptoRow.holds Try.pinned (OpenSpec.upto fnExactPushBackSpec)

/-- 'laws.FnExactPushFront', WHERE WHAT IT READS IS OF BULK AT MOST 1048576: true; the input reads as it did. -/
def fnExactPushFrontUptoRow : OpenClaim := { program := "ytlioamjmkaaooaa", sum := "709f06e1b12b8764d38edf80d645834b71d9cf931d30d051501487298848f6c5", func := "loop.example/g01179/laws.FnExactPushFront", spec := "fnExactPushFront", unfollowed := true, recurses := true, apart := false, narrowed := true }
def FnExactPushFrontUptoSaid : Prop := fnExactPushFrontUptoRow.holds Try.pinned (OpenSpec.upto fnExactPushFrontSpec)

/-- 'laws.FnExactPopFront', WHERE WHAT IT READS IS OF BULK AT MOST 1048576: true; the input reads as it did. -/
def fnExactPopFrontUptoRow : OpenClaim := { program := "ytlioamjmkaaooaa", sum := "709f06e1b12b8764d38edf80d645834b71d9cf931d30d051501487298848f6c5", func := "loop.example/g01179/laws.FnExactPopFront", spec := "fnExactPopFront", unfollowed := true, recurses := true, apart := false, narrowed := true }
def FnExactPopFrontUptoSaid : Prop := fnExactPopFrontUptoRow.holds Try.pinned (OpenSpec.upto fnExactPopFrontSpec)

/-- 'laws.FnExactPopBack', WHERE WHAT IT READS IS OF BULK AT MOST 1048576: true; the input reads as it did. -/
def fnExactPopBackUptoRow : OpenClaim := { program := "ytlioamjmkaaooaa", sum := "709f06e1b12b8764d38edf80d645834b71d9cf931d30d051501487298848f6c5", func := "loop.example/g01179/laws.FnExactPopBack", spec := "fnExactPopBack", unfollowed := true, recurses := true, apart := false, narrowed := true }
def FnExactPopBackUptoSaid : Prop := fnExactPopBackUptoRow.holds Try.pinned (OpenSpec.upto fnExactPopBackSpec)

/-- 'laws.FnExactRingParts', WHERE WHAT IT READS IS OF BULK AT MOST 1048576: true; the input reads as it did. -/
def fnExactRingPartsUptoRow : OpenClaim := { program := "ytlioamjmkaaooaa", sum := "709f06e1b12b8764d38edf80d645834b71d9cf931d30d051501487298848f6c5", func := "loop.example/g01179/laws.FnExactRingParts", spec := "fnExactRingParts", apart := false, narrowed := true }
def FnExactRingPartsUptoSaid : Prop := fnExactRingPartsUptoRow.holds Try.pinned (OpenSpec.upto fnExactRingPartsSpec)

/-- 'laws.FnExactTurnWindow', WHERE WHAT IT READS IS OF BULK AT MOST 1048576: true; the input reads as it did. -/
def fnExactTurnWindowUptoRow : OpenClaim := { program := "ytlioamjmkaaooaa", sum := "709f06e1b12b8764d38edf80d645834b71d9cf931d30d051501487298848f6c5", func := "loop.example/g01179/laws.FnExactTurnWindow", spec := "fnExactTurnWindow", apart := false, narrowed := true }
def FnExactTurnWindowUptoSaid : Prop := fnExactTurnWindowUptoRow.holds Try.pinned (OpenSpec.upto fnExactTurnWindowSpec)

/-- 'laws.FnExactFindInRing', WHERE WHAT IT READS IS OF BULK AT MOST 1048576: true; the input reads as it did. -/
def fnExactFindInRingUptoRow : OpenClaim := { program := "ytlioamjmkaaooaa", sum := "709f06e1b12b8764d38edf80d645834b71d9cf931d30d051501487298848f6c5", func := "loop.example/g01179/laws.FnExactFindInRing", spec := "fnExactFindInRing", inPlace := ["internal/bytealg.IndexByte"], apart := false, narrowed := true }
def FnExactFindInRingUptoSaid : Prop := fnExactFindInRingUptoRow.holds Try.pinned (OpenSpec.upto fnExactFindInRingSpec)

/-- 'laws.FnExactSameRings', WHERE WHAT IT READS IS OF BULK AT MOST 1048576: true; the input reads as it did. -/
def fnExactSameRingsUptoRow : OpenClaim := { program := "ytlioamjmkaaooaa", sum := "709f06e1b12b8764d38edf80d645834b71d9cf931d30d051501487298848f6c5", func := "loop.example/g01179/laws.FnExactSameRings", spec := "fnExactSameRings", apart := false, narrowed := true }
def FnExactSameRingsUptoSaid : Prop := fnExactSameRingsUptoRow.holds Try.pinned (OpenSpec.upto fnExactSameRingsSpec)

/-- 'laws.FnExactStraightRing', WHERE WHAT IT READS IS OF BULK AT MOST 1048576: true; the input reads as it did. -/
def fnExactStraightRingUptoRow : OpenClaim := { program := "ytlioamjmkaaooaa", sum := "709f06e1b12b8764d38edf80d645834b71d9cf931d30d051501487298848f6c5", func := "loop.example/g01179/laws.FnExactStraightRing", spec := "fnExactStraightRing", apart := false, narrowed := true }
def FnExactStraightRingUptoSaid : Prop := fnExactStraightRingUptoRow.holds Try.pinned (OpenSpec.upto fnExactStraightRingSpec)

/-- 'laws.FnExactMoveRing', WHERE WHAT IT READS IS OF BULK AT MOST 1048576: true; the input reads as it did. -/
def fnExactMoveRingUptoRow : OpenClaim := { program := "ytlioamjmkaaooaa", sum := "709f06e1b12b8764d38edf80d645834b71d9cf931d30d051501487298848f6c5", func := "loop.example/g01179/laws.FnExactMoveRing", spec := "fnExactMoveRing", apart := false, narrowed := true }
def FnExactMoveRingUptoSaid : Prop := fnExactMoveRingUptoRow.holds Try.pinned (OpenSpec.upto fnExactMoveRingSpec)

/-- 'laws.FnExactPushAll', WHERE WHAT IT READS IS OF BULK AT MOST 1048576: true; the input reads as it did. -/
def fnExactPushAllUptoRow : OpenClaim := { program := "ytlioamjmkaaooaa", sum := "709f06e1b12b8764d38edf80d645834b71d9cf931d30d051501487298848f6c5", func := "loop.example/g01179/laws.FnExactPushAll", spec := "fnExactPushAll", apart := false, narrowed := true }
def FnExactPushAllUptoSaid : Prop := fnExactPushAllUptoRow.holds Try.pinned (OpenSpec.upto fnExactPushAllSpec)

end Rows
end Go.Proofs.Ytlioamjmkaaooaa
