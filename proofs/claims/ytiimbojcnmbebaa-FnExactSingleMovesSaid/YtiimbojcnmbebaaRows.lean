/-
  No cell of these rows narrows 'for every input' (looked for: loops, veiled, ifaces, maps, wideKeys, modest, calm, conditions, laid).
  DERIVED. THE GIVEN ROWS OF THIS SEAT. 12 by the template 'for every input the law returns true; each argument reads behind the call as it read before'; 0 by the template 'total and deterministic' (their statements: YtiimbojcnmbebaaTotals.lean).
  GIVEN WITH THE SEED: the statements are not yours to turn. If you find one false, say at which input.
  Laid BY PROGRAM, IN A SANDBOX (cutbox-rows.mjs): the forced cells as the released guide's own fill.sh prints them over the translation ca58b07b5b0246c8… (all of the seat's roots in one cut). By AI agents, Wed Nov 11 2026. No macro, syntax, notation, axiom, sorry.
-/
import Derived.Test.YtiimbojcnmbebaaChecked
import GoSem.Claim
import GoSem.ClaimJoined
import GoSem.ClaimMapViews
import Derived.JoinedTies
import Derived.KernelRfl
namespace Go.Proofs.Ytiimbojcnmbebaa
/- THE CELL 'sum', in the pinned program and in every row, IS THE sha256 OF THE DUMP (.gsa) THAT YtiimbojcnmbebaaProg.lean LOADS. Nothing in Lean hashes anything: it is a label: what it is worth is what the hold of that sum in a sandbox is worth. -/
noncomputable def Try.pinned : Pinned := { name := "ytiimbojcnmbebaa", sum := "ca58b07b5b0246c8437e8569618f9ab3366f4b3777b459f34be6b5d9b1b580a6", checked := Try.checked }
namespace Rows
def none {H : Type} : Left H := { results := [], args := [] }

/-- 'laws.FnExactIsGrowRule': WHATEVER THE INPUT: true; the input reads as it did. -/
def fnExactIsGrowRuleSpec : ChangeSpec := { name := "fnExactIsGrowRule", fn := fun _ => fun
  | [d] => { results := [.lit (.bool true)], args := [d] }
  | _ => none }
def fnExactIsGrowRuleRow : OpenClaim := { program := "ytiimbojcnmbebaa", sum := "ca58b07b5b0246c8437e8569618f9ab3366f4b3777b459f34be6b5d9b1b580a6", func := "loop.example/g01179/laws.FnExactIsGrowRule", spec := "fnExactIsGrowRule", apart := false }
def FnExactIsGrowRuleSaid : Prop := fnExactIsGrowRuleRow.holds Try.pinned (OpenSpec.ofChange fnExactIsGrowRuleSpec)

/-- ITS FALSE NEIGHBOUR: 'it returns false'. Refute it at one input. -/
def fnExactIsGrowRuleWrong : ChangeSpec := { name := "fnExactIsGrowRule", fn := fun _ => fun
  | [d] => { results := [.lit (.bool false)], args := [d] }
  | _ => none }
def FnExactIsGrowRuleWrongFalsely : Prop := fnExactIsGrowRuleRow.holds Try.pinned (OpenSpec.ofChange fnExactIsGrowRuleWrong)

/-- 'laws.FnExactNextCap': WHATEVER THE INPUT: true; the input reads as it did. -/
def fnExactNextCapSpec : ChangeSpec := { name := "fnExactNextCap", fn := fun _ => fun
  | [d1, d2, d3, d4] => { results := [.lit (.bool true)], args := [d1, d2, d3, d4] }
  | _ => none }
def fnExactNextCapRow : OpenClaim := { program := "ytiimbojcnmbebaa", sum := "ca58b07b5b0246c8437e8569618f9ab3366f4b3777b459f34be6b5d9b1b580a6", func := "loop.example/g01179/laws.FnExactNextCap", spec := "fnExactNextCap", apart := false }
def FnExactNextCapSaid : Prop := fnExactNextCapRow.holds Try.pinned (OpenSpec.ofChange fnExactNextCapSpec)

/-- ITS FALSE NEIGHBOUR: 'it returns false'. Refute it at one input. -/
def fnExactNextCapWrong : ChangeSpec := { name := "fnExactNextCap", fn := fun _ => fun
  | [d1, d2, d3, d4] => { results := [.lit (.bool false)], args := [d1, d2, d3, d4] }
  | _ => none }
def FnExactNextCapWrongFalsely : Prop := fnExactNextCapRow.holds Try.pinned (OpenSpec.ofChange fnExactNextCapWrong)

/-- 'laws.FnExactCapsOf': WHATEVER THE INPUT: true; the input reads as it did. -/
def fnExactCapsOfSpec : ChangeSpec := { name := "fnExactCapsOf", fn := fun _ => fun
  | [d1, d2] => { results := [.lit (.bool true)], args := [d1, d2] }
  | _ => none }
def fnExactCapsOfRow : OpenClaim := { program := "ytiimbojcnmbebaa", sum := "ca58b07b5b0246c8437e8569618f9ab3366f4b3777b459f34be6b5d9b1b580a6", func := "loop.example/g01179/laws.FnExactCapsOf", spec := "fnExactCapsOf", unfollowed := true, recurses := true, apart := false }
def FnExactCapsOfSaid : Prop := fnExactCapsOfRow.holds Try.pinned (OpenSpec.ofChange fnExactCapsOfSpec)

/-- ITS FALSE NEIGHBOUR: 'it returns false'. Refute it at one input. -/
def fnExactCapsOfWrong : ChangeSpec := { name := "fnExactCapsOf", fn := fun _ => fun
  | [d1, d2] => { results := [.lit (.bool false)], args := [d1, d2] }
  | _ => none }
def FnExactCapsOfWrongFalsely : Prop := fnExactCapsOfRow.holds Try.pinned (OpenSpec.ofChange fnExactCapsOfWrong)

/-- 'laws.FnExactMovesOf': WHATEVER THE INPUT: true; the input reads as it did. -/
def fnExactMovesOfSpec : ChangeSpec := { name := "fnExactMovesOf", fn := fun _ => fun
  | [d1, d2] => { results := [.lit (.bool true)], args := [d1, d2] }
  | _ => none }
def fnExactMovesOfRow : OpenClaim := { program := "ytiimbojcnmbebaa", sum := "ca58b07b5b0246c8437e8569618f9ab3366f4b3777b459f34be6b5d9b1b580a6", func := "loop.example/g01179/laws.FnExactMovesOf", spec := "fnExactMovesOf", unfollowed := true, recurses := true, apart := false }
def FnExactMovesOfSaid : Prop := fnExactMovesOfRow.holds Try.pinned (OpenSpec.ofChange fnExactMovesOfSpec)

/-- ITS FALSE NEIGHBOUR: 'it returns false'. Refute it at one input. -/
def fnExactMovesOfWrong : ChangeSpec := { name := "fnExactMovesOf", fn := fun _ => fun
  | [d1, d2] => { results := [.lit (.bool false)], args := [d1, d2] }
  | _ => none }
def FnExactMovesOfWrongFalsely : Prop := fnExactMovesOfRow.holds Try.pinned (OpenSpec.ofChange fnExactMovesOfWrong)

/-- 'laws.FnExactCostOf': WHATEVER THE INPUT: true; the input reads as it did. -/
def fnExactCostOfSpec : ChangeSpec := { name := "fnExactCostOf", fn := fun _ => fun
  | [d1, d2] => { results := [.lit (.bool true)], args := [d1, d2] }
  | _ => none }
def fnExactCostOfRow : OpenClaim := { program := "ytiimbojcnmbebaa", sum := "ca58b07b5b0246c8437e8569618f9ab3366f4b3777b459f34be6b5d9b1b580a6", func := "loop.example/g01179/laws.FnExactCostOf", spec := "fnExactCostOf", unfollowed := true, recurses := true, apart := false }
def FnExactCostOfSaid : Prop := fnExactCostOfRow.holds Try.pinned (OpenSpec.ofChange fnExactCostOfSpec)

/-- ITS FALSE NEIGHBOUR: 'it returns false'. Refute it at one input. -/
def fnExactCostOfWrong : ChangeSpec := { name := "fnExactCostOf", fn := fun _ => fun
  | [d1, d2] => { results := [.lit (.bool false)], args := [d1, d2] }
  | _ => none }
def FnExactCostOfWrongFalsely : Prop := fnExactCostOfRow.holds Try.pinned (OpenSpec.ofChange fnExactCostOfWrong)

/-- 'laws.FnExactWorstWaste': WHATEVER THE INPUT: true; the input reads as it did. -/
def fnExactWorstWasteSpec : ChangeSpec := { name := "fnExactWorstWaste", fn := fun _ => fun
  | [d1, d2] => { results := [.lit (.bool true)], args := [d1, d2] }
  | _ => none }
def fnExactWorstWasteRow : OpenClaim := { program := "ytiimbojcnmbebaa", sum := "ca58b07b5b0246c8437e8569618f9ab3366f4b3777b459f34be6b5d9b1b580a6", func := "loop.example/g01179/laws.FnExactWorstWaste", spec := "fnExactWorstWaste", unfollowed := true, recurses := true, apart := false }
def FnExactWorstWasteSaid : Prop := fnExactWorstWasteRow.holds Try.pinned (OpenSpec.ofChange fnExactWorstWasteSpec)

/-- ITS FALSE NEIGHBOUR: 'it returns false'. Refute it at one input. -/
def fnExactWorstWasteWrong : ChangeSpec := { name := "fnExactWorstWaste", fn := fun _ => fun
  | [d1, d2] => { results := [.lit (.bool false)], args := [d1, d2] }
  | _ => none }
def FnExactWorstWasteWrongFalsely : Prop := fnExactWorstWasteRow.holds Try.pinned (OpenSpec.ofChange fnExactWorstWasteWrong)

/-- 'laws.FnExactSingleCost': WHATEVER THE INPUT: true; the input reads as it did. -/
def fnExactSingleCostSpec : ChangeSpec := { name := "fnExactSingleCost", fn := fun _ => fun
  | [d1, d2] => { results := [.lit (.bool true)], args := [d1, d2] }
  | _ => none }
def fnExactSingleCostRow : OpenClaim := { program := "ytiimbojcnmbebaa", sum := "ca58b07b5b0246c8437e8569618f9ab3366f4b3777b459f34be6b5d9b1b580a6", func := "loop.example/g01179/laws.FnExactSingleCost", spec := "fnExactSingleCost", unfollowed := true, recurses := true, apart := false }
def FnExactSingleCostSaid : Prop := fnExactSingleCostRow.holds Try.pinned (OpenSpec.ofChange fnExactSingleCostSpec)

/-- ITS FALSE NEIGHBOUR: 'it returns false'. Refute it at one input. -/
def fnExactSingleCostWrong : ChangeSpec := { name := "fnExactSingleCost", fn := fun _ => fun
  | [d1, d2] => { results := [.lit (.bool false)], args := [d1, d2] }
  | _ => none }
def FnExactSingleCostWrongFalsely : Prop := fnExactSingleCostRow.holds Try.pinned (OpenSpec.ofChange fnExactSingleCostWrong)

/-- 'laws.FnExactSingleMoves': WHATEVER THE INPUT: true; the input reads as it did. -/
def fnExactSingleMovesSpec : ChangeSpec := { name := "fnExactSingleMoves", fn := fun _ => fun
  | [d1, d2] => { results := [.lit (.bool true)], args := [d1, d2] }
  | _ => none }
def fnExactSingleMovesRow : OpenClaim := { program := "ytiimbojcnmbebaa", sum := "ca58b07b5b0246c8437e8569618f9ab3366f4b3777b459f34be6b5d9b1b580a6", func := "loop.example/g01179/laws.FnExactSingleMoves", spec := "fnExactSingleMoves", unfollowed := true, recurses := true, apart := false }
def FnExactSingleMovesSaid : Prop := fnExactSingleMovesRow.holds Try.pinned (OpenSpec.ofChange fnExactSingleMovesSpec)

/-- ITS FALSE NEIGHBOUR: 'it returns false'. Refute it at one input. -/
def fnExactSingleMovesWrong : ChangeSpec := { name := "fnExactSingleMoves", fn := fun _ => fun
  | [d1, d2] => { results := [.lit (.bool false)], args := [d1, d2] }
  | _ => none }
def FnExactSingleMovesWrongFalsely : Prop := fnExactSingleMovesRow.holds Try.pinned (OpenSpec.ofChange fnExactSingleMovesWrong)

/-- 'laws.FnExactGrowsFast': WHATEVER THE INPUT: true; the input reads as it did. -/
def fnExactGrowsFastSpec : ChangeSpec := { name := "fnExactGrowsFast", fn := fun _ => fun
  | [d] => { results := [.lit (.bool true)], args := [d] }
  | _ => none }
def fnExactGrowsFastRow : OpenClaim := { program := "ytiimbojcnmbebaa", sum := "ca58b07b5b0246c8437e8569618f9ab3366f4b3777b459f34be6b5d9b1b580a6", func := "loop.example/g01179/laws.FnExactGrowsFast", spec := "fnExactGrowsFast", apart := false }
def FnExactGrowsFastSaid : Prop := fnExactGrowsFastRow.holds Try.pinned (OpenSpec.ofChange fnExactGrowsFastSpec)

/-- ITS FALSE NEIGHBOUR: 'it returns false'. Refute it at one input. -/
def fnExactGrowsFastWrong : ChangeSpec := { name := "fnExactGrowsFast", fn := fun _ => fun
  | [d] => { results := [.lit (.bool false)], args := [d] }
  | _ => none }
def FnExactGrowsFastWrongFalsely : Prop := fnExactGrowsFastRow.holds Try.pinned (OpenSpec.ofChange fnExactGrowsFastWrong)

/-- 'laws.FnExactShrinkCaps': WHATEVER THE INPUT: true; the input reads as it did. -/
def fnExactShrinkCapsSpec : ChangeSpec := { name := "fnExactShrinkCaps", fn := fun _ => fun
  | [d1, d2, d3] => { results := [.lit (.bool true)], args := [d1, d2, d3] }
  | _ => none }
def fnExactShrinkCapsRow : OpenClaim := { program := "ytiimbojcnmbebaa", sum := "ca58b07b5b0246c8437e8569618f9ab3366f4b3777b459f34be6b5d9b1b580a6", func := "loop.example/g01179/laws.FnExactShrinkCaps", spec := "fnExactShrinkCaps", unfollowed := true, recurses := true, apart := false }
def FnExactShrinkCapsSaid : Prop := fnExactShrinkCapsRow.holds Try.pinned (OpenSpec.ofChange fnExactShrinkCapsSpec)

/-- ITS FALSE NEIGHBOUR: 'it returns false'. Refute it at one input. -/
def fnExactShrinkCapsWrong : ChangeSpec := { name := "fnExactShrinkCaps", fn := fun _ => fun
  | [d1, d2, d3] => { results := [.lit (.bool false)], args := [d1, d2, d3] }
  | _ => none }
def FnExactShrinkCapsWrongFalsely : Prop := fnExactShrinkCapsRow.holds Try.pinned (OpenSpec.ofChange fnExactShrinkCapsWrong)

/-- 'laws.FnExactShrinkCost': WHATEVER THE INPUT: true; the input reads as it did. -/
def fnExactShrinkCostSpec : ChangeSpec := { name := "fnExactShrinkCost", fn := fun _ => fun
  | [d1, d2, d3] => { results := [.lit (.bool true)], args := [d1, d2, d3] }
  | _ => none }
def fnExactShrinkCostRow : OpenClaim := { program := "ytiimbojcnmbebaa", sum := "ca58b07b5b0246c8437e8569618f9ab3366f4b3777b459f34be6b5d9b1b580a6", func := "loop.example/g01179/laws.FnExactShrinkCost", spec := "fnExactShrinkCost", unfollowed := true, recurses := true, apart := false }
def FnExactShrinkCostSaid : Prop := fnExactShrinkCostRow.holds Try.pinned (OpenSpec.ofChange fnExactShrinkCostSpec)

/-- ITS FALSE NEIGHBOUR: 'it returns false'. Refute it at one input. -/
def fnExactShrinkCostWrong : ChangeSpec := { name := "fnExactShrinkCost", fn := fun _ => fun
  | [d1, d2, d3] => { results := [.lit (.bool false)], args := [d1, d2, d3] }
  | _ => none }
def FnExactShrinkCostWrongFalsely : Prop := fnExactShrinkCostRow.holds Try.pinned (OpenSpec.ofChange fnExactShrinkCostWrong)

/-- 'laws.FnExactGrowWindow': WHATEVER THE INPUT: true; the input reads as it did. -/
def fnExactGrowWindowSpec : ChangeSpec := { name := "fnExactGrowWindow", fn := fun _ => fun
  | [d1, d2, d3] => { results := [.lit (.bool true)], args := [d1, d2, d3] }
  | _ => none }
def fnExactGrowWindowRow : OpenClaim := { program := "ytiimbojcnmbebaa", sum := "ca58b07b5b0246c8437e8569618f9ab3366f4b3777b459f34be6b5d9b1b580a6", func := "loop.example/g01179/laws.FnExactGrowWindow", spec := "fnExactGrowWindow", apart := false }
def FnExactGrowWindowSaid : Prop := fnExactGrowWindowRow.holds Try.pinned (OpenSpec.ofChange fnExactGrowWindowSpec)

/-- ITS FALSE NEIGHBOUR: 'it returns false'. Refute it at one input. -/
def fnExactGrowWindowWrong : ChangeSpec := { name := "fnExactGrowWindow", fn := fun _ => fun
  | [d1, d2, d3] => { results := [.lit (.bool false)], args := [d1, d2, d3] }
  | _ => none }
def FnExactGrowWindowWrongFalsely : Prop := fnExactGrowWindowRow.holds Try.pinned (OpenSpec.ofChange fnExactGrowWindowWrong)

/- THE SECOND FORM. 'bulk': how many values and letters a reading holds, each counted each time it is reached (what is shared counts as often as it is met; a slice's spare places count too). A statement '..UptoSaid' is the law's where the arguments, and the package variables that the reading takes, are together of bulk at most 1048576: NARROWER than '..Said'. Prove '..Said' where nothing that the law and all that it calls make is longer than what came in: it says more and counts as full. Else prove '..UptoSaid'. A law counts once. -/
mutual
def uptoBulk {H : Type} : DataW H → Nat
  | .lit (.string bytes) => bytes.length + 1
  | .lit _ => 1
  | .nil => 1
  | .ptr d => uptoBulk d + 1
  | .slice elems spare => uptoBulkAll elems + uptoBulkAll spare + 1
  | .agg parts => uptoBulkAll parts + 1
  | .iface _ d => uptoBulk d + 1
  | .map entries => uptoBulkEntries entries + 1
  | .held _ => 1
def uptoBulkAll {H : Type} : List (DataW H) → Nat
  | [] => 0
  | d :: r => uptoBulk d + uptoBulkAll r
def uptoBulkEntries {H : Type} : List (Lit × DataW H) → Nat
  | [] => 0
  | x :: r => uptoBulkEntry x + uptoBulkEntries r
def uptoBulkEntry {H : Type} : Lit × DataW H → Nat
  | (.string bytes, d) => bytes.length + uptoBulk d + 1
  | (_, d) => uptoBulk d + 1
 end
def uptoSmall : (H : Type) → List (DataW H) → Bool := fun _ ds => decide (uptoBulkAll ds ≤ 1048576)
def OpenSpec.upto (s : _root_.Go.ChangeSpec) : _root_.Go.OpenSpec := { _root_.Go.OpenSpec.ofChange s with cond := some uptoSmall }

/-- 'laws.FnExactIsGrowRule', WHERE WHAT IT READS IS OF BULK AT MOST 1048576: true; the input reads as it did. -/
def fnExactIsGrowRuleUptoRow : OpenClaim := { program := "ytiimbojcnmbebaa", sum := "ca58b07b5b0246c8437e8569618f9ab3366f4b3777b459f34be6b5d9b1b580a6", func := "loop.example/g01179/laws.FnExactIsGrowRule", spec := "fnExactIsGrowRule", apart := false, narrowed := true }
def FnExactIsGrowRuleUptoSaid : Prop := fnExactIsGrowRuleUptoRow.holds Try.pinned (OpenSpec.upto fnExactIsGrowRuleSpec)

/-- 'laws.FnExactNextCap', WHERE WHAT IT READS IS OF BULK AT MOST 1048576: true; the input reads as it did. -/
def fnExactNextCapUptoRow : OpenClaim := { program := "ytiimbojcnmbebaa", sum := "ca58b07b5b0246c8437e8569618f9ab3366f4b3777b459f34be6b5d9b1b580a6", func := "loop.example/g01179/laws.FnExactNextCap", spec := "fnExactNextCap", apart := false, narrowed := true }
def FnExactNextCapUptoSaid : Prop := fnExactNextCapUptoRow.holds Try.pinned (OpenSpec.upto fnExactNextCapSpec)

/-- 'laws.FnExactCapsOf', WHERE WHAT IT READS IS OF BULK AT MOST 1048576: true; the input reads as it did. -/
def fnExactCapsOfUptoRow : OpenClaim := { program := "ytiimbojcnmbebaa", sum := "ca58b07b5b0246c8437e8569618f9ab3366f4b3777b459f34be6b5d9b1b580a6", func := "loop.example/g01179/laws.FnExactCapsOf", spec := "fnExactCapsOf", unfollowed := true, recurses := true, apart := false, narrowed := true }
def FnExactCapsOfUptoSaid : Prop := fnExactCapsOfUptoRow.holds Try.pinned (OpenSpec.upto fnExactCapsOfSpec)

/-- 'laws.FnExactMovesOf', WHERE WHAT IT READS IS OF BULK AT MOST 1048576: true; the input reads as it did. -/
def fnExactMovesOfUptoRow : OpenClaim := { program := "ytiimbojcnmbebaa", sum := "ca58b07b5b0246c8437e8569618f9ab3366f4b3777b459f34be6b5d9b1b580a6", func := "loop.example/g01179/laws.FnExactMovesOf", spec := "fnExactMovesOf", unfollowed := true, recurses := true, apart := false, narrowed := true }
def FnExactMovesOfUptoSaid : Prop := fnExactMovesOfUptoRow.holds Try.pinned (OpenSpec.upto fnExactMovesOfSpec)

/-- 'laws.FnExactCostOf', WHERE WHAT IT READS IS OF BULK AT MOST 1048576: true; the input reads as it did. -/
def fnExactCostOfUptoRow : OpenClaim := { program := "ytiimbojcnmbebaa", sum := "ca58b07b5b0246c8437e8569618f9ab3366f4b3777b459f34be6b5d9b1b580a6", func := "loop.example/g01179/laws.FnExactCostOf", spec := "fnExactCostOf", unfollowed := true, recurses := true, apart := false, narrowed := true }
def FnExactCostOfUptoSaid : Prop := fnExactCostOfUptoRow.holds Try.pinned (OpenSpec.upto fnExactCostOfSpec)

/-- 'laws.FnExactWorstWaste', WHERE WHAT IT READS IS OF BULK AT MOST 1048576: true; the input reads as it did. -/
def fnExactWorstWasteUptoRow : OpenClaim := { program := "ytiimbojcnmbebaa", sum := "ca58b07b5b0246c8437e8569618f9ab3366f4b3777b459f34be6b5d9b1b580a6", func := "loop.example/g01179/laws.FnExactWorstWaste", spec := "fnExactWorstWaste", unfollowed := true, recurses := true, apart := false, narrowed := true }
def FnExactWorstWasteUptoSaid : Prop := fnExactWorstWasteUptoRow.holds Try.pinned (OpenSpec.upto fnExactWorstWasteSpec)

/-- 'laws.FnExactSingleCost', WHERE WHAT IT READS IS OF BULK AT MOST 1048576: true; the input reads as it did. -/
def fnExactSingleCostUptoRow : OpenClaim := { program := "ytiimbojcnmbebaa", sum := "ca58b07b5b0246c8437e8569618f9ab3366f4b3777b459f34be6b5d9b1b580a6", func := "loop.example/g01179/laws.FnExactSingleCost", spec := "fnExactSingleCost", unfollowed := true, recurses := true, apart := false, narrowed := true }
def FnExactSingleCostUptoSaid : Prop := fnExactSingleCostUptoRow.holds Try.pinned (OpenSpec.upto fnExactSingleCostSpec)

/-- 'laws.FnExactSingleMoves', WHERE WHAT IT READS IS OF BULK AT MOST 1048576: true; the input reads as it did. -/
def fnExactSingleMovesUptoRow : OpenClaim := { program := "ytiimbojcnmbebaa", sum := "ca58b07b5b0246c8437e8569618f9ab3366f4b3777b459f34be6b5d9b1b580a6", func := "loop.example/g01179/laws.FnExactSingleMoves", spec := "fnExactSingleMoves", unfollowed := true, recurses := true, apart := false, narrowed := true }
def FnExactSingleMovesUptoSaid : Prop := fnExactSingleMovesUptoRow.holds Try.pinned (OpenSpec.upto fnExactSingleMovesSpec)

/-- 'laws.FnExactGrowsFast', WHERE WHAT IT READS IS OF BULK AT MOST 1048576: true; the input reads as it did. -/
def fnExactGrowsFastUptoRow : OpenClaim := { program := "ytiimbojcnmbebaa", sum := "ca58b07b5b0246c8437e8569618f9ab3366f4b3777b459f34be6b5d9b1b580a6", func := "loop.example/g01179/laws.FnExactGrowsFast", spec := "fnExactGrowsFast", apart := false, narrowed := true }
def FnExactGrowsFastUptoSaid : Prop := fnExactGrowsFastUptoRow.holds Try.pinned (OpenSpec.upto fnExactGrowsFastSpec)

/-- 'laws.FnExactShrinkCaps', WHERE WHAT IT READS IS OF BULK AT MOST 1048576: true; the input reads as it did. -/
def fnExactShrinkCapsUptoRow : OpenClaim := { program := "ytiimbojcnmbebaa", sum := "ca58b07b5b0246c8437e8569618f9ab3366f4b3777b459f34be6b5d9b1b580a6", func := "loop.example/g01179/laws.FnExactShrinkCaps", spec := "fnExactShrinkCaps", unfollowed := true, recurses := true, apart := false, narrowed := true }
def FnExactShrinkCapsUptoSaid : Prop := fnExactShrinkCapsUptoRow.holds Try.pinned (OpenSpec.upto fnExactShrinkCapsSpec)

/-- 'laws.FnExactShrinkCost', WHERE WHAT IT READS IS OF BULK AT MOST 1048576: true; the input reads as it did. -/
def fnExactShrinkCostUptoRow : OpenClaim := { program := "ytiimbojcnmbebaa", sum := "ca58b07b5b0246c8437e8569618f9ab3366f4b3777b459f34be6b5d9b1b580a6", func := "loop.example/g01179/laws.FnExactShrinkCost", spec := "fnExactShrinkCost", unfollowed := true, recurses := true, apart := false, narrowed := true }
def FnExactShrinkCostUptoSaid : Prop := fnExactShrinkCostUptoRow.holds Try.pinned (OpenSpec.upto fnExactShrinkCostSpec)

/-- 'laws.FnExactGrowWindow', WHERE WHAT IT READS IS OF BULK AT MOST 1048576: true; the input reads as it did. -/
def fnExactGrowWindowUptoRow : OpenClaim := { program := "ytiimbojcnmbebaa", sum := "ca58b07b5b0246c8437e8569618f9ab3366f4b3777b459f34be6b5d9b1b580a6", func := "loop.example/g01179/laws.FnExactGrowWindow", spec := "fnExactGrowWindow", apart := false, narrowed := true }
def FnExactGrowWindowUptoSaid : Prop := fnExactGrowWindowUptoRow.holds Try.pinned (OpenSpec.upto fnExactGrowWindowSpec)

end Rows
end Go.Proofs.Ytiimbojcnmbebaa
