/-
  No cell of these rows narrows 'for every input' (looked for: loops, veiled, ifaces, maps, wideKeys, modest, calm, conditions, laid).
  DERIVED. THE GIVEN ROWS OF THIS SEAT. 2 by the template 'for every input the law returns true; each argument reads behind the call as it read before'; 0 by the template 'total and deterministic' (their statements: YtbdaaeffbhcflacTotals.lean).
  GIVEN WITH THE SEED: the statements are not yours to turn. If you find one false, say at which input.
  Laid BY PROGRAM, IN A SANDBOX (cutbox-rows.mjs): the forced cells as the released guide's own fill.sh prints them over the translation 0bd7b5f4534117a2… (all of the seat's roots in one cut). By AI agents, Wed Nov 11 2026. No macro, syntax, notation, axiom, sorry.
-/
import Derived.Test.YtbdaaeffbhcflacChecked
import GoSem.Claim
import GoSem.ClaimJoined
import GoSem.ClaimMapViews
import Derived.JoinedTies
import Derived.KernelRfl
namespace Go.Proofs.Ytbdaaeffbhcflac
/- THE CELL 'sum', in the pinned program and in every row, IS THE sha256 OF THE DUMP (.gsa) THAT YtbdaaeffbhcflacProg.lean LOADS. Nothing in Lean hashes anything: it is a label: what it is worth is what the hold of that sum in a sandbox is worth. -/
noncomputable def Try.pinned : Pinned := { name := "ytbdaaeffbhcflac", sum := "0bd7b5f4534117a202d59ef7c5c3ea7222813f4c50a0957fed7643a1880a0284", checked := Try.checked }
namespace Rows
def none {H : Type} : Left H := { results := [], args := [] }

/-- 'laws.FnExactMemoryText': WHATEVER THE INPUT: true; the input reads as it did. -/
def fnExactMemoryTextSpec : ChangeSpec := { name := "fnExactMemoryText", fn := fun _ => fun
  | [d] => { results := [.lit (.bool true)], args := [d] }
  | _ => none }
def fnExactMemoryTextRow : OpenClaim := { program := "ytbdaaeffbhcflac", sum := "0bd7b5f4534117a202d59ef7c5c3ea7222813f4c50a0957fed7643a1880a0284", func := "loop.example/g01179/laws.FnExactMemoryText", spec := "fnExactMemoryText", inPlace := ["internal/bytealg.IndexByteString", "internal/bytealg.IndexString", "internal/abi.NoEscape", "internal/bytealg.MakeNoZero"], named := ["internal/bytealg.MaxLen"], apart := false }
def FnExactMemoryTextSaid : Prop := fnExactMemoryTextRow.holds Try.pinned (OpenSpec.ofChange fnExactMemoryTextSpec)

/-- ITS FALSE NEIGHBOUR: 'it returns false'. Refute it at one input. -/
def fnExactMemoryTextWrong : ChangeSpec := { name := "fnExactMemoryText", fn := fun _ => fun
  | [d] => { results := [.lit (.bool false)], args := [d] }
  | _ => none }
def FnExactMemoryTextWrongFalsely : Prop := fnExactMemoryTextRow.holds Try.pinned (OpenSpec.ofChange fnExactMemoryTextWrong)

/-- 'laws.FnExactParseMemory': WHATEVER THE INPUT: true; the input reads as it did. -/
def fnExactParseMemorySpec : ChangeSpec := { name := "fnExactParseMemory", fn := fun _ => fun
  | [d] => { results := [.lit (.bool true)], args := [d] }
  | _ => none }
def fnExactParseMemoryRow : OpenClaim := { program := "ytbdaaeffbhcflac", sum := "0bd7b5f4534117a202d59ef7c5c3ea7222813f4c50a0957fed7643a1880a0284", func := "loop.example/g01179/laws.FnExactParseMemory", spec := "fnExactParseMemory", inPlace := ["internal/bytealg.IndexByteString"], unfollowed := true, recurses := true, apart := false }
def FnExactParseMemorySaid : Prop := fnExactParseMemoryRow.holds Try.pinned (OpenSpec.ofChange fnExactParseMemorySpec)

/-- ITS FALSE NEIGHBOUR: 'it returns false'. Refute it at one input. -/
def fnExactParseMemoryWrong : ChangeSpec := { name := "fnExactParseMemory", fn := fun _ => fun
  | [d] => { results := [.lit (.bool false)], args := [d] }
  | _ => none }
def FnExactParseMemoryWrongFalsely : Prop := fnExactParseMemoryRow.holds Try.pinned (OpenSpec.ofChange fnExactParseMemoryWrong)

/- THE SECOND FORM. 'bulk': how many values and letters a reading holds, each counted each time it is reached (what is shared counts as often as it is met; a slice's spare places count too). A statement '..UptoSaid' is the law's where the arguments, and the package variables that the reading takes, are together of bulk at most 1048576: NARROWER than '..Said'. Prove '..Said' where nothing that the law and all that it calls make is longer than what came in: it says more and counts as full. Else prove '..UptoSaid'. A law counts once. -/
mutual
def uptoBulk {H : Type} : DataW H → Nat
  | .lit (.string bytes) => bytes.length + 1
  | .lit _ => 1
  | .nil => 1
  | .ptr d => uptoBulk d + 1
  | .slice elems spare => uptoBulkAll elems + uptoBulkAll spare + 1
  | .agg parts => uptoBulkAll parts + 1
  | .iface _ d => uptoBulk d + 1
  | .map entries => uptoBulkEntries entries + 1
  | .held _ => 1
def uptoBulkAll {H : Type} : List (DataW H) → Nat
  | [] => 0
  | d :: r => uptoBulk d + uptoBulkAll r
def uptoBulkEntries {H : Type} : List (Lit × DataW H) → Nat
  | [] => 0
  | x :: r => uptoBulkEntry x + uptoBulkEntries r
def uptoBulkEntry {H : Type} : Lit × DataW H → Nat
  | (.string bytes, d) => bytes.length + uptoBulk d + 1
  | (_, d) => uptoBulk d + 1
 end
def uptoSmall : (H : Type) → List (DataW H) → Bool := fun _ ds => decide (uptoBulkAll ds ≤ 1048576)
def OpenSpec.upto (s : _root_.Go.ChangeSpec) : _root_.Go.OpenSpec := { _root_.Go.OpenSpec.ofChange s with cond := some uptoSmall }

/-- 'laws.FnExactMemoryText', WHERE WHAT IT READS IS OF BULK AT MOST 1048576: true; the input reads as it did. -/
def fnExactMemoryTextUptoRow : OpenClaim := { program := "ytbdaaeffbhcflac", sum := "0bd7b5f4534117a202d59ef7c5c3ea7222813f4c50a0957fed7643a1880a0284", func := "loop.example/g01179/laws.FnExactMemoryText", spec := "fnExactMemoryText", inPlace := ["internal/bytealg.IndexByteString", "internal/bytealg.IndexString", "internal/abi.NoEscape", "internal/bytealg.MakeNoZero"], named := ["internal/bytealg.MaxLen"], apart := false, narrowed := true }
def FnExactMemoryTextUptoSaid : Prop := fnExactMemoryTextUptoRow.holds Try.pinned (OpenSpec.upto fnExactMemoryTextSpec)

/-- 'laws.FnExactParseMemory', WHERE WHAT IT READS IS OF BULK AT MOST 1048576: true; the input reads as it did. -/
def fnExactParseMemoryUptoRow : OpenClaim := { program := "ytbdaaeffbhcflac", sum := "0bd7b5f4534117a202d59ef7c5c3ea7222813f4c50a0957fed7643a1880a0284", func := "loop.example/g01179/laws.FnExactParseMemory", spec := "fnExactParseMemory", inPlace := ["internal/bytealg.IndexByteString"], unfollowed := true, recurses := true, apart := false, narrowed := true }
def FnExactParseMemoryUptoSaid : Prop := fnExactParseMemoryUptoRow.holds Try.pinned (OpenSpec.upto fnExactParseMemorySpec)

end Rows
end Go.Proofs.Ytbdaaeffbhcflac
