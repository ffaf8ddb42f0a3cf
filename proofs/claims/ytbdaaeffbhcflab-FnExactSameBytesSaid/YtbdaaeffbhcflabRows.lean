/-
  No cell of these rows narrows 'for every input' (looked for: loops, veiled, ifaces, maps, wideKeys, modest, calm, conditions, laid).
  DERIVED. THE GIVEN ROWS OF THIS SEAT. 11 by the template 'for every input the law returns true; each argument reads behind the call as it read before'; 0 by the template 'total and deterministic' (their statements: YtbdaaeffbhcflabTotals.lean).
  GIVEN WITH THE SEED: the statements are not yours to turn. If you find one false, say at which input.
  Laid BY PROGRAM, IN A SANDBOX (cutbox-rows.mjs): the forced cells as the released guide's own fill.sh prints them over the translation cf67b6d391682506… (all of the seat's roots in one cut). By AI agents, Wed Nov 11 2026. No macro, syntax, notation, axiom, sorry.
-/
import Derived.Test.YtbdaaeffbhcflabChecked
import GoSem.Claim
import GoSem.ClaimJoined
import GoSem.ClaimMapViews
import Derived.JoinedTies
import Derived.KernelRfl
namespace Go.Proofs.Ytbdaaeffbhcflab
/- THE CELL 'sum', in the pinned program and in every row, IS THE sha256 OF THE DUMP (.gsa) THAT YtbdaaeffbhcflabProg.lean LOADS. Nothing in Lean hashes anything: it is a label: what it is worth is what the hold of that sum in a sandbox is worth. -/
noncomputable def Try.pinned : Pinned := { name := "ytbdaaeffbhcflab", sum := "cf67b6d391682506c5146374b090095560686f4ad930a14dcc8f89fc8e864f00", checked := Try.checked }
namespace Rows
def none {H : Type} : Left H := { results := [], args := [] }

/-- 'laws.FnExactSliceThree': WHATEVER THE INPUT: true; the input reads as it did. -/
def fnExactSliceThreeSpec : ChangeSpec := { name := "fnExactSliceThree", fn := fun _ => fun
  | [d1, d2, d3, d4, d5] => { results := [.lit (.bool true)], args := [d1, d2, d3, d4, d5] }
  | _ => none }
def fnExactSliceThreeRow : OpenClaim := { program := "ytbdaaeffbhcflab", sum := "cf67b6d391682506c5146374b090095560686f4ad930a14dcc8f89fc8e864f00", func := "loop.example/g01179/laws.FnExactSliceThree", spec := "fnExactSliceThree", apart := false }
def FnExactSliceThreeSaid : Prop := fnExactSliceThreeRow.holds Try.pinned (OpenSpec.ofChange fnExactSliceThreeSpec)

/-- ITS FALSE NEIGHBOUR: 'it returns false'. Refute it at one input. -/
def fnExactSliceThreeWrong : ChangeSpec := { name := "fnExactSliceThree", fn := fun _ => fun
  | [d1, d2, d3, d4, d5] => { results := [.lit (.bool false)], args := [d1, d2, d3, d4, d5] }
  | _ => none }
def FnExactSliceThreeWrongFalsely : Prop := fnExactSliceThreeRow.holds Try.pinned (OpenSpec.ofChange fnExactSliceThreeWrong)

/-- 'laws.FnExactClipWindow': WHATEVER THE INPUT: true; the input reads as it did. -/
def fnExactClipWindowSpec : ChangeSpec := { name := "fnExactClipWindow", fn := fun _ => fun
  | [d1, d2] => { results := [.lit (.bool true)], args := [d1, d2] }
  | _ => none }
def fnExactClipWindowRow : OpenClaim := { program := "ytbdaaeffbhcflab", sum := "cf67b6d391682506c5146374b090095560686f4ad930a14dcc8f89fc8e864f00", func := "loop.example/g01179/laws.FnExactClipWindow", spec := "fnExactClipWindow", apart := false }
def FnExactClipWindowSaid : Prop := fnExactClipWindowRow.holds Try.pinned (OpenSpec.ofChange fnExactClipWindowSpec)

/-- ITS FALSE NEIGHBOUR: 'it returns false'. Refute it at one input. -/
def fnExactClipWindowWrong : ChangeSpec := { name := "fnExactClipWindow", fn := fun _ => fun
  | [d1, d2] => { results := [.lit (.bool false)], args := [d1, d2] }
  | _ => none }
def FnExactClipWindowWrongFalsely : Prop := fnExactClipWindowRow.holds Try.pinned (OpenSpec.ofChange fnExactClipWindowWrong)

/-- 'laws.FnExactCopyInto': WHATEVER THE INPUT: true; the input reads as it did. -/
def fnExactCopyIntoSpec : ChangeSpec := { name := "fnExactCopyInto", fn := fun _ => fun
  | [d1, d2, d3] => { results := [.lit (.bool true)], args := [d1, d2, d3] }
  | _ => none }
def fnExactCopyIntoRow : OpenClaim := { program := "ytbdaaeffbhcflab", sum := "cf67b6d391682506c5146374b090095560686f4ad930a14dcc8f89fc8e864f00", func := "loop.example/g01179/laws.FnExactCopyInto", spec := "fnExactCopyInto", apart := false }
def FnExactCopyIntoSaid : Prop := fnExactCopyIntoRow.holds Try.pinned (OpenSpec.ofChange fnExactCopyIntoSpec)

/-- ITS FALSE NEIGHBOUR: 'it returns false'. Refute it at one input. -/
def fnExactCopyIntoWrong : ChangeSpec := { name := "fnExactCopyInto", fn := fun _ => fun
  | [d1, d2, d3] => { results := [.lit (.bool false)], args := [d1, d2, d3] }
  | _ => none }
def FnExactCopyIntoWrongFalsely : Prop := fnExactCopyIntoRow.holds Try.pinned (OpenSpec.ofChange fnExactCopyIntoWrong)

/-- 'laws.FnExactAppendBytes': WHATEVER THE INPUT: true; the input reads as it did. -/
def fnExactAppendBytesSpec : ChangeSpec := { name := "fnExactAppendBytes", fn := fun _ => fun
  | [d1, d2, d3] => { results := [.lit (.bool true)], args := [d1, d2, d3] }
  | _ => none }
def fnExactAppendBytesRow : OpenClaim := { program := "ytbdaaeffbhcflab", sum := "cf67b6d391682506c5146374b090095560686f4ad930a14dcc8f89fc8e864f00", func := "loop.example/g01179/laws.FnExactAppendBytes", spec := "fnExactAppendBytes", apart := false }
def FnExactAppendBytesSaid : Prop := fnExactAppendBytesRow.holds Try.pinned (OpenSpec.ofChange fnExactAppendBytesSpec)

/-- ITS FALSE NEIGHBOUR: 'it returns false'. Refute it at one input. -/
def fnExactAppendBytesWrong : ChangeSpec := { name := "fnExactAppendBytes", fn := fun _ => fun
  | [d1, d2, d3] => { results := [.lit (.bool false)], args := [d1, d2, d3] }
  | _ => none }
def FnExactAppendBytesWrongFalsely : Prop := fnExactAppendBytesRow.holds Try.pinned (OpenSpec.ofChange fnExactAppendBytesWrong)

/-- 'laws.FnExactAppendWindow': WHATEVER THE INPUT: true; the input reads as it did. -/
def fnExactAppendWindowSpec : ChangeSpec := { name := "fnExactAppendWindow", fn := fun _ => fun
  | [d1, d2, d3] => { results := [.lit (.bool true)], args := [d1, d2, d3] }
  | _ => none }
def fnExactAppendWindowRow : OpenClaim := { program := "ytbdaaeffbhcflab", sum := "cf67b6d391682506c5146374b090095560686f4ad930a14dcc8f89fc8e864f00", func := "loop.example/g01179/laws.FnExactAppendWindow", spec := "fnExactAppendWindow", apart := false }
def FnExactAppendWindowSaid : Prop := fnExactAppendWindowRow.holds Try.pinned (OpenSpec.ofChange fnExactAppendWindowSpec)

/-- ITS FALSE NEIGHBOUR: 'it returns false'. Refute it at one input. -/
def fnExactAppendWindowWrong : ChangeSpec := { name := "fnExactAppendWindow", fn := fun _ => fun
  | [d1, d2, d3] => { results := [.lit (.bool false)], args := [d1, d2, d3] }
  | _ => none }
def FnExactAppendWindowWrongFalsely : Prop := fnExactAppendWindowRow.holds Try.pinned (OpenSpec.ofChange fnExactAppendWindowWrong)

/-- 'laws.FnExactFillWindow': WHATEVER THE INPUT: true; the input reads as it did. -/
def fnExactFillWindowSpec : ChangeSpec := { name := "fnExactFillWindow", fn := fun _ => fun
  | [d1, d2, d3] => { results := [.lit (.bool true)], args := [d1, d2, d3] }
  | _ => none }
def fnExactFillWindowRow : OpenClaim := { program := "ytbdaaeffbhcflab", sum := "cf67b6d391682506c5146374b090095560686f4ad930a14dcc8f89fc8e864f00", func := "loop.example/g01179/laws.FnExactFillWindow", spec := "fnExactFillWindow", apart := false }
def FnExactFillWindowSaid : Prop := fnExactFillWindowRow.holds Try.pinned (OpenSpec.ofChange fnExactFillWindowSpec)

/-- ITS FALSE NEIGHBOUR: 'it returns false'. Refute it at one input. -/
def fnExactFillWindowWrong : ChangeSpec := { name := "fnExactFillWindow", fn := fun _ => fun
  | [d1, d2, d3] => { results := [.lit (.bool false)], args := [d1, d2, d3] }
  | _ => none }
def FnExactFillWindowWrongFalsely : Prop := fnExactFillWindowRow.holds Try.pinned (OpenSpec.ofChange fnExactFillWindowWrong)

/-- 'laws.FnExactReverseWindow': WHATEVER THE INPUT: true; the input reads as it did. -/
def fnExactReverseWindowSpec : ChangeSpec := { name := "fnExactReverseWindow", fn := fun _ => fun
  | [d1, d2] => { results := [.lit (.bool true)], args := [d1, d2] }
  | _ => none }
def fnExactReverseWindowRow : OpenClaim := { program := "ytbdaaeffbhcflab", sum := "cf67b6d391682506c5146374b090095560686f4ad930a14dcc8f89fc8e864f00", func := "loop.example/g01179/laws.FnExactReverseWindow", spec := "fnExactReverseWindow", apart := false }
def FnExactReverseWindowSaid : Prop := fnExactReverseWindowRow.holds Try.pinned (OpenSpec.ofChange fnExactReverseWindowSpec)

/-- ITS FALSE NEIGHBOUR: 'it returns false'. Refute it at one input. -/
def fnExactReverseWindowWrong : ChangeSpec := { name := "fnExactReverseWindow", fn := fun _ => fun
  | [d1, d2] => { results := [.lit (.bool false)], args := [d1, d2] }
  | _ => none }
def FnExactReverseWindowWrongFalsely : Prop := fnExactReverseWindowRow.holds Try.pinned (OpenSpec.ofChange fnExactReverseWindowWrong)

/-- 'laws.FnExactSameBytes': WHATEVER THE INPUT: true; the input reads as it did. -/
def fnExactSameBytesSpec : ChangeSpec := { name := "fnExactSameBytes", fn := fun _ => fun
  | [d1, d2, d3] => { results := [.lit (.bool true)], args := [d1, d2, d3] }
  | _ => none }
def fnExactSameBytesRow : OpenClaim := { program := "ytbdaaeffbhcflab", sum := "cf67b6d391682506c5146374b090095560686f4ad930a14dcc8f89fc8e864f00", func := "loop.example/g01179/laws.FnExactSameBytes", spec := "fnExactSameBytes", inPlace := ["internal/bytealg.Compare"], apart := false }
def FnExactSameBytesSaid : Prop := fnExactSameBytesRow.holds Try.pinned (OpenSpec.ofChange fnExactSameBytesSpec)

/-- ITS FALSE NEIGHBOUR: 'it returns false'. Refute it at one input. -/
def fnExactSameBytesWrong : ChangeSpec := { name := "fnExactSameBytes", fn := fun _ => fun
  | [d1, d2, d3] => { results := [.lit (.bool false)], args := [d1, d2, d3] }
  | _ => none }
def FnExactSameBytesWrongFalsely : Prop := fnExactSameBytesRow.holds Try.pinned (OpenSpec.ofChange fnExactSameBytesWrong)

/-- 'laws.FnExactOrderOf': WHATEVER THE INPUT: true; the input reads as it did. -/
def fnExactOrderOfSpec : ChangeSpec := { name := "fnExactOrderOf", fn := fun _ => fun
  | [d1, d2, d3] => { results := [.lit (.bool true)], args := [d1, d2, d3] }
  | _ => none }
def fnExactOrderOfRow : OpenClaim := { program := "ytbdaaeffbhcflab", sum := "cf67b6d391682506c5146374b090095560686f4ad930a14dcc8f89fc8e864f00", func := "loop.example/g01179/laws.FnExactOrderOf", spec := "fnExactOrderOf", inPlace := ["internal/bytealg.Compare"], apart := false }
def FnExactOrderOfSaid : Prop := fnExactOrderOfRow.holds Try.pinned (OpenSpec.ofChange fnExactOrderOfSpec)

/-- ITS FALSE NEIGHBOUR: 'it returns false'. Refute it at one input. -/
def fnExactOrderOfWrong : ChangeSpec := { name := "fnExactOrderOf", fn := fun _ => fun
  | [d1, d2, d3] => { results := [.lit (.bool false)], args := [d1, d2, d3] }
  | _ => none }
def FnExactOrderOfWrongFalsely : Prop := fnExactOrderOfRow.holds Try.pinned (OpenSpec.ofChange fnExactOrderOfWrong)

/-- 'laws.FnExactFindByte': WHATEVER THE INPUT: true; the input reads as it did. -/
def fnExactFindByteSpec : ChangeSpec := { name := "fnExactFindByte", fn := fun _ => fun
  | [d1, d2, d3] => { results := [.lit (.bool true)], args := [d1, d2, d3] }
  | _ => none }
def fnExactFindByteRow : OpenClaim := { program := "ytbdaaeffbhcflab", sum := "cf67b6d391682506c5146374b090095560686f4ad930a14dcc8f89fc8e864f00", func := "loop.example/g01179/laws.FnExactFindByte", spec := "fnExactFindByte", inPlace := ["internal/bytealg.IndexByte"], apart := false }
def FnExactFindByteSaid : Prop := fnExactFindByteRow.holds Try.pinned (OpenSpec.ofChange fnExactFindByteSpec)

/-- ITS FALSE NEIGHBOUR: 'it returns false'. Refute it at one input. -/
def fnExactFindByteWrong : ChangeSpec := { name := "fnExactFindByte", fn := fun _ => fun
  | [d1, d2, d3] => { results := [.lit (.bool false)], args := [d1, d2, d3] }
  | _ => none }
def FnExactFindByteWrongFalsely : Prop := fnExactFindByteRow.holds Try.pinned (OpenSpec.ofChange fnExactFindByteWrong)

/-- 'laws.FnExactAreApart': WHATEVER THE INPUT: true; the input reads as it did. -/
def fnExactAreApartSpec : ChangeSpec := { name := "fnExactAreApart", fn := fun _ => fun
  | [d1, d2, d3] => { results := [.lit (.bool true)], args := [d1, d2, d3] }
  | _ => none }
def fnExactAreApartRow : OpenClaim := { program := "ytbdaaeffbhcflab", sum := "cf67b6d391682506c5146374b090095560686f4ad930a14dcc8f89fc8e864f00", func := "loop.example/g01179/laws.FnExactAreApart", spec := "fnExactAreApart", apart := false }
def FnExactAreApartSaid : Prop := fnExactAreApartRow.holds Try.pinned (OpenSpec.ofChange fnExactAreApartSpec)

/-- ITS FALSE NEIGHBOUR: 'it returns false'. Refute it at one input. -/
def fnExactAreApartWrong : ChangeSpec := { name := "fnExactAreApart", fn := fun _ => fun
  | [d1, d2, d3] => { results := [.lit (.bool false)], args := [d1, d2, d3] }
  | _ => none }
def FnExactAreApartWrongFalsely : Prop := fnExactAreApartRow.holds Try.pinned (OpenSpec.ofChange fnExactAreApartWrong)

/- THE SECOND FORM. 'bulk': how many values and letters a reading holds, each counted each time it is reached (what is shared counts as often as it is met; a slice's spare places count too). A statement '..UptoSaid' is the law's where the arguments, and the package variables that the reading takes, are together of bulk at most 1048576: NARROWER than '..Said'. Prove '..Said' where nothing that the law and all that it calls make is longer than what came in: it says more and counts as full. Else prove '..UptoSaid'. A law counts once. -/
mutual
def uptoBulk {H : Type} : DataW H → Nat
  | .lit (.string bytes) => bytes.length + 1
  | .lit _ => 1
  | .nil => 1
  | .ptr d => uptoBulk d + 1
  | .slice elems spare => uptoBulkAll elems + uptoBulkAll spare + 1
  | .agg parts => uptoBulkAll parts + 1
  | .iface _ d => uptoBulk d + 1
  | .map entries => uptoBulkEntries entries + 1
  | .held _ => 1
def uptoBulkAll {H : Type} : List (DataW H) → Nat
  | [] => 0
  | d :: r => uptoBulk d + uptoBulkAll r
def uptoBulkEntries {H : Type} : List (Lit × DataW H) → Nat
  | [] => 0
  | x :: r => uptoBulkEntry x + uptoBulkEntries r
def uptoBulkEntry {H : Type} : Lit × DataW H → Nat
  | (.string bytes, d) => bytes.length + uptoBulk d + 1
  | (_, d) => uptoBulk d + 1
 end
def uptoSmall : (H : Type) → List (DataW H) → Bool := fun _ ds => decide (uptoBulkAll ds ≤ 1048576)
def OpenSpec.upto (s : _root_.Go.ChangeSpec) : _root_.Go.OpenSpec := { _root_.Go.OpenSpec.ofChange s with cond := some uptoSmall }

/-- 'laws.FnExactSliceThree', WHERE WHAT IT READS IS OF BULK AT MOST 1048576: true; the input reads as it did. -/
def fnExactSliceThreeUptoRow : OpenClaim := { program := "ytbdaaeffbhcflab", sum := "cf67b6d391682506c5146374b090095560686f4ad930a14dcc8f89fc8e864f00", func := "loop.example/g01179/laws.FnExactSliceThree", spec := "fnExactSliceThree", apart := false, narrowed := true }
def FnExactSliceThreeUptoSaid : Prop := fnExactSliceThreeUptoRow.holds Try.pinned (OpenSpec.upto fnExactSliceThreeSpec)

/-- 'laws.FnExactClipWindow', WHERE WHAT IT READS IS OF BULK AT MOST 1048576: true; the input reads as it did. -/
def fnExactClipWindowUptoRow : OpenClaim := { program := "ytbdaaeffbhcflab", sum := "cf67b6d391682506c5146374b090095560686f4ad930a14dcc8f89fc8e864f00", func := "loop.example/g01179/laws.FnExactClipWindow", spec := "fnExactClipWindow", apart := false, narrowed := true }
def FnExactClipWindowUptoSaid : Prop := fnExactClipWindowUptoRow.holds Try.pinned (OpenSpec.upto fnExactClipWindowSpec)

/-- 'laws.FnExactCopyInto', WHERE WHAT IT READS IS OF BULK AT MOST 1048576: true; the input reads as it did. -/
def fnExactCopyIntoUptoRow : OpenClaim := { program := "ytbdaaeffbhcflab", sum := "cf67b6d391682506c5146374b090095560686f4ad930a14dcc8f89fc8e864f00", func := "loop.example/g01179/laws.FnExactCopyInto", spec := "fnExactCopyInto", apart := false, narrowed := true }
def FnExactCopyIntoUptoSaid : Prop := fnExactCopyIntoUptoRow.holds Try.pinned (OpenSpec.upto fnExactCopyIntoSpec)

/-- 'laws.FnExactAppendBytes', WHERE WHAT IT READS IS OF BULK AT MOST 1048576: true; the input reads as it did. -/
def fnExactAppendBytesUptoRow : OpenClaim := { program := "ytbdaaeffbhcflab", sum := "cf67b6d391682506c5146374b090095560686f4ad930a14dcc8f89fc8e864f00", func := "loop.example/g01179/laws.FnExactAppendBytes", spec := "fnExactAppendBytes", apart := false, narrowed := true }
def FnExactAppendBytesUptoSaid : Prop := fnExactAppendBytesUptoRow.holds Try.pinned (OpenSpec.upto fnExactAppendBytesSpec)

/-- 'laws.FnExactAppendWindow', WHERE WHAT IT READS IS OF BULK AT MOST 1048576: true; the input reads as it did. -/
def fnExactAppendWindowUptoRow : OpenClaim := { program := "ytbdaaeffbhcflab", sum := "cf67b6d391682506c5146374b090095560686f4ad930a14dcc8f89fc8e864f00", func := "loop.example/g01179/laws.FnExactAppendWindow", spec := "fnExactAppendWindow", apart := false, narrowed := true }
def FnExactAppendWindowUptoSaid : Prop := fnExactAppendWindowUptoRow.holds Try.pinned (OpenSpec.upto fnExactAppendWindowSpec)

/-- 'laws.FnExactFillWindow', WHERE WHAT IT READS IS OF BULK AT MOST 1048576: true; the input reads as it did. -/
def fnExactFillWindowUptoRow : OpenClaim := { program := "ytbdaaeffbhcflab", sum := "cf67b6d391682506c5146374b090095560686f4ad930a14dcc8f89fc8e864f00", func := "loop.example/g01179/laws.FnExactFillWindow", spec := "fnExactFillWindow", apart := false, narrowed := true }
def FnExactFillWindowUptoSaid : Prop := fnExactFillWindowUptoRow.holds Try.pinned (OpenSpec.upto fnExactFillWindowSpec)

/-- 'laws.FnExactReverseWindow', WHERE WHAT IT READS IS OF BULK AT MOST 1048576: true; the input reads as it did. -/
def fnExactReverseWindowUptoRow : OpenClaim := { program := "ytbdaaeffbhcflab", sum := "cf67b6d391682506c5146374b090095560686f4ad930a14dcc8f89fc8e864f00", func := "loop.example/g01179/laws.FnExactReverseWindow", spec := "fnExactReverseWindow", apart := false, narrowed := true }
def FnExactReverseWindowUptoSaid : Prop := fnExactReverseWindowUptoRow.holds Try.pinned (OpenSpec.upto fnExactReverseWindowSpec)

/-- 'laws.FnExactSameBytes', WHERE WHAT IT READS IS OF BULK AT MOST 1048576: true; the input reads as it did. -/
def fnExactSameBytesUptoRow : OpenClaim := { program := "ytbdaaeffbhcflab", sum := "cf67b6d391682506c5146374b090095560686f4ad930a14dcc8f89fc8e864f00", func := "loop.example/g01179/laws.FnExactSameBytes", spec := "fnExactSameBytes", inPlace := ["internal/bytealg.Compare"], apart := false, narrowed := true }
def FnExactSameBytesUptoSaid : Prop := fnExactSameBytesUptoRow.holds Try.pinned (OpenSpec.upto fnExactSameBytesSpec)

/-- 'laws.FnExactOrderOf', WHERE WHAT IT READS IS OF BULK AT MOST 1048576: true; the input reads as it did. -/
def fnExactOrderOfUptoRow : OpenClaim := { program := "ytbdaaeffbhcflab", sum := "cf67b6d391682506c5146374b090095560686f4ad930a14dcc8f89fc8e864f00", func := "loop.example/g01179/laws.FnExactOrderOf", spec := "fnExactOrderOf", inPlace := ["internal/bytealg.Compare"], apart := false, narrowed := true }
def FnExactOrderOfUptoSaid : Prop := fnExactOrderOfUptoRow.holds Try.pinned (OpenSpec.upto fnExactOrderOfSpec)

/-- 'laws.FnExactFindByte', WHERE WHAT IT READS IS OF BULK AT MOST 1048576: true; the input reads as it did. -/
def fnExactFindByteUptoRow : OpenClaim := { program := "ytbdaaeffbhcflab", sum := "cf67b6d391682506c5146374b090095560686f4ad930a14dcc8f89fc8e864f00", func := "loop.example/g01179/laws.FnExactFindByte", spec := "fnExactFindByte", inPlace := ["internal/bytealg.IndexByte"], apart := false, narrowed := true }
def FnExactFindByteUptoSaid : Prop := fnExactFindByteUptoRow.holds Try.pinned (OpenSpec.upto fnExactFindByteSpec)

/-- 'laws.FnExactAreApart', WHERE WHAT IT READS IS OF BULK AT MOST 1048576: true; the input reads as it did. -/
def fnExactAreApartUptoRow : OpenClaim := { program := "ytbdaaeffbhcflab", sum := "cf67b6d391682506c5146374b090095560686f4ad930a14dcc8f89fc8e864f00", func := "loop.example/g01179/laws.FnExactAreApart", spec := "fnExactAreApart", apart := false, narrowed := true }
def FnExactAreApartUptoSaid : Prop := fnExactAreApartUptoRow.holds Try.pinned (OpenSpec.upto fnExactAreApartSpec)

end Rows
end Go.Proofs.Ytbdaaeffbhcflab
