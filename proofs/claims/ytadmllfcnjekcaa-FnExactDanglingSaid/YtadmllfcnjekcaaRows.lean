/-
  No cell of these rows narrows 'for every input' (looked for: loops, veiled, ifaces, maps, wideKeys, modest, calm, conditions, laid).
  DERIVED. THE GIVEN ROWS OF THIS SEAT. 15 by the template 'for every input the law returns true; each argument reads behind the call as it read before'; 0 by the template 'total and deterministic' (their statements: YtadmllfcnjekcaaTotals.lean).
  GIVEN WITH THE SEED: the statements are not yours to turn. If you find one false, say at which input.
  Laid BY PROGRAM, IN A SANDBOX (cutbox-rows.mjs): the forced cells as the released guide's own fill.sh prints them over the translation dd73a92e496f8309… (all of the seat's roots in one cut). By AI agents, Wed Nov 11 2026. No macro, syntax, notation, axiom, sorry.
-/
import Derived.Test.YtadmllfcnjekcaaChecked
import GoSem.Claim
import GoSem.ClaimJoined
import GoSem.ClaimMapViews
import Derived.JoinedTies
import Derived.KernelRfl
namespace Go.Proofs.Ytadmllfcnjekcaa
/- THE CELL 'sum', in the pinned program and in every row, IS THE sha256 OF THE DUMP (.gsa) THAT YtadmllfcnjekcaaProg.lean LOADS. Nothing in Lean hashes anything: it is a label: what it is worth is what the hold of that sum in a sandbox is worth. -/
noncomputable def Try.pinned : Pinned := { name := "ytadmllfcnjekcaa", sum := "dd73a92e496f8309ea383b2a386614c513bf41ab2fb34c32f12d1599e5f62580", checked := Try.checked }
namespace Rows
def none {H : Type} : Left H := { results := [], args := [] }

/-- 'laws.FnExactIsArena': WHATEVER THE INPUT: true; the input reads as it did. -/
def fnExactIsArenaSpec : ChangeSpec := { name := "fnExactIsArena", fn := fun _ => fun
  | [d] => { results := [.lit (.bool true)], args := [d] }
  | _ => none }
def fnExactIsArenaRow : OpenClaim := { program := "ytadmllfcnjekcaa", sum := "dd73a92e496f8309ea383b2a386614c513bf41ab2fb34c32f12d1599e5f62580", func := "loop.example/g01179/laws.FnExactIsArena", spec := "fnExactIsArena", apart := false }
def FnExactIsArenaSaid : Prop := fnExactIsArenaRow.holds Try.pinned (OpenSpec.ofChange fnExactIsArenaSpec)

/-- ITS FALSE NEIGHBOUR: 'it returns false'. Refute it at one input. -/
def fnExactIsArenaWrong : ChangeSpec := { name := "fnExactIsArena", fn := fun _ => fun
  | [d] => { results := [.lit (.bool false)], args := [d] }
  | _ => none }
def FnExactIsArenaWrongFalsely : Prop := fnExactIsArenaRow.holds Try.pinned (OpenSpec.ofChange fnExactIsArenaWrong)

/-- 'laws.FnExactNewArena': WHATEVER THE INPUT: true; the input reads as it did. -/
def fnExactNewArenaSpec : ChangeSpec := { name := "fnExactNewArena", fn := fun _ => fun
  | [d1, d2] => { results := [.lit (.bool true)], args := [d1, d2] }
  | _ => none }
def fnExactNewArenaRow : OpenClaim := { program := "ytadmllfcnjekcaa", sum := "dd73a92e496f8309ea383b2a386614c513bf41ab2fb34c32f12d1599e5f62580", func := "loop.example/g01179/laws.FnExactNewArena", spec := "fnExactNewArena", apart := false }
def FnExactNewArenaSaid : Prop := fnExactNewArenaRow.holds Try.pinned (OpenSpec.ofChange fnExactNewArenaSpec)

/-- ITS FALSE NEIGHBOUR: 'it returns false'. Refute it at one input. -/
def fnExactNewArenaWrong : ChangeSpec := { name := "fnExactNewArena", fn := fun _ => fun
  | [d1, d2] => { results := [.lit (.bool false)], args := [d1, d2] }
  | _ => none }
def FnExactNewArenaWrongFalsely : Prop := fnExactNewArenaRow.holds Try.pinned (OpenSpec.ofChange fnExactNewArenaWrong)

/-- 'laws.FnExactGive': WHATEVER THE INPUT: true; the input reads as it did. -/
def fnExactGiveSpec : ChangeSpec := { name := "fnExactGive", fn := fun _ => fun
  | [d1, d2] => { results := [.lit (.bool true)], args := [d1, d2] }
  | _ => none }
def fnExactGiveRow : OpenClaim := { program := "ytadmllfcnjekcaa", sum := "dd73a92e496f8309ea383b2a386614c513bf41ab2fb34c32f12d1599e5f62580", func := "loop.example/g01179/laws.FnExactGive", spec := "fnExactGive", apart := false }
def FnExactGiveSaid : Prop := fnExactGiveRow.holds Try.pinned (OpenSpec.ofChange fnExactGiveSpec)

/-- ITS FALSE NEIGHBOUR: 'it returns false'. Refute it at one input. -/
def fnExactGiveWrong : ChangeSpec := { name := "fnExactGive", fn := fun _ => fun
  | [d1, d2] => { results := [.lit (.bool false)], args := [d1, d2] }
  | _ => none }
def FnExactGiveWrongFalsely : Prop := fnExactGiveRow.holds Try.pinned (OpenSpec.ofChange fnExactGiveWrong)

/-- 'laws.FnExactGiveZero': WHATEVER THE INPUT: true; the input reads as it did. -/
def fnExactGiveZeroSpec : ChangeSpec := { name := "fnExactGiveZero", fn := fun _ => fun
  | [d1, d2] => { results := [.lit (.bool true)], args := [d1, d2] }
  | _ => none }
def fnExactGiveZeroRow : OpenClaim := { program := "ytadmllfcnjekcaa", sum := "dd73a92e496f8309ea383b2a386614c513bf41ab2fb34c32f12d1599e5f62580", func := "loop.example/g01179/laws.FnExactGiveZero", spec := "fnExactGiveZero", apart := false }
def FnExactGiveZeroSaid : Prop := fnExactGiveZeroRow.holds Try.pinned (OpenSpec.ofChange fnExactGiveZeroSpec)

/-- ITS FALSE NEIGHBOUR: 'it returns false'. Refute it at one input. -/
def fnExactGiveZeroWrong : ChangeSpec := { name := "fnExactGiveZero", fn := fun _ => fun
  | [d1, d2] => { results := [.lit (.bool false)], args := [d1, d2] }
  | _ => none }
def FnExactGiveZeroWrongFalsely : Prop := fnExactGiveZeroRow.holds Try.pinned (OpenSpec.ofChange fnExactGiveZeroWrong)

/-- 'laws.FnExactGiveAll': WHATEVER THE INPUT: true; the input reads as it did. -/
def fnExactGiveAllSpec : ChangeSpec := { name := "fnExactGiveAll", fn := fun _ => fun
  | [d1, d2] => { results := [.lit (.bool true)], args := [d1, d2] }
  | _ => none }
def fnExactGiveAllRow : OpenClaim := { program := "ytadmllfcnjekcaa", sum := "dd73a92e496f8309ea383b2a386614c513bf41ab2fb34c32f12d1599e5f62580", func := "loop.example/g01179/laws.FnExactGiveAll", spec := "fnExactGiveAll", apart := false }
def FnExactGiveAllSaid : Prop := fnExactGiveAllRow.holds Try.pinned (OpenSpec.ofChange fnExactGiveAllSpec)

/-- ITS FALSE NEIGHBOUR: 'it returns false'. Refute it at one input. -/
def fnExactGiveAllWrong : ChangeSpec := { name := "fnExactGiveAll", fn := fun _ => fun
  | [d1, d2] => { results := [.lit (.bool false)], args := [d1, d2] }
  | _ => none }
def FnExactGiveAllWrongFalsely : Prop := fnExactGiveAllRow.holds Try.pinned (OpenSpec.ofChange fnExactGiveAllWrong)

/-- 'laws.FnExactMarkArena': WHATEVER THE INPUT: true; the input reads as it did. -/
def fnExactMarkArenaSpec : ChangeSpec := { name := "fnExactMarkArena", fn := fun _ => fun
  | [d] => { results := [.lit (.bool true)], args := [d] }
  | _ => none }
def fnExactMarkArenaRow : OpenClaim := { program := "ytadmllfcnjekcaa", sum := "dd73a92e496f8309ea383b2a386614c513bf41ab2fb34c32f12d1599e5f62580", func := "loop.example/g01179/laws.FnExactMarkArena", spec := "fnExactMarkArena", apart := false }
def FnExactMarkArenaSaid : Prop := fnExactMarkArenaRow.holds Try.pinned (OpenSpec.ofChange fnExactMarkArenaSpec)

/-- ITS FALSE NEIGHBOUR: 'it returns false'. Refute it at one input. -/
def fnExactMarkArenaWrong : ChangeSpec := { name := "fnExactMarkArena", fn := fun _ => fun
  | [d] => { results := [.lit (.bool false)], args := [d] }
  | _ => none }
def FnExactMarkArenaWrongFalsely : Prop := fnExactMarkArenaRow.holds Try.pinned (OpenSpec.ofChange fnExactMarkArenaWrong)

/-- 'laws.FnExactResetArena': WHATEVER THE INPUT: true; the input reads as it did. -/
def fnExactResetArenaSpec : ChangeSpec := { name := "fnExactResetArena", fn := fun _ => fun
  | [d] => { results := [.lit (.bool true)], args := [d] }
  | _ => none }
def fnExactResetArenaRow : OpenClaim := { program := "ytadmllfcnjekcaa", sum := "dd73a92e496f8309ea383b2a386614c513bf41ab2fb34c32f12d1599e5f62580", func := "loop.example/g01179/laws.FnExactResetArena", spec := "fnExactResetArena", apart := false }
def FnExactResetArenaSaid : Prop := fnExactResetArenaRow.holds Try.pinned (OpenSpec.ofChange fnExactResetArenaSpec)

/-- ITS FALSE NEIGHBOUR: 'it returns false'. Refute it at one input. -/
def fnExactResetArenaWrong : ChangeSpec := { name := "fnExactResetArena", fn := fun _ => fun
  | [d] => { results := [.lit (.bool false)], args := [d] }
  | _ => none }
def FnExactResetArenaWrongFalsely : Prop := fnExactResetArenaRow.holds Try.pinned (OpenSpec.ofChange fnExactResetArenaWrong)

/-- 'laws.FnExactLeftIn': WHATEVER THE INPUT: true; the input reads as it did. -/
def fnExactLeftInSpec : ChangeSpec := { name := "fnExactLeftIn", fn := fun _ => fun
  | [d1, d2] => { results := [.lit (.bool true)], args := [d1, d2] }
  | _ => none }
def fnExactLeftInRow : OpenClaim := { program := "ytadmllfcnjekcaa", sum := "dd73a92e496f8309ea383b2a386614c513bf41ab2fb34c32f12d1599e5f62580", func := "loop.example/g01179/laws.FnExactLeftIn", spec := "fnExactLeftIn", apart := false }
def FnExactLeftInSaid : Prop := fnExactLeftInRow.holds Try.pinned (OpenSpec.ofChange fnExactLeftInSpec)

/-- ITS FALSE NEIGHBOUR: 'it returns false'. Refute it at one input. -/
def fnExactLeftInWrong : ChangeSpec := { name := "fnExactLeftIn", fn := fun _ => fun
  | [d1, d2] => { results := [.lit (.bool false)], args := [d1, d2] }
  | _ => none }
def FnExactLeftInWrongFalsely : Prop := fnExactLeftInRow.holds Try.pinned (OpenSpec.ofChange fnExactLeftInWrong)

/-- 'laws.FnExactLostBytes': WHATEVER THE INPUT: true; the input reads as it did. -/
def fnExactLostBytesSpec : ChangeSpec := { name := "fnExactLostBytes", fn := fun _ => fun
  | [d1, d2] => { results := [.lit (.bool true)], args := [d1, d2] }
  | _ => none }
def fnExactLostBytesRow : OpenClaim := { program := "ytadmllfcnjekcaa", sum := "dd73a92e496f8309ea383b2a386614c513bf41ab2fb34c32f12d1599e5f62580", func := "loop.example/g01179/laws.FnExactLostBytes", spec := "fnExactLostBytes", apart := false }
def FnExactLostBytesSaid : Prop := fnExactLostBytesRow.holds Try.pinned (OpenSpec.ofChange fnExactLostBytesSpec)

/-- ITS FALSE NEIGHBOUR: 'it returns false'. Refute it at one input. -/
def fnExactLostBytesWrong : ChangeSpec := { name := "fnExactLostBytes", fn := fun _ => fun
  | [d1, d2] => { results := [.lit (.bool false)], args := [d1, d2] }
  | _ => none }
def FnExactLostBytesWrongFalsely : Prop := fnExactLostBytesRow.holds Try.pinned (OpenSpec.ofChange fnExactLostBytesWrong)

/-- 'laws.FnExactBestOrder': WHATEVER THE INPUT: true; the input reads as it did. -/
def fnExactBestOrderSpec : ChangeSpec := { name := "fnExactBestOrder", fn := fun _ => fun
  | [d1, d2] => { results := [.lit (.bool true)], args := [d1, d2] }
  | _ => none }
def fnExactBestOrderRow : OpenClaim := { program := "ytadmllfcnjekcaa", sum := "dd73a92e496f8309ea383b2a386614c513bf41ab2fb34c32f12d1599e5f62580", func := "loop.example/g01179/laws.FnExactBestOrder", spec := "fnExactBestOrder", recurses := true, apart := false }
def FnExactBestOrderSaid : Prop := fnExactBestOrderRow.holds Try.pinned (OpenSpec.ofChange fnExactBestOrderSpec)

/-- ITS FALSE NEIGHBOUR: 'it returns false'. Refute it at one input. -/
def fnExactBestOrderWrong : ChangeSpec := { name := "fnExactBestOrder", fn := fun _ => fun
  | [d1, d2] => { results := [.lit (.bool false)], args := [d1, d2] }
  | _ => none }
def FnExactBestOrderWrongFalsely : Prop := fnExactBestOrderRow.holds Try.pinned (OpenSpec.ofChange fnExactBestOrderWrong)

/-- 'laws.FnExactDangling': WHATEVER THE INPUT: true; the input reads as it did. -/
def fnExactDanglingSpec : ChangeSpec := { name := "fnExactDangling", fn := fun _ => fun
  | [d1, d2] => { results := [.lit (.bool true)], args := [d1, d2] }
  | _ => none }
def fnExactDanglingRow : OpenClaim := { program := "ytadmllfcnjekcaa", sum := "dd73a92e496f8309ea383b2a386614c513bf41ab2fb34c32f12d1599e5f62580", func := "loop.example/g01179/laws.FnExactDangling", spec := "fnExactDangling", unfollowed := true, recurses := true, apart := false }
def FnExactDanglingSaid : Prop := fnExactDanglingRow.holds Try.pinned (OpenSpec.ofChange fnExactDanglingSpec)

/-- ITS FALSE NEIGHBOUR: 'it returns false'. Refute it at one input. -/
def fnExactDanglingWrong : ChangeSpec := { name := "fnExactDangling", fn := fun _ => fun
  | [d1, d2] => { results := [.lit (.bool false)], args := [d1, d2] }
  | _ => none }
def FnExactDanglingWrongFalsely : Prop := fnExactDanglingRow.holds Try.pinned (OpenSpec.ofChange fnExactDanglingWrong)

/-- 'laws.FnExactIsGiven': WHATEVER THE INPUT: true; the input reads as it did. -/
def fnExactIsGivenSpec : ChangeSpec := { name := "fnExactIsGiven", fn := fun _ => fun
  | [d1, d2] => { results := [.lit (.bool true)], args := [d1, d2] }
  | _ => none }
def fnExactIsGivenRow : OpenClaim := { program := "ytadmllfcnjekcaa", sum := "dd73a92e496f8309ea383b2a386614c513bf41ab2fb34c32f12d1599e5f62580", func := "loop.example/g01179/laws.FnExactIsGiven", spec := "fnExactIsGiven", apart := false }
def FnExactIsGivenSaid : Prop := fnExactIsGivenRow.holds Try.pinned (OpenSpec.ofChange fnExactIsGivenSpec)

/-- ITS FALSE NEIGHBOUR: 'it returns false'. Refute it at one input. -/
def fnExactIsGivenWrong : ChangeSpec := { name := "fnExactIsGiven", fn := fun _ => fun
  | [d1, d2] => { results := [.lit (.bool false)], args := [d1, d2] }
  | _ => none }
def FnExactIsGivenWrongFalsely : Prop := fnExactIsGivenRow.holds Try.pinned (OpenSpec.ofChange fnExactIsGivenWrong)

/-- 'laws.FnExactSplitArena': WHATEVER THE INPUT: true; the input reads as it did. -/
def fnExactSplitArenaSpec : ChangeSpec := { name := "fnExactSplitArena", fn := fun _ => fun
  | [d] => { results := [.lit (.bool true)], args := [d] }
  | _ => none }
def fnExactSplitArenaRow : OpenClaim := { program := "ytadmllfcnjekcaa", sum := "dd73a92e496f8309ea383b2a386614c513bf41ab2fb34c32f12d1599e5f62580", func := "loop.example/g01179/laws.FnExactSplitArena", spec := "fnExactSplitArena", apart := false }
def FnExactSplitArenaSaid : Prop := fnExactSplitArenaRow.holds Try.pinned (OpenSpec.ofChange fnExactSplitArenaSpec)

/-- ITS FALSE NEIGHBOUR: 'it returns false'. Refute it at one input. -/
def fnExactSplitArenaWrong : ChangeSpec := { name := "fnExactSplitArena", fn := fun _ => fun
  | [d] => { results := [.lit (.bool false)], args := [d] }
  | _ => none }
def FnExactSplitArenaWrongFalsely : Prop := fnExactSplitArenaRow.holds Try.pinned (OpenSpec.ofChange fnExactSplitArenaWrong)

/-- 'laws.FnExactScrubArena': WHATEVER THE INPUT: true; the input reads as it did. -/
def fnExactScrubArenaSpec : ChangeSpec := { name := "fnExactScrubArena", fn := fun _ => fun
  | [d] => { results := [.lit (.bool true)], args := [d] }
  | _ => none }
def fnExactScrubArenaRow : OpenClaim := { program := "ytadmllfcnjekcaa", sum := "dd73a92e496f8309ea383b2a386614c513bf41ab2fb34c32f12d1599e5f62580", func := "loop.example/g01179/laws.FnExactScrubArena", spec := "fnExactScrubArena", apart := false }
def FnExactScrubArenaSaid : Prop := fnExactScrubArenaRow.holds Try.pinned (OpenSpec.ofChange fnExactScrubArenaSpec)

/-- ITS FALSE NEIGHBOUR: 'it returns false'. Refute it at one input. -/
def fnExactScrubArenaWrong : ChangeSpec := { name := "fnExactScrubArena", fn := fun _ => fun
  | [d] => { results := [.lit (.bool false)], args := [d] }
  | _ => none }
def FnExactScrubArenaWrongFalsely : Prop := fnExactScrubArenaRow.holds Try.pinned (OpenSpec.ofChange fnExactScrubArenaWrong)

/-- 'laws.FnArenas': WHATEVER THE INPUT: true; the input reads as it did. -/
def fnArenasSpec : ChangeSpec := { name := "fnArenas", fn := fun _ => fun
  | [d] => { results := [.lit (.bool true)], args := [d] }
  | _ => none }
def fnArenasRow : OpenClaim := { program := "ytadmllfcnjekcaa", sum := "dd73a92e496f8309ea383b2a386614c513bf41ab2fb34c32f12d1599e5f62580", func := "loop.example/g01179/laws.FnArenas", spec := "fnArenas", unfollowed := true, recurses := true, apart := false }
def FnArenasSaid : Prop := fnArenasRow.holds Try.pinned (OpenSpec.ofChange fnArenasSpec)

/-- ITS FALSE NEIGHBOUR: 'it returns false'. Refute it at one input. -/
def fnArenasWrong : ChangeSpec := { name := "fnArenas", fn := fun _ => fun
  | [d] => { results := [.lit (.bool false)], args := [d] }
  | _ => none }
def FnArenasWrongFalsely : Prop := fnArenasRow.holds Try.pinned (OpenSpec.ofChange fnArenasWrong)

/- THE SECOND FORM. 'bulk': how many values and letters a reading holds, each counted each time it is reached (what is shared counts as often as it is met; a slice's spare places count too). A statement '..UptoSaid' is the law's where the arguments, and the package variables that the reading takes, are together of bulk at most 1048576: NARROWER than '..Said'. Prove '..Said' where nothing that the law and all that it calls make is longer than what came in: it says more and counts as full. Else prove '..UptoSaid'. A law counts once. -/
mutual
def uptoBulk {H : Type} : DataW H → Nat
  | .lit (.string bytes) => bytes.length + 1
  | .lit _ => 1
  | .nil => 1
  | .ptr d => uptoBulk d + 1
  | .slice elems spare => uptoBulkAll elems + uptoBulkAll spare + 1
  | .agg parts => uptoBulkAll parts + 1
  | .iface _ d => uptoBulk d + 1
  | .map entries => uptoBulkEntries entries + 1
  | .held _ => 1
def uptoBulkAll {H : Type} : List (DataW H) → Nat
  | [] => 0
  | d :: r => uptoBulk d + uptoBulkAll r
def uptoBulkEntries {H : Type} : List (Lit × DataW H) → Nat
  | [] => 0
  | x :: r => uptoBulkEntry x + uptoBulkEntries r
def uptoBulkEntry {H : Type} : Lit × DataW H → Nat
  | (.string bytes, d) => bytes.length + uptoBulk d + 1
  | (_, d) => uptoBulk d + 1
 end
def uptoSmall : (H : Type) → List (DataW H) → Bool := fun _ ds => decide (uptoBulkAll ds ≤ 1048576)
def OpenSpec.upto (s : _root_.Go.ChangeSpec) : _root_.Go.OpenSpec := { _root_.Go.OpenSpec.ofChange s with cond := some uptoSmall }

/-- 'laws.FnExactIsArena', WHERE WHAT IT READS IS OF BULK AT MOST 1048576: true; the input reads as it did. -/
def fnExactIsArenaUptoRow : OpenClaim := { program := "ytadmllfcnjekcaa", sum := "dd73a92e496f8309ea383b2a386614c513bf41ab2fb34c32f12d1599e5f62580", func := "loop.example/g01179/laws.FnExactIsArena", spec := "fnExactIsArena", apart := false, narrowed := true }
def FnExactIsArenaUptoSaid : Prop := fnExactIsArenaUptoRow.holds Try.pinned (OpenSpec.upto fnExactIsArenaSpec)

/-- 'laws.FnExactNewArena', WHERE WHAT IT READS IS OF BULK AT MOST 1048576: true; the input reads as it did. -/
def fnExactNewArenaUptoRow : OpenClaim := { program := "ytadmllfcnjekcaa", sum := "dd73a92e496f8309ea383b2a386614c513bf41ab2fb34c32f12d1599e5f62580", func := "loop.example/g01179/laws.FnExactNewArena", spec := "fnExactNewArena", apart := false, narrowed := true }
def FnExactNewArenaUptoSaid : Prop := fnExactNewArenaUptoRow.holds Try.pinned (OpenSpec.upto fnExactNewArenaSpec)

/-- 'laws.FnExactGive', WHERE WHAT IT READS IS OF BULK AT MOST 1048576: true; the input reads as it did. -/
def fnExactGiveUptoRow : OpenClaim := { program := "ytadmllfcnjekcaa", sum := "dd73a92e496f8309ea383b2a386614c513bf41ab2fb34c32f12d1599e5f62580", func := "loop.example/g01179/laws.FnExactGive", spec := "fnExactGive", apart := false, narrowed := true }
def FnExactGiveUptoSaid : Prop := fnExactGiveUptoRow.holds Try.pinned (OpenSpec.upto fnExactGiveSpec)

/-- 'laws.FnExactGiveZero', WHERE WHAT IT READS IS OF BULK AT MOST 1048576: true; the input reads as it did. -/
def fnExactGiveZeroUptoRow : OpenClaim := { program := "ytadmllfcnjekcaa", sum := "dd73a92e496f8309ea383b2a386614c513bf41ab2fb34c32f12d1599e5f62580", func := "loop.example/g01179/laws.FnExactGiveZero", spec := "fnExactGiveZero", apart := false, narrowed := true }
def FnExactGiveZeroUptoSaid : Prop := fnExactGiveZeroUptoRow.holds Try.pinned (OpenSpec.upto fnExactGiveZeroSpec)

/-- 'laws.FnExactGiveAll', WHERE WHAT IT READS IS OF BULK AT MOST 1048576: true; the input reads as it did. -/
def fnExactGiveAllUptoRow : OpenClaim := { program := "ytadmllfcnjekcaa", sum := "dd73a92e496f8309ea383b2a386614c513bf41ab2fb34c32f12d1599e5f62580", func := "loop.example/g01179/laws.FnExactGiveAll", spec := "fnExactGiveAll", apart := false, narrowed := true }
def FnExactGiveAllUptoSaid : Prop := fnExactGiveAllUptoRow.holds Try.pinned (OpenSpec.upto fnExactGiveAllSpec)

/-- 'laws.FnExactMarkArena', WHERE WHAT IT READS IS OF BULK AT MOST 1048576: true; the input reads as it did. -/
def fnExactMarkArenaUptoRow : OpenClaim := { program := "ytadmllfcnjekcaa", sum := "dd73a92e496f8309ea383b2a386614c513bf41ab2fb34c32f12d1599e5f62580", func := "loop.example/g01179/laws.FnExactMarkArena", spec := "fnExactMarkArena", apart := false, narrowed := true }
def FnExactMarkArenaUptoSaid : Prop := fnExactMarkArenaUptoRow.holds Try.pinned (OpenSpec.upto fnExactMarkArenaSpec)

/-- 'laws.FnExactResetArena', WHERE WHAT IT READS IS OF BULK AT MOST 1048576: true; the input reads as it did. -/
def fnExactResetArenaUptoRow : OpenClaim := { program := "ytadmllfcnjekcaa", sum := "dd73a92e496f8309ea383b2a386614c513bf41ab2fb34c32f12d1599e5f62580", func := "loop.example/g01179/laws.FnExactResetArena", spec := "fnExactResetArena", apart := false, narrowed := true }
def FnExactResetArenaUptoSaid : Prop := fnExactResetArenaUptoRow.holds Try.pinned (OpenSpec.upto fnExactResetArenaSpec)

/-- 'laws.FnExactLeftIn', WHERE WHAT IT READS IS OF BULK AT MOST 1048576: true; the input reads as it did. -/
def fnExactLeftInUptoRow : OpenClaim := { program := "ytadmllfcnjekcaa", sum := "dd73a92e496f8309ea383b2a386614c513bf41ab2fb34c32f12d1599e5f62580", func := "loop.example/g01179/laws.FnExactLeftIn", spec := "fnExactLeftIn", apart := false, narrowed := true }
def FnExactLeftInUptoSaid : Prop := fnExactLeftInUptoRow.holds Try.pinned (OpenSpec.upto fnExactLeftInSpec)

/-- 'laws.FnExactLostBytes', WHERE WHAT IT READS IS OF BULK AT MOST 1048576: true; the input reads as it did. -/
def fnExactLostBytesUptoRow : OpenClaim := { program := "ytadmllfcnjekcaa", sum := "dd73a92e496f8309ea383b2a386614c513bf41ab2fb34c32f12d1599e5f62580", func := "loop.example/g01179/laws.FnExactLostBytes", spec := "fnExactLostBytes", apart := false, narrowed := true }
def FnExactLostBytesUptoSaid : Prop := fnExactLostBytesUptoRow.holds Try.pinned (OpenSpec.upto fnExactLostBytesSpec)

/-- 'laws.FnExactBestOrder', WHERE WHAT IT READS IS OF BULK AT MOST 1048576: true; the input reads as it did. -/
def fnExactBestOrderUptoRow : OpenClaim := { program := "ytadmllfcnjekcaa", sum := "dd73a92e496f8309ea383b2a386614c513bf41ab2fb34c32f12d1599e5f62580", func := "loop.example/g01179/laws.FnExactBestOrder", spec := "fnExactBestOrder", recurses := true, apart := false, narrowed := true }
def FnExactBestOrderUptoSaid : Prop := fnExactBestOrderUptoRow.holds Try.pinned (OpenSpec.upto fnExactBestOrderSpec)

/-- 'laws.FnExactDangling', WHERE WHAT IT READS IS OF BULK AT MOST 1048576: true; the input reads as it did. -/
def fnExactDanglingUptoRow : OpenClaim := { program := "ytadmllfcnjekcaa", sum := "dd73a92e496f8309ea383b2a386614c513bf41ab2fb34c32f12d1599e5f62580", func := "loop.example/g01179/laws.FnExactDangling", spec := "fnExactDangling", unfollowed := true, recurses := true, apart := false, narrowed := true }
def FnExactDanglingUptoSaid : Prop := fnExactDanglingUptoRow.holds Try.pinned (OpenSpec.upto fnExactDanglingSpec)

/-- 'laws.FnExactIsGiven', WHERE WHAT IT READS IS OF BULK AT MOST 1048576: true; the input reads as it did. -/
def fnExactIsGivenUptoRow : OpenClaim := { program := "ytadmllfcnjekcaa", sum := "dd73a92e496f8309ea383b2a386614c513bf41ab2fb34c32f12d1599e5f62580", func := "loop.example/g01179/laws.FnExactIsGiven", spec := "fnExactIsGiven", apart := false, narrowed := true }
def FnExactIsGivenUptoSaid : Prop := fnExactIsGivenUptoRow.holds Try.pinned (OpenSpec.upto fnExactIsGivenSpec)

/-- 'laws.FnExactSplitArena', WHERE WHAT IT READS IS OF BULK AT MOST 1048576: true; the input reads as it did. -/
def fnExactSplitArenaUptoRow : OpenClaim := { program := "ytadmllfcnjekcaa", sum := "dd73a92e496f8309ea383b2a386614c513bf41ab2fb34c32f12d1599e5f62580", func := "loop.example/g01179/laws.FnExactSplitArena", spec := "fnExactSplitArena", apart := false, narrowed := true }
def FnExactSplitArenaUptoSaid : Prop := fnExactSplitArenaUptoRow.holds Try.pinned (OpenSpec.upto fnExactSplitArenaSpec)

/-- 'laws.FnExactScrubArena', WHERE WHAT IT READS IS OF BULK AT MOST 1048576: true; the input reads as it did. -/
def fnExactScrubArenaUptoRow : OpenClaim := { program := "ytadmllfcnjekcaa", sum := "dd73a92e496f8309ea383b2a386614c513bf41ab2fb34c32f12d1599e5f62580", func := "loop.example/g01179/laws.FnExactScrubArena", spec := "fnExactScrubArena", apart := false, narrowed := true }
def FnExactScrubArenaUptoSaid : Prop := fnExactScrubArenaUptoRow.holds Try.pinned (OpenSpec.upto fnExactScrubArenaSpec)

/-- 'laws.FnArenas', WHERE WHAT IT READS IS OF BULK AT MOST 1048576: true; the input reads as it did. -/
def fnArenasUptoRow : OpenClaim := { program := "ytadmllfcnjekcaa", sum := "dd73a92e496f8309ea383b2a386614c513bf41ab2fb34c32f12d1599e5f62580", func := "loop.example/g01179/laws.FnArenas", spec := "fnArenas", unfollowed := true, recurses := true, apart := false, narrowed := true }
def FnArenasUptoSaid : Prop := fnArenasUptoRow.holds Try.pinned (OpenSpec.upto fnArenasSpec)

end Rows
end Go.Proofs.Ytadmllfcnjekcaa
