/-
  No cell of these rows narrows 'for every input' (looked for: loops, veiled, ifaces, maps, wideKeys, modest, calm, conditions, laid).
  DERIVED. THE GIVEN ROWS OF THIS SEAT. 12 by the template 'for every input the law returns true; each argument reads behind the call as it read before'; 0 by the template 'total and deterministic' (their statements: YtomgjhdknondmaaTotals.lean).
  GIVEN WITH THE SEED: the statements are not yours to turn. If you find one false, say at which input.
  Laid BY PROGRAM, IN A SANDBOX (cutbox-rows.mjs): the forced cells as the released guide's own fill.sh prints them over the translation 104a9039e5e349f1… (all of the seat's roots in one cut). By AI agents, Wed Nov 11 2026. No macro, syntax, notation, axiom, sorry.
-/
import Derived.Test.YtomgjhdknondmaaChecked
import GoSem.Claim
import GoSem.ClaimJoined
import GoSem.ClaimMapViews
import Derived.JoinedTies
import Derived.KernelRfl
namespace Go.Proofs.Ytomgjhdknondmaa
/- THE CELL 'sum', in the pinned program and in every row, IS THE sha256 OF THE DUMP (.gsa) THAT YtomgjhdknondmaaProg.lean LOADS. Nothing in Lean hashes anything: it is a label: what it is worth is what the hold of that sum in a sandbox is worth. -/
noncomputable def Try.pinned : Pinned := { name := "ytomgjhdknondmaa", sum := "104a9039e5e349f1fe54247aca0b305686fa6acb327efd938db8e87bb1ebc542", checked := Try.checked }
namespace Rows
def none {H : Type} : Left H := { results := [], args := [] }

/-- 'laws.FnSharing': WHATEVER THE INPUT: true; the input reads as it did. -/
def fnSharingSpec : ChangeSpec := { name := "fnSharing", fn := fun _ => fun
  | [d] => { results := [.lit (.bool true)], args := [d] }
  | _ => none }
def fnSharingRow : OpenClaim := { program := "ytomgjhdknondmaa", sum := "104a9039e5e349f1fe54247aca0b305686fa6acb327efd938db8e87bb1ebc542", func := "loop.example/g01179/laws.FnSharing", spec := "fnSharing", unfollowed := true, recurses := true, plainKeys := false, apart := false }
def FnSharingSaid : Prop := fnSharingRow.holds Try.pinned (OpenSpec.ofChange fnSharingSpec)

/-- ITS FALSE NEIGHBOUR: 'it returns false'. Refute it at one input. -/
def fnSharingWrong : ChangeSpec := { name := "fnSharing", fn := fun _ => fun
  | [d] => { results := [.lit (.bool false)], args := [d] }
  | _ => none }
def FnSharingWrongFalsely : Prop := fnSharingRow.holds Try.pinned (OpenSpec.ofChange fnSharingWrong)

/-- 'laws.FnNoticing': WHATEVER THE INPUT: true; the input reads as it did. -/
def fnNoticingSpec : ChangeSpec := { name := "fnNoticing", fn := fun _ => fun
  | [d] => { results := [.lit (.bool true)], args := [d] }
  | _ => none }
def fnNoticingRow : OpenClaim := { program := "ytomgjhdknondmaa", sum := "104a9039e5e349f1fe54247aca0b305686fa6acb327efd938db8e87bb1ebc542", func := "loop.example/g01179/laws.FnNoticing", spec := "fnNoticing", unfollowed := true, recurses := true, plainKeys := false, apart := false }
def FnNoticingSaid : Prop := fnNoticingRow.holds Try.pinned (OpenSpec.ofChange fnNoticingSpec)

/-- ITS FALSE NEIGHBOUR: 'it returns false'. Refute it at one input. -/
def fnNoticingWrong : ChangeSpec := { name := "fnNoticing", fn := fun _ => fun
  | [d] => { results := [.lit (.bool false)], args := [d] }
  | _ => none }
def FnNoticingWrongFalsely : Prop := fnNoticingRow.holds Try.pinned (OpenSpec.ofChange fnNoticingWrong)

/-- 'laws.FnTreading': WHATEVER THE INPUT: true; the input reads as it did. -/
def fnTreadingSpec : ChangeSpec := { name := "fnTreading", fn := fun _ => fun
  | [d] => { results := [.lit (.bool true)], args := [d] }
  | _ => none }
def fnTreadingRow : OpenClaim := { program := "ytomgjhdknondmaa", sum := "104a9039e5e349f1fe54247aca0b305686fa6acb327efd938db8e87bb1ebc542", func := "loop.example/g01179/laws.FnTreading", spec := "fnTreading", unfollowed := true, recurses := true, plainKeys := false, apart := false }
def FnTreadingSaid : Prop := fnTreadingRow.holds Try.pinned (OpenSpec.ofChange fnTreadingSpec)

/-- ITS FALSE NEIGHBOUR: 'it returns false'. Refute it at one input. -/
def fnTreadingWrong : ChangeSpec := { name := "fnTreading", fn := fun _ => fun
  | [d] => { results := [.lit (.bool false)], args := [d] }
  | _ => none }
def FnTreadingWrongFalsely : Prop := fnTreadingRow.holds Try.pinned (OpenSpec.ofChange fnTreadingWrong)

/-- 'laws.FnExactAreWatched': WHATEVER THE INPUT: true; the input reads as it did. -/
def fnExactAreWatchedSpec : ChangeSpec := { name := "fnExactAreWatched", fn := fun _ => fun
  | [d1, d2] => { results := [.lit (.bool true)], args := [d1, d2] }
  | _ => none }
def fnExactAreWatchedRow : OpenClaim := { program := "ytomgjhdknondmaa", sum := "104a9039e5e349f1fe54247aca0b305686fa6acb327efd938db8e87bb1ebc542", func := "loop.example/g01179/laws.FnExactAreWatched", spec := "fnExactAreWatched", plainKeys := false, apart := false }
def FnExactAreWatchedSaid : Prop := fnExactAreWatchedRow.holds Try.pinned (OpenSpec.ofChange fnExactAreWatchedSpec)

/-- ITS FALSE NEIGHBOUR: 'it returns false'. Refute it at one input. -/
def fnExactAreWatchedWrong : ChangeSpec := { name := "fnExactAreWatched", fn := fun _ => fun
  | [d1, d2] => { results := [.lit (.bool false)], args := [d1, d2] }
  | _ => none }
def FnExactAreWatchedWrongFalsely : Prop := fnExactAreWatchedRow.holds Try.pinned (OpenSpec.ofChange fnExactAreWatchedWrong)

/-- 'laws.FnExactCommonPlaces': WHATEVER THE INPUT: true; the input reads as it did. -/
def fnExactCommonPlacesSpec : ChangeSpec := { name := "fnExactCommonPlaces", fn := fun _ => fun
  | [d1, d2, d3] => { results := [.lit (.bool true)], args := [d1, d2, d3] }
  | _ => none }
def fnExactCommonPlacesRow : OpenClaim := { program := "ytomgjhdknondmaa", sum := "104a9039e5e349f1fe54247aca0b305686fa6acb327efd938db8e87bb1ebc542", func := "loop.example/g01179/laws.FnExactCommonPlaces", spec := "fnExactCommonPlaces", plainKeys := false, apart := false }
def FnExactCommonPlacesSaid : Prop := fnExactCommonPlacesRow.holds Try.pinned (OpenSpec.ofChange fnExactCommonPlacesSpec)

/-- ITS FALSE NEIGHBOUR: 'it returns false'. Refute it at one input. -/
def fnExactCommonPlacesWrong : ChangeSpec := { name := "fnExactCommonPlaces", fn := fun _ => fun
  | [d1, d2, d3] => { results := [.lit (.bool false)], args := [d1, d2, d3] }
  | _ => none }
def FnExactCommonPlacesWrongFalsely : Prop := fnExactCommonPlacesRow.holds Try.pinned (OpenSpec.ofChange fnExactCommonPlacesWrong)

/-- 'laws.FnExactDoShare': WHATEVER THE INPUT: true; the input reads as it did. -/
def fnExactDoShareSpec : ChangeSpec := { name := "fnExactDoShare", fn := fun _ => fun
  | [d1, d2, d3] => { results := [.lit (.bool true)], args := [d1, d2, d3] }
  | _ => none }
def fnExactDoShareRow : OpenClaim := { program := "ytomgjhdknondmaa", sum := "104a9039e5e349f1fe54247aca0b305686fa6acb327efd938db8e87bb1ebc542", func := "loop.example/g01179/laws.FnExactDoShare", spec := "fnExactDoShare", plainKeys := false, apart := false }
def FnExactDoShareSaid : Prop := fnExactDoShareRow.holds Try.pinned (OpenSpec.ofChange fnExactDoShareSpec)

/-- ITS FALSE NEIGHBOUR: 'it returns false'. Refute it at one input. -/
def fnExactDoShareWrong : ChangeSpec := { name := "fnExactDoShare", fn := fun _ => fun
  | [d1, d2, d3] => { results := [.lit (.bool false)], args := [d1, d2, d3] }
  | _ => none }
def FnExactDoShareWrongFalsely : Prop := fnExactDoShareRow.holds Try.pinned (OpenSpec.ofChange fnExactDoShareWrong)

/-- 'laws.FnExactAreNear': WHATEVER THE INPUT: true; the input reads as it did. -/
def fnExactAreNearSpec : ChangeSpec := { name := "fnExactAreNear", fn := fun _ => fun
  | [d1, d2, d3] => { results := [.lit (.bool true)], args := [d1, d2, d3] }
  | _ => none }
def fnExactAreNearRow : OpenClaim := { program := "ytomgjhdknondmaa", sum := "104a9039e5e349f1fe54247aca0b305686fa6acb327efd938db8e87bb1ebc542", func := "loop.example/g01179/laws.FnExactAreNear", spec := "fnExactAreNear", plainKeys := false, apart := false }
def FnExactAreNearSaid : Prop := fnExactAreNearRow.holds Try.pinned (OpenSpec.ofChange fnExactAreNearSpec)

/-- ITS FALSE NEIGHBOUR: 'it returns false'. Refute it at one input. -/
def fnExactAreNearWrong : ChangeSpec := { name := "fnExactAreNear", fn := fun _ => fun
  | [d1, d2, d3] => { results := [.lit (.bool false)], args := [d1, d2, d3] }
  | _ => none }
def FnExactAreNearWrongFalsely : Prop := fnExactAreNearRow.holds Try.pinned (OpenSpec.ofChange fnExactAreNearWrong)

/-- 'laws.FnExactNoticedBy': WHATEVER THE INPUT: true; the input reads as it did. -/
def fnExactNoticedBySpec : ChangeSpec := { name := "fnExactNoticedBy", fn := fun _ => fun
  | [d1, d2, d3, d4] => { results := [.lit (.bool true)], args := [d1, d2, d3, d4] }
  | _ => none }
def fnExactNoticedByRow : OpenClaim := { program := "ytomgjhdknondmaa", sum := "104a9039e5e349f1fe54247aca0b305686fa6acb327efd938db8e87bb1ebc542", func := "loop.example/g01179/laws.FnExactNoticedBy", spec := "fnExactNoticedBy", unfollowed := true, recurses := true, plainKeys := false, apart := false }
def FnExactNoticedBySaid : Prop := fnExactNoticedByRow.holds Try.pinned (OpenSpec.ofChange fnExactNoticedBySpec)

/-- ITS FALSE NEIGHBOUR: 'it returns false'. Refute it at one input. -/
def fnExactNoticedByWrong : ChangeSpec := { name := "fnExactNoticedBy", fn := fun _ => fun
  | [d1, d2, d3, d4] => { results := [.lit (.bool false)], args := [d1, d2, d3, d4] }
  | _ => none }
def FnExactNoticedByWrongFalsely : Prop := fnExactNoticedByRow.holds Try.pinned (OpenSpec.ofChange fnExactNoticedByWrong)

/-- 'laws.FnExactNoticedCounts': WHATEVER THE INPUT: true; the input reads as it did. -/
def fnExactNoticedCountsSpec : ChangeSpec := { name := "fnExactNoticedCounts", fn := fun _ => fun
  | [d1, d2, d3] => { results := [.lit (.bool true)], args := [d1, d2, d3] }
  | _ => none }
def fnExactNoticedCountsRow : OpenClaim := { program := "ytomgjhdknondmaa", sum := "104a9039e5e349f1fe54247aca0b305686fa6acb327efd938db8e87bb1ebc542", func := "loop.example/g01179/laws.FnExactNoticedCounts", spec := "fnExactNoticedCounts", unfollowed := true, recurses := true, plainKeys := false, apart := false }
def FnExactNoticedCountsSaid : Prop := fnExactNoticedCountsRow.holds Try.pinned (OpenSpec.ofChange fnExactNoticedCountsSpec)

/-- ITS FALSE NEIGHBOUR: 'it returns false'. Refute it at one input. -/
def fnExactNoticedCountsWrong : ChangeSpec := { name := "fnExactNoticedCounts", fn := fun _ => fun
  | [d1, d2, d3] => { results := [.lit (.bool false)], args := [d1, d2, d3] }
  | _ => none }
def FnExactNoticedCountsWrongFalsely : Prop := fnExactNoticedCountsRow.holds Try.pinned (OpenSpec.ofChange fnExactNoticedCountsWrong)

/-- 'laws.FnExactShareGroups': WHATEVER THE INPUT: true; the input reads as it did. -/
def fnExactShareGroupsSpec : ChangeSpec := { name := "fnExactShareGroups", fn := fun _ => fun
  | [d1, d2] => { results := [.lit (.bool true)], args := [d1, d2] }
  | _ => none }
def fnExactShareGroupsRow : OpenClaim := { program := "ytomgjhdknondmaa", sum := "104a9039e5e349f1fe54247aca0b305686fa6acb327efd938db8e87bb1ebc542", func := "loop.example/g01179/laws.FnExactShareGroups", spec := "fnExactShareGroups", plainKeys := false, apart := false }
def FnExactShareGroupsSaid : Prop := fnExactShareGroupsRow.holds Try.pinned (OpenSpec.ofChange fnExactShareGroupsSpec)

/-- ITS FALSE NEIGHBOUR: 'it returns false'. Refute it at one input. -/
def fnExactShareGroupsWrong : ChangeSpec := { name := "fnExactShareGroups", fn := fun _ => fun
  | [d1, d2] => { results := [.lit (.bool false)], args := [d1, d2] }
  | _ => none }
def FnExactShareGroupsWrongFalsely : Prop := fnExactShareGroupsRow.holds Try.pinned (OpenSpec.ofChange fnExactShareGroupsWrong)

/-- 'laws.FnExactTroddenBy': WHATEVER THE INPUT: true; the input reads as it did. -/
def fnExactTroddenBySpec : ChangeSpec := { name := "fnExactTroddenBy", fn := fun _ => fun
  | [d1, d2, d3, d4] => { results := [.lit (.bool true)], args := [d1, d2, d3, d4] }
  | _ => none }
def fnExactTroddenByRow : OpenClaim := { program := "ytomgjhdknondmaa", sum := "104a9039e5e349f1fe54247aca0b305686fa6acb327efd938db8e87bb1ebc542", func := "loop.example/g01179/laws.FnExactTroddenBy", spec := "fnExactTroddenBy", unfollowed := true, recurses := true, plainKeys := false, apart := false }
def FnExactTroddenBySaid : Prop := fnExactTroddenByRow.holds Try.pinned (OpenSpec.ofChange fnExactTroddenBySpec)

/-- ITS FALSE NEIGHBOUR: 'it returns false'. Refute it at one input. -/
def fnExactTroddenByWrong : ChangeSpec := { name := "fnExactTroddenBy", fn := fun _ => fun
  | [d1, d2, d3, d4] => { results := [.lit (.bool false)], args := [d1, d2, d3, d4] }
  | _ => none }
def FnExactTroddenByWrongFalsely : Prop := fnExactTroddenByRow.holds Try.pinned (OpenSpec.ofChange fnExactTroddenByWrong)

/-- 'laws.FnExactSafeToAppend': WHATEVER THE INPUT: true; the input reads as it did. -/
def fnExactSafeToAppendSpec : ChangeSpec := { name := "fnExactSafeToAppend", fn := fun _ => fun
  | [d1, d2, d3] => { results := [.lit (.bool true)], args := [d1, d2, d3] }
  | _ => none }
def fnExactSafeToAppendRow : OpenClaim := { program := "ytomgjhdknondmaa", sum := "104a9039e5e349f1fe54247aca0b305686fa6acb327efd938db8e87bb1ebc542", func := "loop.example/g01179/laws.FnExactSafeToAppend", spec := "fnExactSafeToAppend", unfollowed := true, recurses := true, plainKeys := false, apart := false }
def FnExactSafeToAppendSaid : Prop := fnExactSafeToAppendRow.holds Try.pinned (OpenSpec.ofChange fnExactSafeToAppendSpec)

/-- ITS FALSE NEIGHBOUR: 'it returns false'. Refute it at one input. -/
def fnExactSafeToAppendWrong : ChangeSpec := { name := "fnExactSafeToAppend", fn := fun _ => fun
  | [d1, d2, d3] => { results := [.lit (.bool false)], args := [d1, d2, d3] }
  | _ => none }
def FnExactSafeToAppendWrongFalsely : Prop := fnExactSafeToAppendRow.holds Try.pinned (OpenSpec.ofChange fnExactSafeToAppendWrong)

/- THE SECOND FORM. 'bulk': how many values and letters a reading holds, each counted each time it is reached (what is shared counts as often as it is met; a slice's spare places count too). A statement '..UptoSaid' is the law's where the arguments, and the package variables that the reading takes, are together of bulk at most 1048576: NARROWER than '..Said'. Prove '..Said' where nothing that the law and all that it calls make is longer than what came in: it says more and counts as full. Else prove '..UptoSaid'. A law counts once. -/
mutual
def uptoBulk {H : Type} : DataW H → Nat
  | .lit (.string bytes) => bytes.length + 1
  | .lit _ => 1
  | .nil => 1
  | .ptr d => uptoBulk d + 1
  | .slice elems spare => uptoBulkAll elems + uptoBulkAll spare + 1
  | .agg parts => uptoBulkAll parts + 1
  | .iface _ d => uptoBulk d + 1
  | .map entries => uptoBulkEntries entries + 1
  | .held _ => 1
def uptoBulkAll {H : Type} : List (DataW H) → Nat
  | [] => 0
  | d :: r => uptoBulk d + uptoBulkAll r
def uptoBulkEntries {H : Type} : List (Lit × DataW H) → Nat
  | [] => 0
  | x :: r => uptoBulkEntry x + uptoBulkEntries r
def uptoBulkEntry {H : Type} : Lit × DataW H → Nat
  | (.string bytes, d) => bytes.length + uptoBulk d + 1
  | (_, d) => uptoBulk d + 1
 end
def uptoSmall : (H : Type) → List (DataW H) → Bool := fun _ ds => decide (uptoBulkAll ds ≤ 1048576)
def OpenSpec.upto (s : _root_.Go.ChangeSpec) : _root_.Go.OpenSpec := { _root_.Go.OpenSpec.ofChange s with cond := some uptoSmall }

/-- 'laws.FnSharing', WHERE WHAT IT READS IS OF BULK AT MOST 1048576: true; the input reads as it did. -/
def fnSharingUptoRow : OpenClaim := { program := "ytomgjhdknondmaa", sum := "104a9039e5e349f1fe54247aca0b305686fa6acb327efd938db8e87bb1ebc542", func := "loop.example/g01179/laws.FnSharing", spec := "fnSharing", unfollowed := true, recurses := true, plainKeys := false, apart := false, narrowed := true }
def FnSharingUptoSaid : Prop := fnSharingUptoRow.holds Try.pinned (OpenSpec.upto fnSharingSpec)

/-- 'laws.FnNoticing', WHERE WHAT IT READS IS OF BULK AT MOST 1048576: true; the input reads as it did. -/
def fnNoticingUptoRow : OpenClaim := { program := "ytomgjhdknondmaa", sum := "104a9039e5e349f1fe54247aca0b305686fa6acb327efd938db8e87bb1ebc542", func := "loop.example/g01179/laws.FnNoticing", spec := "fnNoticing", unfollowed := true, recurses := true, plainKeys := false, apart := false, narrowed := true }
def FnNoticingUptoSaid : Prop := fnNoticingUptoRow.holds Try.pinned (OpenSpec.upto fnNoticingSpec)

/-- 'laws.FnTreading', WHERE WHAT IT READS IS OF BULK AT MOST 1048576: true; the input reads as it did. -/
def fnTreadingUptoRow : OpenClaim := { program := "ytomgjhdknondmaa", sum := "104a9039e5e349f1fe54247aca0b305686fa6acb327efd938db8e87bb1ebc542", func := "loop.example/g01179/laws.FnTreading", spec := "fnTreading", unfollowed := true, recurses := true, plainKeys := false, apart := false, narrowed := true }
def FnTreadingUptoSaid : Prop := fnTreadingUptoRow.holds Try.pinned (OpenSpec.upto fnTreadingSpec)

/-- 'laws.FnExactAreWatched', WHERE WHAT IT READS IS OF BULK AT MOST 1048576: true; the input reads as it did. -/
def fnExactAreWatchedUptoRow : OpenClaim := { program := "ytomgjhdknondmaa", sum := "104a9039e5e349f1fe54247aca0b305686fa6acb327efd938db8e87bb1ebc542", func := "loop.example/g01179/laws.FnExactAreWatched", spec := "fnExactAreWatched", plainKeys := false, apart := false, narrowed := true }
def FnExactAreWatchedUptoSaid : Prop := fnExactAreWatchedUptoRow.holds Try.pinned (OpenSpec.upto fnExactAreWatchedSpec)

/-- 'laws.FnExactCommonPlaces', WHERE WHAT IT READS IS OF BULK AT MOST 1048576: true; the input reads as it did. -/
def fnExactCommonPlacesUptoRow : OpenClaim := { program := "ytomgjhdknondmaa", sum := "104a9039e5e349f1fe54247aca0b305686fa6acb327efd938db8e87bb1ebc542", func := "loop.example/g01179/laws.FnExactCommonPlaces", spec := "fnExactCommonPlaces", plainKeys := false, apart := false, narrowed := true }
def FnExactCommonPlacesUptoSaid : Prop := fnExactCommonPlacesUptoRow.holds Try.pinned (OpenSpec.upto fnExactCommonPlacesSpec)

/-- 'laws.FnExactDoShare', WHERE WHAT IT READS IS OF BULK AT MOST 1048576: true; the input reads as it did. -/
def fnExactDoShareUptoRow : OpenClaim := { program := "ytomgjhdknondmaa", sum := "104a9039e5e349f1fe54247aca0b305686fa6acb327efd938db8e87bb1ebc542", func := "loop.example/g01179/laws.FnExactDoShare", spec := "fnExactDoShare", plainKeys := false, apart := false, narrowed := true }
def FnExactDoShareUptoSaid : Prop := fnExactDoShareUptoRow.holds Try.pinned (OpenSpec.upto fnExactDoShareSpec)

/-- 'laws.FnExactAreNear', WHERE WHAT IT READS IS OF BULK AT MOST 1048576: true; the input reads as it did. -/
def fnExactAreNearUptoRow : OpenClaim := { program := "ytomgjhdknondmaa", sum := "104a9039e5e349f1fe54247aca0b305686fa6acb327efd938db8e87bb1ebc542", func := "loop.example/g01179/laws.FnExactAreNear", spec := "fnExactAreNear", plainKeys := false, apart := false, narrowed := true }
def FnExactAreNearUptoSaid : Prop := fnExactAreNearUptoRow.holds Try.pinned (OpenSpec.upto fnExactAreNearSpec)

/-- 'laws.FnExactNoticedBy', WHERE WHAT IT READS IS OF BULK AT MOST 1048576: true; the input reads as it did. -/
def fnExactNoticedByUptoRow : OpenClaim := { program := "ytomgjhdknondmaa", sum := "104a9039e5e349f1fe54247aca0b305686fa6acb327efd938db8e87bb1ebc542", func := "loop.example/g01179/laws.FnExactNoticedBy", spec := "fnExactNoticedBy", unfollowed := true, recurses := true, plainKeys := false, apart := false, narrowed := true }
def FnExactNoticedByUptoSaid : Prop := fnExactNoticedByUptoRow.holds Try.pinned (OpenSpec.upto fnExactNoticedBySpec)

/-- 'laws.FnExactNoticedCounts', WHERE WHAT IT READS IS OF BULK AT MOST 1048576: true; the input reads as it did. -/
def fnExactNoticedCountsUptoRow : OpenClaim := { program := "ytomgjhdknondmaa", sum := "104a9039e5e349f1fe54247aca0b305686fa6acb327efd938db8e87bb1ebc542", func := "loop.example/g01179/laws.FnExactNoticedCounts", spec := "fnExactNoticedCounts", unfollowed := true, recurses := true, plainKeys := false, apart := false, narrowed := true }
def FnExactNoticedCountsUptoSaid : Prop := fnExactNoticedCountsUptoRow.holds Try.pinned (OpenSpec.upto fnExactNoticedCountsSpec)

/-- 'laws.FnExactShareGroups', WHERE WHAT IT READS IS OF BULK AT MOST 1048576: true; the input reads as it did. -/
def fnExactShareGroupsUptoRow : OpenClaim := { program := "ytomgjhdknondmaa", sum := "104a9039e5e349f1fe54247aca0b305686fa6acb327efd938db8e87bb1ebc542", func := "loop.example/g01179/laws.FnExactShareGroups", spec := "fnExactShareGroups", plainKeys := false, apart := false, narrowed := true }
def FnExactShareGroupsUptoSaid : Prop := fnExactShareGroupsUptoRow.holds Try.pinned (OpenSpec.upto fnExactShareGroupsSpec)

/-- 'laws.FnExactTroddenBy', WHERE WHAT IT READS IS OF BULK AT MOST 1048576: true; the input reads as it did. -/
def fnExactTroddenByUptoRow : OpenClaim := { program := "ytomgjhdknondmaa", sum := "104a9039e5e349f1fe54247aca0b305686fa6acb327efd938db8e87bb1ebc542", func := "loop.example/g01179/laws.FnExactTroddenBy", spec := "fnExactTroddenBy", unfollowed := true, recurses := true, plainKeys := false, apart := false, narrowed := true }
def FnExactTroddenByUptoSaid : Prop := fnExactTroddenByUptoRow.holds Try.pinned (OpenSpec.upto fnExactTroddenBySpec)

/-- 'laws.FnExactSafeToAppend', WHERE WHAT IT READS IS OF BULK AT MOST 1048576: true; the input reads as it did. -/
def fnExactSafeToAppendUptoRow : OpenClaim := { program := "ytomgjhdknondmaa", sum := "104a9039e5e349f1fe54247aca0b305686fa6acb327efd938db8e87bb1ebc542", func := "loop.example/g01179/laws.FnExactSafeToAppend", spec := "fnExactSafeToAppend", unfollowed := true, recurses := true, plainKeys := false, apart := false, narrowed := true }
def FnExactSafeToAppendUptoSaid : Prop := fnExactSafeToAppendUptoRow.holds Try.pinned (OpenSpec.upto fnExactSafeToAppendSpec)

end Rows
end Go.Proofs.Ytomgjhdknondmaa
