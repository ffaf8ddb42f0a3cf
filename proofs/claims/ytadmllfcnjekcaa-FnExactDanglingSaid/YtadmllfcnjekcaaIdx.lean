/-
  Numbers of windows that fit; windows that see a place: l3Sees, l3Noticed, l3Place of spec; seenBy, isOn, numbersOf of impl.
-/
import Derived.Test.YtadmllfcnjekcaaWatch
import Derived.Test.YtadmllfcnjekcaaOvl
import Derived.Test.YtadmllfcnjekcaaBytes0
import Derived.BigQuiet
namespace Go.Proofs.Ytadmllfcnjekcaa
open Go.RowKit

/-- The numbers below k at which p holds. -/
def idxsTo (p : Nat → Bool) (k : Nat) : List Int := ((List.range k).filter p).map fun (i : Nat) => (i : Int)
theorem idxsTo_zero (p : Nat → Bool) : idxsTo p 0 = [] := rfl
theorem idxsTo_yes {p : Nat → Bool} {k : Nat} (h : p k = true) : idxsTo p (k + 1) = idxsTo p k ++ [(k : Int)] := by simp [idxsTo, List.range_succ, List.filter_append, h]
theorem idxsTo_no {p : Nat → Bool} {k : Nat} (h : p k = false) : idxsTo p (k + 1) = idxsTo p k := by simp [idxsTo, List.range_succ, List.filter_append, h]
theorem idxsTo_len (p : Nat → Bool) (k : Nat) : (idxsTo p k).length ≤ k := by
  have := List.length_filter_le p (List.range k)
  simpa [idxsTo] using this
def winAt (L : List Win) (k : Nat) : Win := L.getD k ⟨0, 0, 0, 0⟩
theorem winAt_eq {L : List Win} {k : Nat} (h : k < L.length) : winAt L k = L[k] := by simp [winAt, List.getElem?_eq_getElem h]
/-- A window sees a place of an array. -/
def SeesP (x : Win) (ar pl : Int) : Prop := x.arr = ar ∧ x.start ≤ pl ∧ pl < x.start + x.len
instance (x : Win) (ar pl : Int) : Decidable (SeesP x ar pl) := by unfold SeesP; exact inferInstance
def seesB (L : List Win) (ar pl : Int) (k : Nat) : Bool := decide (SeesP (winAt L k) ar pl)
/-- A memory has a place. -/
def PlaceOK (m : List (List Int)) (ar pl : Int) : Prop := 0 ≤ ar ∧ ar < m.length ∧ 0 ≤ pl ∧ pl < (m.getD ar.toNat []).length
instance (m : List (List Int)) (ar pl : Int) : Decidable (PlaceOK m ar pl) := by unfold PlaceOK; exact inferInstance

theorem info_int : (Try.prog.info? 3).map (fun i => (i.zero, i.size, i.bytes)) = some (some (.int .i64 0), 1, 8) := by kernel_rfl

end Go.Proofs.Ytadmllfcnjekcaa
