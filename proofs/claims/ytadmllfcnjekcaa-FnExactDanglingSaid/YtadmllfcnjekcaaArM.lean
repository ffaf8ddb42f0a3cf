/-
  Arenas, as mathematics.
-/
import Derived.Test.YtadmllfcnjekcaaSpecM
namespace Go.Proofs.Ytadmllfcnjekcaa
open Go.RowKit

/-- An arena but for its memory: the block, how much is used, the marks. -/
structure An where
  w : Win
  us : Int
  ms : List Int
/-- The mark before the one with number i, or 0. -/
def lastOf (mk : List Int) (i : Nat) : Int := if i = 0 then 0 else mk.getD (i - 1) 0
/-- The first n marks are valid. -/
def MksOK (u : Int) (mk : List Int) (n : Nat) : Prop := ∀ i, i < n → lastOf mk i ≤ mk.getD i 0 ∧ mk.getD i 0 ≤ u
instance (u : Int) (mk : List Int) (n : Nat) : Decidable (MksOK u mk n) := by unfold MksOK; exact inferInstance
theorem MksOK.zero (u : Int) (mk : List Int) : MksOK u mk 0 := fun i h => by omega
theorem MksOK.snoc {u : Int} {mk : List Int} {n : Nat} (h : MksOK u mk n) (h1 : lastOf mk n ≤ mk.getD n 0) (h2 : mk.getD n 0 ≤ u) : MksOK u mk (n + 1) := fun i hi => by
  rcases Nat.lt_succ_iff_lt_or_eq.1 hi with h3 | rfl
  · exact h i h3
  · exact ⟨h1, h2⟩
theorem MksOK.less {u : Int} {mk : List Int} {n k : Nat} (h : MksOK u mk n) (hk : k ≤ n) : MksOK u mk k := fun i hi => h i (by omega)
theorem MksOK.last {u : Int} {mk : List Int} {n : Nat} (h : MksOK u mk n) : 0 ≤ lastOf mk n := by
  induction n with
  | zero => simp [lastOf]
  | succ k ih =>
    have h1 := ih (h.less (by omega))
    have h2 := (h k (by omega)).1
    simp only [lastOf, Nat.add_one_ne_zero, if_false, Nat.add_sub_cancel]
    omega
theorem MksOK.get {u : Int} {mk : List Int} {n : Nat} (h : MksOK u mk n) {i : Nat} (hi : i < n) : 0 ≤ mk.getD i 0 ∧ mk.getD i 0 ≤ u :=
  ⟨Int.le_trans (h.less (Nat.le_of_lt hi)).last (h i hi).1, (h i hi).2⟩
/-- A valid arena. -/
def ArOK (m : List (List Int)) (a : An) : Prop := WinOK m a.w ∧ 0 ≤ a.us ∧ a.us ≤ a.w.len ∧ a.ms.length ≤ 8 ∧ MksOK a.us a.ms a.ms.length
instance (m : List (List Int)) (a : An) : Decidable (ArOK m a) := by unfold ArOK; exact inferInstance
def zeroAn : An := ⟨⟨0, 0, 0, 0⟩, 0, []⟩
def isArenaR (m : List (List Int)) (a : An) : Bool := decide (ArOK m a)
/-- The first number from u on that is a multiple of d. -/
def upTo (u d : Int) : Int := Int.tdiv (u + d - 1) d * d
theorem upTo_range {u d : Int} (h0 : 0 ≤ u) (h1 : 1 ≤ d) : u ≤ upTo u d ∧ upTo u d < u + d := by
  unfold upTo
  rw [Int.tdiv_eq_ediv_of_nonneg (by omega)]
  have e := Int.ediv_mul_add_emod (u + d - 1) d
  have h2 := Int.emod_nonneg (u + d - 1) (show d ≠ 0 by omega)
  have h3 := Int.emod_lt_of_pos (u + d - 1) (show 0 < d by omega)
  omega
def leftR (m : List (List Int)) (a : An) (d : Int) : Int × Bool :=
  if ArOK m a ∧ 1 ≤ d ∧ d ≤ 16 ∧ upTo a.us d ≤ a.w.len then (a.w.len - upTo a.us d, true) else (0, false)
def isGivenR (m : List (List Int)) (a : An) (x : Win) : Bool × Bool :=
  if ArOK m a ∧ WinOK m x then (decide (x.arr = a.w.arr ∧ a.w.start ≤ x.start ∧ x.start + x.cap ≤ a.w.start + a.us), true) else (false, false)
def splitArR (m : List (List Int)) (a : An) : Win × Win × Bool :=
  if ArOK m a then (⟨a.w.arr, a.w.start, a.us, a.us⟩, ⟨a.w.arr, a.w.start + a.us, a.w.len - a.us, a.w.cap - a.us⟩, true) else (⟨0, 0, 0, 0⟩, ⟨0, 0, 0, 0⟩, false)
def newArR (m : List (List Int)) (x : Win) : List (List Int) × An × Bool := if WinOK m x then (m, ⟨x, 0, []⟩, true) else ([], zeroAn, false)
def markArR (m : List (List Int)) (a : An) : List (List Int) × An × Bool :=
  if ArOK m a ∧ a.ms.length ≠ 8 then (m, ⟨a.w, a.us, a.ms ++ [a.us]⟩, true) else ([], zeroAn, false)
def resetArR (m : List (List Int)) (a : An) : List (List Int) × An × Bool :=
  if ArOK m a ∧ a.ms.length ≠ 0 then (m, ⟨a.w, a.ms.getD (a.ms.length - 1) 0, a.ms.take (a.ms.length - 1)⟩, true) else ([], zeroAn, false)
/-- What can be given. -/
def AskOK (s d : Int) : Prop := 0 ≤ s ∧ 1 ≤ d ∧ d ≤ 16
def Fits (l u s d : Int) : Prop := upTo u d ≤ l ∧ s ≤ l - upTo u d
instance (s d : Int) : Decidable (AskOK s d) := by unfold AskOK; exact inferInstance
instance (l u s d : Int) : Decidable (Fits l u s d) := by unfold Fits; exact inferInstance
def giveR (m : List (List Int)) (a : An) (s d : Int) : List (List Int) × An × Win × Bool :=
  if ArOK m a ∧ AskOK s d ∧ Fits a.w.len a.us s d then
    (m, ⟨a.w, upTo a.us d + s, a.ms⟩, ⟨a.w.arr, a.w.start + upTo a.us d, s, s⟩, true)
  else ([], zeroAn, ⟨0, 0, 0, 0⟩, false)
end Go.Proofs.Ytadmllfcnjekcaa
