/-
  AreApart of spec and impl, l2Both and l2Overlap of spec.
-/
import Derived.Test.YtomebbapjolnlaaImplC
import Derived.Deep.RegionHeld3
namespace Go.Proofs.Ytomebbapjolnlaa
open Go.RowKit

/-- A memory and two windows, as a function has them. -/
structure MW2 (W : World) (g : Nat) (A : Option Addr) (n c : Nat) (x y : Win) : Prop where
  mem : W.heap[g]? = some (.cells #[.slice A n c] 32)
  win : W.heap[g + 1]? = some (.cells #[.int .i64 x.arr, .int .i64 x.start, .int .i64 x.len, .int .i64 x.cap] 90)
  win2 : W.heap[g + 1 + 1]? = some (.cells #[.int .i64 y.arr, .int .i64 y.start, .int .i64 y.len, .int .i64 y.cap] 90)
theorem MW2.below {W W' : World} {g : Nat} {A : Option Addr} {n c : Nat} {x y : Win} (h : MW2 W g A n c x y) (hb : Below W.heap.size W W') : MW2 W' g A n c x y :=
  ⟨(hb.block _ (Array.getElem?_eq_some_iff.1 h.mem).1).trans h.mem, (hb.block _ (Array.getElem?_eq_some_iff.1 h.win).1).trans h.win, (hb.block _ (Array.getElem?_eq_some_iff.1 h.win2).1).trans h.win2⟩
theorem enterMW2 (A : Option Addr) (n c : Nat) (x y : Win) (w : World) :
    ∃ w0, ((w.alloc (.cells #[.slice A n c] 32)).alloc (.cells #[.int .i64 x.arr, .int .i64 x.start, .int .i64 x.len, .int .i64 x.cap] 90)).alloc (.cells #[.int .i64 y.arr, .int .i64 y.start, .int .i64 y.len, .int .i64 y.cap] 90) = w0 ∧ Below w.heap.size w w0 ∧ w0.heap.size = w.heap.size + 3 ∧ MW2 w0 w.heap.size A n c x y := by
  obtain ⟨h1, h2, h3, h4, h5⟩ := enter3 w (.cells #[.slice A n c] 32) (.cells #[.int .i64 x.arr, .int .i64 x.start, .int .i64 x.len, .int .i64 x.cap] 90) (.cells #[.int .i64 y.arr, .int .i64 y.start, .int .i64 y.len, .int .i64 y.cap] 90)
  exact ⟨_, rfl, h1, h5, ⟨h2, h3, h4⟩⟩
/-- Two windows see no place both. -/
def Apart (x y : Win) : Prop := x.arr ≠ y.arr ∨ x.start + x.len ≤ y.start ∨ y.start + y.len ≤ x.start ∨ x.len ≤ 0 ∨ y.len ≤ 0
instance (x y : Win) : Decidable (Apart x y) := by unfold Apart; exact inferInstance
theorem tup_bool {a b : Bool} (h : a = b) : Ending.returned (.tuple #[.bool a, .bool true]) = Ending.returned (.tuple #[.bool b, .bool true]) := by rw [h]
def apartV (m : List (List Int)) (x y : Win) : Value := if WinOK m x ∧ WinOK m y then .tuple #[.bool (decide (Apart x y)), .bool true] else .tuple #[.bool false, .bool false]

end Go.Proofs.Ytomebbapjolnlaa
