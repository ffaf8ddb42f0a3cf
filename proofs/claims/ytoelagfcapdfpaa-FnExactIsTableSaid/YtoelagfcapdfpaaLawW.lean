/-
  The law's arguments, a memory and a window, as the law has them; what stays of them.
-/
import Derived.Test.YtoelagfcapdfpaaImplC
import Derived.Deep.RegionHeld3
namespace Go.Proofs.Ytoelagfcapdfpaa
open Go.RowKit

/-- Blocks g and g + 1 are the law's memory and window. -/
structure LW (W : World) (g : Nat) (A : Option Addr) (n c : Nat) (a s l k : Int) : Prop where
  mem : W.heap[g]? = some (.cells #[.slice A n c] 24)
  win : W.heap[g + 1]? = some (.cells #[.int .i64 a, .int .i64 s, .int .i64 l, .int .i64 k] 26)
theorem LW.below {W W' : World} {g : Nat} {A : Option Addr} {n c : Nat} {a s l k : Int} (h : LW W g A n c a s l k) (hb : Below W.heap.size W W') : LW W' g A n c a s l k :=
  ⟨(hb.block _ (Array.getElem?_eq_some_iff.1 h.mem).1).trans h.mem, (hb.block _ (Array.getElem?_eq_some_iff.1 h.win).1).trans h.win⟩
theorem enterLW (A : Option Addr) (n c : Nat) (a s l k : Int) (w : World) :
    ∃ w0, (w.alloc (.cells #[.slice A n c] 24)).alloc (.cells #[.int .i64 a, .int .i64 s, .int .i64 l, .int .i64 k] 26) = w0 ∧ Below w.heap.size w w0 ∧ w0.heap.size = w.heap.size + 2 ∧ LW w0 w.heap.size A n c a s l k := by
  obtain ⟨h1, h2, h3, h4⟩ := enter2 w (.cells #[.slice A n c] 24) (.cells #[.int .i64 a, .int .i64 s, .int .i64 l, .int .i64 k] 26)
  exact ⟨_, rfl, h1, h4, h2, h3⟩
/-- The cells of both, as loads want them. -/
def LWc (W : World) (g : Nat) (A : Option Addr) (n c : Nat) (a s l k : Int) : Prop :=
  W.cell? ⟨g, 0, none⟩ = some (.slice A n c) ∧ W.cell? ⟨g + 1, 0, none⟩ = some (.int .i64 a) ∧ W.cell? ⟨g + 1, 1, none⟩ = some (.int .i64 s) ∧ W.cell? ⟨g + 1, 2, none⟩ = some (.int .i64 l) ∧ W.cell? ⟨g + 1, 3, none⟩ = some (.int .i64 k)
theorem LW.cells {W : World} {g : Nat} {A : Option Addr} {n c : Nat} {a s l k : Int} (h : LW W g A n c a s l k) :
    W.cell? ⟨g, 0, none⟩ = some (.slice A n c) ∧ W.cell? ⟨g + 1, 0, none⟩ = some (.int .i64 a) ∧ W.cell? ⟨g + 1, 1, none⟩ = some (.int .i64 s) ∧ W.cell? ⟨g + 1, 2, none⟩ = some (.int .i64 l) ∧ W.cell? ⟨g + 1, 3, none⟩ = some (.int .i64 k) := ⟨one_cell h.mem, four_cells h.win⟩
theorem toWin_calls (a s l k : Int) (w : World) :
    Calls Try.prog 21 #[.agg #[.int .i64 a, .int .i64 s, .int .i64 l, .int .i64 k]] w fun e w' => e = .returned (.agg #[.int .i64 a, .int .i64 s, .int .i64 l, .int .i64 k]) ∧ Below w.heap.size w w' := toWindow_calls ⟨a, s, l, k⟩ w
end Go.Proofs.Ytoelagfcapdfpaa
