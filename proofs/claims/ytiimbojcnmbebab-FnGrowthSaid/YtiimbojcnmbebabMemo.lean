/-
  The law's helpers on memories and windows: toMemory, szMemory, eqMemory, markMemory, heldMemory, toWindow, eqWindow.
-/
import Derived.Test.YtiimbojcnmbebabMatE
import Derived.Test.YtiimbojcnmbebabMatK
namespace Go.Proofs.Ytiimbojcnmbebab
open Go.RowKit

theorem one_cell {w : World} {g : Nat} {u : Value} {t : TypeId} (h : w.heap[g]? = some (.cells #[u] t)) : w.cell? ⟨g, 0, none⟩ = some u := by simp [World.cell?, h]
theorem one_frozen {w : World} {g : Nat} {u : Value} {t : TypeId} (h : w.heap[g]? = some (.cells #[u] t)) : w.frozen? ⟨g, 0, none⟩ = false := by simp [World.frozen?, h]
theorem alloc_old {w : World} {g : Nat} {o : Obj} (x : Obj) (h : w.heap[g]? = some o) : (w.alloc x).heap[g]? = some o :=
  (((Below.refl w.heap.size w).alloc (Nat.le_refl _) x).block g (Array.getElem?_eq_some_iff.1 h).1).trans h
theorem Span.setCell {lo hi : Nat} {a w : World} (h : Span lo hi a w) {p : Addr} (h1 : lo ≤ p.block) (h2 : p.block < hi) (u : Value) : Span lo hi a (w.setCell p u) :=
  ⟨h.os, h.tape, h.output, by rw [World.size_setCell]; exact h.size, fun k hk ho => by rw [Below.heap_setCell _ _ _ _ (by omega)]; exact h.block k hk ho⟩
/-- A window's four numbers. -/
structure Win where
  arr : Int
  start : Int
  len : Int
  cap : Int
deriving DecidableEq
def Win.val (x : Win) : Value := .agg #[.int .i64 x.arr, .int .i64 x.start, .int .i64 x.len, .int .i64 x.cap]
def Win.zero : Win := ⟨0, 0, 0, 0⟩
end Go.Proofs.Ytiimbojcnmbebab
