/-
  Where the ways of a region with one call and one new variable, a memory, meet again.
-/
import Derived.Test.YtkclpppnjfhbpaaBox2
namespace Go.Proofs.Ytkclpppnjfhbpaa
open Go.RowKit

/-- The variable comes behind the call. -/
theorem meet_new {w3 w4 : World} {A : Option Addr} {k : Nat} {R : List (List Int)} (ho : OwnM w4 w3.heap.size w4.heap.size (.slice A R.length k) R) (hc : Below w3.heap.size w3 w4) :
    ∃ (g lo hi : Nat) (v : Value), Value.pointer (some ⟨w4.heap.size, 0, none⟩) = .pointer (some ⟨g, 0, none⟩) ∧ MBox (w4.alloc (.cells #[.slice A R.length k] 31)) w3.heap.size g lo hi v R ∧ Below w3.heap.size w3 (w4.alloc (.cells #[.slice A R.length k] 31)) :=
  ⟨w4.heap.size, w3.heap.size, w4.heap.size, _, rfl, MBox.mk' (heap_alloc_new _ _) (ho.below ((Below.refl _ _).alloc (Nat.le_refl _) _)) hc.size (Nat.le_refl _) (by simp) (by have := hc.size; simp; omega) (.inr (Nat.le_refl _)), hc.alloc hc.size _⟩
/-- The variable comes ahead of the call. -/
theorem meet_old {w3 w4 : World} {A : Option Addr} {k : Nat} {R : List (List Int)} {u : Value} (ho : OwnM w4 (w3.heap.size + 1) w4.heap.size (.slice A R.length k) R) (hc : Below w3.heap.size w3 w4) (hz : w4.heap[w3.heap.size]? = some (.cells #[u] 31)) (hs : w3.heap.size + 1 ≤ w4.heap.size) :
    ∃ (g lo hi : Nat) (v : Value), Value.pointer (some ⟨w3.heap.size, 0, none⟩) = .pointer (some ⟨g, 0, none⟩) ∧ MBox (w4.setCell ⟨w3.heap.size, 0, none⟩ (.slice A R.length k)) w3.heap.size g lo hi v R ∧ Below w3.heap.size w3 (w4.setCell ⟨w3.heap.size, 0, none⟩ (.slice A R.length k)) :=
  ⟨w3.heap.size, w3.heap.size + 1, w4.heap.size, _, rfl, MBox.mk' (one_set hz) (own_setC ho (.inl (Nat.lt_succ_self _))) (Nat.le_refl _) (Nat.le_succ _) (by rw [World.size_setCell]; exact Nat.le_refl _) (by rw [World.size_setCell]; exact hs) (.inl (Nat.lt_succ_self _)), hc.setCell (Nat.le_refl _) _⟩
theorem own_drewG {F : World} {lo lo' hi : Nat} {v : Value} {m : List (List Int)} (h : OwnM F lo hi v m) (hs : hi ≤ F.heap.size) (hl : lo' ≤ lo) : OwnM F.drew lo' F.drew.heap.size v m :=
  OwnM.mono (show OwnM F.drew lo hi v m from h) hl hs
theorem own_finG {F : World} {lo lo' hi : Nat} {v : Value} {m : List (List Int)} (h : OwnM F lo hi v m) (hs : hi ≤ F.heap.size) (hl : lo' ≤ lo) : OwnM F lo' F.heap.size v m := OwnM.mono h hl hs
end Go.Proofs.Ytkclpppnjfhbpaa
