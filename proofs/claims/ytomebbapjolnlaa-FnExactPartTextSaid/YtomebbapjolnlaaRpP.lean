/-
  A memory and two ropes, as a function has them of its arguments.
-/
import Derived.Test.YtomebbapjolnlaaRpY
namespace Go.Proofs.Ytomebbapjolnlaa
open Go.RowKit

structure MPP (W : World) (g : Nat) (A : Option Addr) (n c : Nat) (B : Option Addr) (l k : Nat) (B2 : Option Addr) (l2 k2 : Nat) : Prop where
  m : W.heap[g]? = some (.cells #[.slice A n c] 32)
  p : W.heap[g + 1]? = some (.cells #[.slice B l k] 36)
  q : W.heap[g + 1 + 1]? = some (.cells #[.slice B2 l2 k2] 36)
section
variable {W W' : World} {g n c l k l2 k2 : Nat} {A B B2 : Option Addr}
theorem MPP.below (h : MPP W g A n c B l k B2 l2 k2) (hb : Below W.heap.size W W') : MPP W' g A n c B l k B2 l2 k2 :=
  ⟨(hb.block _ (Array.getElem?_eq_some_iff.1 h.m).1).trans h.m, (hb.block _ (Array.getElem?_eq_some_iff.1 h.p).1).trans h.p, (hb.block _ (Array.getElem?_eq_some_iff.1 h.q).1).trans h.q⟩
theorem MPP.cm (h : MPP W g A n c B l k B2 l2 k2) : W.cell? ⟨g, 0, none⟩ = some (.slice A n c) := one_cell h.m
theorem MPP.cp (h : MPP W g A n c B l k B2 l2 k2) : W.cell? ⟨g + 1, 0, none⟩ = some (.slice B l k) := one_cell h.p
theorem MPP.cq (h : MPP W g A n c B l k B2 l2 k2) : W.cell? ⟨g + 1 + 1, 0, none⟩ = some (.slice B2 l2 k2) := one_cell h.q
end
theorem enterMPP (A : Option Addr) (n c : Nat) (B : Option Addr) (l k : Nat) (B2 : Option Addr) (l2 k2 : Nat) (w : World) :
    ∃ w0, ((w.alloc (.cells #[.slice A n c] 32)).alloc (.cells #[.slice B l k] 36)).alloc (.cells #[.slice B2 l2 k2] 36) = w0 ∧ Below w.heap.size w w0 ∧ MPP w0 w.heap.size A n c B l k B2 l2 k2 := by
  obtain ⟨h1, h2, h3, h4, _⟩ := enter3 w (.cells #[.slice A n c] 32) (.cells #[.slice B l k] 36) (.cells #[.slice B2 l2 k2] 36)
  exact ⟨_, rfl, h1, h2, h3, h4⟩
end Go.Proofs.Ytomebbapjolnlaa
