/-
  The law's arguments, a memory and a window, as the law has them; what stays of them.
-/
import Derived.Test.YtiimbojcnmbebabImplC
import Derived.Deep.RegionHeld3
namespace Go.Proofs.Ytiimbojcnmbebab
open Go.RowKit

/-- The cells of both, as loads want them. -/
def LWc (W : World) (g : Nat) (A : Option Addr) (n c : Nat) (a s l k : Int) : Prop :=
  W.cell? ⟨g, 0, none⟩ = some (.slice A n c) ∧ W.cell? ⟨g + 1, 0, none⟩ = some (.int .i64 a) ∧ W.cell? ⟨g + 1, 1, none⟩ = some (.int .i64 s) ∧ W.cell? ⟨g + 1, 2, none⟩ = some (.int .i64 l) ∧ W.cell? ⟨g + 1, 3, none⟩ = some (.int .i64 k)
end Go.Proofs.Ytiimbojcnmbebab
