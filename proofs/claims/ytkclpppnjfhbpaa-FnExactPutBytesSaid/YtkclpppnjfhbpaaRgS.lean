/-
  Rings of spec: l5Ring, l5Slot, l5Pop.
-/
import Derived.Test.YtkclpppnjfhbpaaRgA
import Derived.Test.YtkclpppnjfhbpaaWin2
namespace Go.Proofs.Ytkclpppnjfhbpaa
open Go.RowKit

theorem WinOK.small {m : List (List Int)} {x : Win} (h : WinOK m x) : 0 ≤ x.arr ∧ x.arr ≤ 16 ∧ 0 ≤ x.start ∧ x.start ≤ 64 ∧ 0 ≤ x.len ∧ x.len ≤ 64 ∧ 0 ≤ x.cap ∧ x.cap ≤ 64 ∧ x.len ≤ x.cap ∧ x.start + x.cap ≤ 64 := by
  obtain ⟨n, s, l, c, rfl, hn, h1, h2, h3, h4, h5⟩ := h.nat
  dsimp only
  omega

end Go.Proofs.Ytkclpppnjfhbpaa
