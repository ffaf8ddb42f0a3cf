/-
  How many places two windows see both: l2Overlap of spec, common and shares of impl's Window.
-/
import Derived.Test.YtomebbapjolnlaaApart
import Derived.Test.YtomebbapjolnlaaWin2
import Derived.Deep.DeepCutAuto
namespace Go.Proofs.Ytomebbapjolnlaa
open Go.RowKit

/-- How many places two windows see both. -/
def ovl (x y : Win) : Int := if x.arr = y.arr then max 0 (min (x.start + x.len) (y.start + y.len) - max x.start y.start) else 0
theorem ovl_nonneg (x y : Win) : 0 ≤ ovl x y := by unfold ovl; split <;> omega
/-- What numbers of windows are like: none so great that a sum wraps. -/
structure Tame (x : Win) : Prop where
  s0 : 0 ≤ x.start
  s1 : x.start ≤ 1000
  l0 : 0 ≤ x.len
  l1 : x.len ≤ 1000
  c0 : 0 ≤ x.cap
  c1 : x.cap ≤ 1000
theorem WinOK.tame {m : List (List Int)} {x : Win} (h : WinOK m x) : Tame x := by
  obtain ⟨n, s, l, c, rfl, hnl, hlc, hsc, h1, h64, h16⟩ := h.nat
  constructor <;> simp only <;> omega
/-- The window that sees the places that both see. -/
def commonW (x y : Win) : Win :=
  if x.arr = y.arr ∧ max x.start y.start < min (x.start + x.len) (y.start + y.len) then ⟨x.arr, max x.start y.start, min (x.start + x.len) (y.start + y.len) - max x.start y.start, min (x.start + x.len) (y.start + y.len) - max x.start y.start⟩ else ⟨0, 0, 0, 0⟩
theorem commonW_zero (x y : Win) : commonW x y = ⟨0, 0, 0, 0⟩ ↔ ovl x y = 0 := by
  unfold commonW ovl
  split
  · rename_i h
    rw [if_pos h.1]
    have := h.2
    constructor
    · intro e
      injection e with _ _ e3 _
      omega
    · intro e; omega
  · rename_i h
    refine ⟨fun _ => ?_, fun _ => rfl⟩
    split
    · rename_i ha
      have : ¬ max x.start y.start < min (x.start + x.len) (y.start + y.len) := fun hl => h ⟨ha, hl⟩
      omega
    · rfl

end Go.Proofs.Ytomebbapjolnlaa
