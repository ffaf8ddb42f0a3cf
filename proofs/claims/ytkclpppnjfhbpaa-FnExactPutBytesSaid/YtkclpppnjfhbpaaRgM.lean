/-
  Rings, as mathematics.
-/
import Derived.Test.YtkclpppnjfhbpaaWin
namespace Go.Proofs.Ytkclpppnjfhbpaa
open Go.RowKit

structure Rg where
  w : Win
  first : Int
  many : Int
/-- A valid ring. -/
def RgOK (m : List (List Int)) (r : Rg) : Prop := WinOK m r.w ∧ 0 < r.w.len ∧ 0 ≤ r.first ∧ r.first ≤ r.w.len - 1 ∧ 0 ≤ r.many ∧ r.many ≤ r.w.len
instance (m : List (List Int)) (r : Rg) : Decidable (RgOK m r) := by unfold RgOK; exact inferInstance
/-- The slot of an element. -/
def slotR (r : Rg) (i : Int) : Int := (r.first + i) % r.w.len
theorem slotR_lt {m : List (List Int)} {r : Rg} (h : RgOK m r) {i : Int} (_hi : 0 ≤ i) : 0 ≤ slotR r i ∧ slotR r i < r.w.len := by
  obtain ⟨_, h1, h2, h3, _, _⟩ := h
  unfold slotR
  exact ⟨Int.emod_nonneg _ (by omega), Int.emod_lt_of_pos _ h1⟩
theorem slotR_eq {m : List (List Int)} {r : Rg} (h : RgOK m r) {i : Int} (hi : 0 ≤ i) (hl : i ≤ r.w.len) : slotR r i = if r.first + i < r.w.len then r.first + i else r.first + i - r.w.len := by
  obtain ⟨_, h1, h2, h3, _, _⟩ := h
  unfold slotR
  split
  · exact Int.emod_eq_of_lt (by omega) (by omega)
  · rename_i hh
    have h4 : r.first + i = (r.first + i - r.w.len) + r.w.len := by omega
    rw [h4, Int.add_emod_right]
    rw [Int.emod_eq_of_lt (by omega) (by omega)]
    omega
/-- The place of a slot in its array, and what lies there. -/
theorem slot_at {m : List (List Int)} {r : Rg} (h : RgOK m r) {i : Int} (hi : 0 ≤ i) : r.w.arr.toNat < m.length ∧ r.w.start.toNat + (slotR r i).toNat < (m.getD r.w.arr.toNat []).length := by
  have h5 := slotR_lt h hi
  obtain ⟨⟨_, a1, a2, a3, a4, a5, a6⟩, h1, h2, h3, _, _⟩ := h
  omega
def elR (m : List (List Int)) (r : Rg) (i : Int) : Int := (m.getD r.w.arr.toNat []).getD (r.w.start.toNat + (slotR r i).toNat) 0
/-- The elements, in order. -/
def ringL (m : List (List Int)) (r : Rg) : List Int := (List.range r.many.toNat).map fun (i : Nat) => elR m r i
theorem ringL_len (m : List (List Int)) (r : Rg) : (ringL m r).length = r.many.toNat := by simp [ringL]
def zeroRg : Rg := ⟨⟨0, 0, 0, 0⟩, 0, 0⟩
def isRingR (m : List (List Int)) (r : Rg) : Bool × Bool := (decide (RgOK m r), decide (MemOK m))
def newRingR (m : List (List Int)) (x : Win) : Rg × Bool := if RgOK m ⟨x, 0, 0⟩ then (⟨x, 0, 0⟩, true) else (zeroRg, false)
def ringBytesR (m : List (List Int)) (r : Rg) : List Int × Bool := if RgOK m r then (ringL m r, true) else ([], false)
def popFrontR (m : List (List Int)) (r : Rg) : Int × Rg × Bool := if RgOK m r ∧ 0 < r.many then (elR m r 0, ⟨r.w, slotR r 1, r.many - 1⟩, true) else (0, zeroRg, false)
def popBackR (m : List (List Int)) (r : Rg) : Int × Rg × Bool := if RgOK m r ∧ 0 < r.many then (elR m r (r.many - 1), ⟨r.w, r.first, r.many - 1⟩, true) else (0, zeroRg, false)
def partsR (m : List (List Int)) (r : Rg) : Win × Win × Bool :=
  if RgOK m r then (⟨r.w.arr, r.w.start + r.first, min r.many (r.w.len - r.first), min r.many (r.w.len - r.first)⟩, ⟨r.w.arr, r.w.start, r.many - min r.many (r.w.len - r.first), r.many - min r.many (r.w.len - r.first)⟩, true) else (⟨0, 0, 0, 0⟩, ⟨0, 0, 0, 0⟩, false)
theorem slot0 {m : List (List Int)} {r : Rg} (h : RgOK m r) : slotR r 0 = r.first := by
  rw [slotR_eq h (Int.le_refl _) (by have := h.2.1; omega)]
  have := h.2.2.2.1
  rw [if_pos (by omega)]; omega
end Go.Proofs.Ytkclpppnjfhbpaa
