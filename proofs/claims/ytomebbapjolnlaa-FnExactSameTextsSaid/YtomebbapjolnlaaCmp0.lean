/-
  Lists of bytes that compare as equal; a row that reads as bytes, as the library has it.
-/
import Derived.Test.YtomebbapjolnlaaCmp
import Derived.Shelf.Bytes.SlEqualAll
namespace Go.Proofs.Ytomebbapjolnlaa
open Go.RowKit

theorem cmpB_zero : ∀ (a b : List UInt8), (Lib.compareBytes a b == 0) = (a == b)
  | [], [] => by simp [Lib.compareBytes]
  | [], _ :: _ => by simp [Lib.compareBytes]
  | _ :: _, [] => by simp [Lib.compareBytes]
  | x :: xs, y :: ys => by
    have ih := cmpB_zero xs ys
    unfold Lib.compareBytes
    by_cases h1 : x < y
    · have hne : x ≠ y := fun e => by subst e; exact absurd h1 (UInt8.lt_irrefl _)
      simp [h1, hne]
    · by_cases h2 : y < x
      · have hne : x ≠ y := fun e => by subst e; exact absurd h2 (UInt8.lt_irrefl _)
        simp [h1, h2, hne]
      · have he : x = y := UInt8.le_antisymm (UInt8.not_lt.1 h2) (UInt8.not_lt.1 h1)
        subst he
        simp [ih]
theorem cmp_zero (xs ys : List Int) : (cmpI xs ys == 0) = (Lib.bytesOf xs == Lib.bytesOf ys) := cmpB_zero _ _
theorem bytesIn_rd {w : World} {B : Nat} {A : Option Addr} {xs : List Int} (h : Rd w B A (intV .u8 xs)) : Lib.BytesIn w A xs.length xs := fun h0 => by
  rcases h with h | ⟨b, off, rfl, hb, hc⟩
  · have hx : xs = [] := by simpa [intV] using h
    subst hx
    exact absurd h0 (Nat.lt_irrefl 0)
  · refine ⟨b, off, rfl, fun i hi => hc i _ ?_⟩
    rw [List.getD_eq_getElem?_getD, List.getElem?_eq_getElem hi]
    simp [intV, hi]
end Go.Proofs.Ytomebbapjolnlaa
