/-
  The longest list of windows no two of which share: what MostApart answers.
-/
import Derived.Test.YtomgjhdknondmabNot
import Derived.Test.YtomgjhdknondmabOvl2
namespace Go.Proofs.Ytomgjhdknondmab
open Go.RowKit

theorem ovl_comm (x y : Win) : ovl x y = ovl y x := by
  unfold ovl
  by_cases h : x.arr = y.arr
  · rw [if_pos h, if_pos h.symm]; omega
  · rw [if_neg h, if_neg (fun e => h e.symm)]
def ints (b : List Nat) : List Int := b.map fun (k : Nat) => (k : Int)
theorem ints_len (b : List Nat) : (ints b).length = b.length := by simp [ints]
theorem ints_get {b : List Nat} {q : Nat} (h : q < b.length) : (ints b)[q]'(by rw [ints_len]; exact h) = ((b.getD q 0 : Nat) : Int) := by simp [ints, List.getElem?_eq_getElem h]
theorem ints_snoc (b : List Nat) (i : Nat) : ints (b ++ [i]) = ints b ++ [(i : Int)] := by simp [ints]
/-- Two numbers of windows that share. -/
def shareN (L : List Win) (a b : Nat) : Bool := decide (0 < ovl (winAt L a) (winAt L b))
theorem shareN_comm (L : List Win) (a b : Nat) : shareN L a b = shareN L b a := by unfold shareN; rw [ovl_comm]
/-- A window shares with none of some numbers. -/
def fitsA (L : List Win) (b : List Nat) (i : Nat) : Bool := b.all fun k => !shareN L k i
/-- No two of some numbers share. -/
def apartP (L : List Win) (b : List Nat) : Prop := ∀ p, p < b.length → ∀ q, q < p → shareN L (b.getD p 0) (b.getD q 0) = false
theorem apart_nil (L : List Win) : apartP L [] := fun p h => by simp at h
theorem getD_old {b : List Nat} {q i : Nat} (h : q < b.length) : (b ++ [i]).getD q 0 = b.getD q 0 := by simp [List.getElem?_append_left h]
theorem getD_new (b : List Nat) (i : Nat) : (b ++ [i]).getD b.length 0 = i := by simp
theorem getD_mem {b : List Nat} {q : Nat} (h : q < b.length) : b.getD q 0 ∈ b := by
  simp [List.getElem?_eq_getElem h]
theorem fits_iff (L : List Win) (b : List Nat) (i : Nat) : fitsA L b i = true ↔ ∀ q, q < b.length → shareN L (b.getD q 0) i = false := by
  unfold fitsA
  rw [List.all_eq_true]
  constructor
  · intro h q hq
    have := h _ (getD_mem hq)
    simpa using this
  · intro h k hk
    obtain ⟨q, hq, rfl⟩ := List.getElem_of_mem hk
    have := h q hq
    rw [show b.getD q 0 = b[q] by simp [List.getElem?_eq_getElem hq]] at this
    simp [this]
theorem apart_snoc {L : List Win} {b : List Nat} {i : Nat} (h : apartP L b) : apartP L (b ++ [i]) ↔ fitsA L b i = true := by
  rw [fits_iff]
  constructor
  · intro h2 q hq
    have := h2 b.length (by simp) q hq
    rw [getD_new, getD_old hq, shareN_comm] at this
    exact this
  · intro h2 p hp q hq
    rw [List.length_append, List.length_singleton] at hp
    rcases Nat.lt_or_ge p b.length with h3 | h3
    · rw [getD_old h3, getD_old (by omega)]
      exact h p h3 q hq
    · obtain rfl : p = b.length := by omega
      rw [getD_new, getD_old hq, shareN_comm]
      exact h2 q hq
def pickA (all cur : List Nat) : List Nat := if cur.length < all.length then all else cur
/-- The best list, where k numbers are left, of those that begin with b, or what is there so far. -/
def bestA (L : List Win) : Nat → List Nat → List Nat → List Nat
  | 0, _, cur => cur
  | k + 1, b, cur => bestA L k b (if fitsA L b (L.length - (k + 1)) then pickA (bestA L k (b ++ [L.length - (k + 1)]) (b ++ [L.length - (k + 1)])) cur else cur)
theorem bestA_yes {L : List Win} {k : Nat} {b cur : List Nat} {i : Nat} (hi : i = L.length - (k + 1)) (h : fitsA L b i = true) : bestA L (k + 1) b cur = bestA L k b (pickA (bestA L k (b ++ [i]) (b ++ [i])) cur) := by
  subst hi
  rw [bestA, if_pos h]
theorem bestA_no {L : List Win} {k : Nat} {b cur : List Nat} {i : Nat} (hi : i = L.length - (k + 1)) (h : fitsA L b i = false) : bestA L (k + 1) b cur = bestA L k b cur := by
  subst hi
  rw [bestA, if_neg (by rw [h]; simp)]
theorem bestA_len (L : List Win) : ∀ (k : Nat) (b cur : List Nat) (N : Nat), b.length + k ≤ N → cur.length ≤ N → (bestA L k b cur).length ≤ N
  | 0, _, cur, N, _, h => h
  | k + 1, b, cur, N, hb, hc => by
    rw [bestA]
    refine bestA_len L k b _ N (by omega) ?_
    split
    · unfold pickA
      split
      · exact bestA_len L k _ _ N (by simp; omega) (by simp; omega)
      · exact hc
    · exact hc
/-- What MostApart answers. -/
def apartR (m : List (List Int)) (L : List Win) : List Int × Bool := if Watched m L then (ints (bestA L L.length [] []), true) else ([], false)
theorem apartR_small (m : List (List Int)) (L : List Win) : (apartR m L).1.length ≤ 2097152 := by
  unfold apartR
  split
  · rename_i h
    have h1 := bestA_len L L.length [] [] L.length (by simp) (by simp)
    have h2 := h.2.1
    simp only [ints_len]
    omega
  · simp
end Go.Proofs.Ytomgjhdknondmab
