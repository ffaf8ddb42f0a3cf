/-
  Keys as mathematics: which of two comes first, the bits that they have in common, the next one.
-/
import Derived.Test.YtoelagfcapdfpaaCmp
import Derived.Lib.BitFns
import Derived.Laws.BitsAllLaws
namespace Go.Proofs.Ytoelagfcapdfpaa
open Go.RowKit

/-- What a key is good for. -/
def IsKey (k : List Int) : Prop := k.length = 16 ∧ ∀ z ∈ k, IsB z
theorem IsKey.at_ {k : List Int} (h : IsKey k) {i : Nat} (hi : i < k.length) : 0 ≤ k[i] ∧ k[i] ≤ 255 := h.2 _ (List.getElem_mem hi)
theorem IsKey.set {k : List Int} (h : IsKey k) (i : Nat) {z : Int} (hz : IsB z) : IsKey (k.set i z) := by
  refine ⟨by rw [List.length_set]; exact h.1, fun y hy => ?_⟩
  rcases List.mem_or_eq_of_mem_set hy with hy | rfl
  · exact h.2 y hy
  · exact hz
def zeroK : List Int := List.replicate 16 0
theorem zeroK_key : IsKey zeroK := ⟨by simp [zeroK], fun z hz => by have := List.eq_of_mem_replicate hz; subst this; exact ⟨by decide, by decide⟩⟩

def lessK (a b : List Int) : Bool := decide (cmpI a b < 0)
theorem cmpI_self : ∀ a : List Int, cmpI a a = 0
  | [] => rfl
  | x :: xs => by
    have ih := cmpI_self xs
    unfold cmpI at *
    rw [bytesOf_cons, Lib.compareBytes]
    simp [UInt8.lt_irrefl, ih]
theorem lessK_self (a : List Int) : lessK a a = false := by simp [lessK, cmpI_self]
theorem lessK_at {a b : List Int} {i : Nat} (h : a.take i = b.take i) (h1 : i < a.length) (h2 : i < b.length) (ha : ∀ z ∈ a, IsB z) (hb : ∀ z ∈ b, IsB z) (hne : a[i] ≠ b[i]) : lessK a b = decide (a[i] < b[i]) := by
  have hc := cmp_at h h1 h2 ha hb
  unfold lessK
  rcases Int.lt_trichotomy a[i] b[i] with hl | hl | hl
  · rw [hc.1 hl]; simp [hl]
  · exact absurd hl hne
  · rw [hc.2 hl]
    have : ¬ a[i] < b[i] := by omega
    simp [this]
theorem take_all {a b : List Int} (h : a.take 16 = b.take 16) (ha : a.length = 16) (hb : b.length = 16) : a = b := by
  rw [List.take_of_length_le (by omega), List.take_of_length_le (by omega)] at h
  exact h

/-- The first bits of two bytes that are the same, of what is the exclusive or of both. -/
def lz8 (z : Int) : Int := 8 - (Lib.bitLen z.toNat : Int)
def commonL : List Int → List Int → Int
  | x :: xs, y :: ys => if x = y then 8 + commonL xs ys else lz8 (bits .xor .u8 x y)
  | _, _ => 0
theorem common_self : ∀ a : List Int, commonL a a = 8 * a.length
  | [] => rfl
  | x :: xs => by
    rw [commonL, if_pos rfl, common_self xs, List.length_cons]
    omega
theorem common_at : ∀ {i : Nat} {a b : List Int} (_ : a.take i = b.take i) (h1 : i < a.length) (h2 : i < b.length) (_ : a[i] ≠ b[i]), commonL a b = 8 * i + lz8 (bits .xor .u8 a[i] b[i])
  | 0, [], _, _, h1, _, _ => by simp at h1
  | 0, _ :: _, [], _, _, h2, _ => by simp at h2
  | 0, x :: xs, y :: ys, _, _, _, hne => by
    have hne' : ¬ x = y := hne
    rw [commonL, if_neg hne']
    simp
  | i + 1, [], _, _, h1, _, _ => by simp at h1
  | i + 1, _ :: _, [], _, _, h2, _ => by simp at h2
  | i + 1, x :: xs, y :: ys, h, h1, h2, hne => by
    rw [List.take_succ_cons, List.take_succ_cons] at h
    injection h with h0 h
    subst h0
    have ih := common_at h (by simpa using h1) (by simpa using h2) (by simpa using hne)
    rw [commonL, if_pos rfl, ih]
    simp only [List.getElem_cons_succ]
    omega
theorem len_bit : ∀ (z : Fin 256) (j : Fin 8), (∀ i : Fin 8, j.val < i.val → z.val.testBit i.val = false) → z.val.testBit j.val = true → Lib.bitLen z.val = j.val + 1 := by decide +kernel
theorem len_le : ∀ z : Fin 256, Lib.bitLen z.val ≤ 8 := by decide +kernel

def nextN : Nat → List Int → List Int × Bool
  | 0, _ => (zeroK, false)
  | k + 1, a => if a.getD k 0 < 255 then (a.set k (a.getD k 0 + 1), true) else nextN k (a.set k 0)
/-- The key behind a key, and whether there is one. -/
def nextK (a : List Int) : List Int × Bool := nextN 16 a
theorem nextN_key : ∀ (k : Nat) (a : List Int), IsKey a → k ≤ 16 → IsKey (nextN k a).1
  | 0, _, _, _ => zeroK_key
  | k + 1, a, h, hk => by
    have hb : k < a.length := by have := h.1; omega
    have hz := h.at_ hb
    rw [nextN, List.getD_eq_getElem?_getD, List.getElem?_eq_getElem hb]
    split
    · rename_i hl
      simp only [Option.getD_some] at hl ⊢
      exact h.set _ ⟨by omega, by omega⟩
    · exact nextN_key k _ (h.set _ ⟨by decide, by decide⟩) (by omega)
theorem nextK_key {a : List Int} (h : IsKey a) : IsKey (nextK a).1 := nextN_key 16 a h (Nat.le_refl _)
end Go.Proofs.Ytoelagfcapdfpaa
