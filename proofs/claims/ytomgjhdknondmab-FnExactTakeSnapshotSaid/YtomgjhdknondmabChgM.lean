/-
  ChangedSince: what it answers, and lists of bytes that are equal.
-/
import Derived.Test.YtomgjhdknondmabNot
import Derived.Test.YtomgjhdknondmabCmp
namespace Go.Proofs.Ytomgjhdknondmab
open Go.RowKit

theorem u8_inj {z b : Int} (hz : IsB z) (hb : IsB b) (h : UInt8.ofNat z.toNat = UInt8.ofNat b.toNat) : z = b := by
  obtain ⟨h1, h2⟩ := hz
  obtain ⟨h3, h4⟩ := hb
  have := congrArg UInt8.toNat h
  simp at this
  omega
theorem bytesOf_inj : ∀ (xs ys : List Int), (∀ z ∈ xs, IsB z) → (∀ z ∈ ys, IsB z) → Lib.bytesOf xs = Lib.bytesOf ys → xs = ys
  | [], [], _, _, _ => rfl
  | [], y :: ys, _, _, h => by rw [bytesOf_cons] at h; cases h
  | x :: xs, [], _, _, h => by rw [bytesOf_cons] at h; cases h
  | x :: xs, y :: ys, hx, hy, h => by
    rw [bytesOf_cons, bytesOf_cons] at h
    injection h with h1 h2
    rw [u8_inj (hx x (by simp)) (hy y (by simp)) h1, bytesOf_inj xs ys (fun z hz => hx z (by simp [hz])) (fun z hz => hy z (by simp [hz])) h2]
theorem bytesOf_beq (xs ys : List Int) (hx : ∀ z ∈ xs, IsB z) (hy : ∀ z ∈ ys, IsB z) : (Lib.bytesOf xs == Lib.bytesOf ys) = decide (xs = ys) := by
  by_cases h : xs = ys
  · subst h; simp
  · rw [decide_eq_false h]
    exact beq_eq_false_iff_ne.2 fun e => h (bytesOf_inj xs ys hx hy e)
theorem cmp_zero : ∀ (xs ys : List Int), (∀ z ∈ xs, IsB z) → (∀ z ∈ ys, IsB z) → (cmpI xs ys = 0 ↔ xs = ys)
  | [], [], _, _ => by simp [cmpI, Lib.bytesOf, Lib.compareBytes]
  | [], y :: ys, _, _ => by unfold cmpI; rw [bytesOf_cons]; simp [Lib.bytesOf, Lib.compareBytes]
  | x :: xs, [], _, _ => by unfold cmpI; rw [bytesOf_cons]; simp [Lib.bytesOf, Lib.compareBytes]
  | x :: xs, y :: ys, hx, hy => by
    have ih := cmp_zero xs ys (fun z hz => hx z (by simp [hz])) (fun z hz => hy z (by simp [hz]))
    have e : cmpI (x :: xs) (y :: ys) = if x < y then -1 else if y < x then 1 else cmpI xs ys := by
      unfold cmpI
      rw [bytesOf_cons, bytesOf_cons, Lib.compareBytes]
      simp only [u8_lt (hx x (by simp)) (hy y (by simp)), u8_lt (hy y (by simp)) (hx x (by simp))]
    rw [e]
    by_cases h1 : x < y
    · rw [if_pos h1]; constructor
      · intro h; omega
      · intro h; injection h with h; omega
    · rw [if_neg h1]
      by_cases h2 : y < x
      · rw [if_pos h2]; constructor
        · intro h; omega
        · intro h; injection h with h; omega
      · rw [if_neg h2, ih]
        have : x = y := by omega
        subst this
        simp

/-- The bytes that a window sees. -/
def seenW (m : List (List Int)) (x : Win) : List Int := wb m x.arr.toNat x.start.toNat x.len.toNat
def shotN (x : Win) : Nat := max x.len.toNat 1
def ShotTo (L : List Win) (S : List (List Int)) (k : Nat) : Prop := ∀ q, q < k → (S.getD q []).length = shotN (winAt L q)
instance (L : List Win) (S : List (List Int)) (k : Nat) : Decidable (ShotTo L S k) := by unfold ShotTo; exact inferInstance
def ShotOK (L : List Win) (S : List (List Int)) : Prop := S.length = L.length ∧ ShotTo L S L.length
instance (L : List Win) (S : List (List Int)) : Decidable (ShotOK L S) := by unfold ShotOK; exact inferInstance
def chgB (m : List (List Int)) (L : List Win) (S : List (List Int)) (k : Nat) : Bool := decide (¬ seenW m (winAt L k) = (S.getD k []).take (winAt L k).len.toNat)
/-- What ChangedSince answers. -/
def changedR (m : List (List Int)) (L : List Win) (S : List (List Int)) : List Int × Bool :=
  if Watched m L ∧ ShotOK L S then (idxsTo (chgB m L S) L.length, true) else ([], false)
theorem changedR_small (m : List (List Int)) (L : List Win) (S : List (List Int)) : (changedR m L S).1.length ≤ 2097152 := by
  unfold changedR
  split
  · rename_i h
    have h1 := idxsTo_len (chgB m L S) L.length
    have h2 := h.1.2.1
    simp only
    omega
  · simp
/-- The sizes of a snapshot make a memory. -/
theorem shot_mem {m : List (List Int)} {L : List Win} {S : List (List Int)} (h : Watched m L) (hs : ShotOK L S) : MemOK S := by
  refine ⟨by have := hs.1; have := h.2.1; omega, fun r hr => ?_⟩
  obtain ⟨q, hq, rfl⟩ := List.getElem_of_mem hr
  have hql : q < L.length := by have := hs.1; omega
  have e := hs.2 q hql
  rw [getD_eq hq, winAt_eq hql] at e
  have hw := h.2.2 L[q] (List.getElem_mem hql)
  obtain ⟨n, s, l, c, hx, hnl, hlc, hsc, h1, h64, h16⟩ := hw.nat
  rw [hx] at e
  simp only [shotN, Int.toNat_natCast] at e
  omega
theorem shot_snoc {L : List Win} {S : List (List Int)} {k : Nat} (h : ShotTo L S k) (hk : (S.getD k []).length = shotN (winAt L k)) : ShotTo L S (k + 1) := fun q hq => by
  rcases Nat.lt_or_ge q k with h1 | h1
  · exact h q h1
  · obtain rfl : q = k := by omega
    exact hk
end Go.Proofs.Ytomgjhdknondmab
