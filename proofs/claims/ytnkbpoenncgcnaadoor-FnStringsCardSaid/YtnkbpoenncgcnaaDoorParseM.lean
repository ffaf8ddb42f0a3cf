/-
  Reading a number's text, in plain mathematics.
-/
import Derived.Test.YtnkbpoenncgcnaaDoorNum
namespace Go.Proofs.YtnkbpoenncgcnaaDoor
open Go.RowKit

/-- The number that some digits tell. -/
def valL (l : List UInt8) : Int := l.foldl (fun a c => 10 * a + ((c.toNat : Int) - 48)) 0
theorem valL_snoc (l : List UInt8) (c : UInt8) : valL (l ++ [c]) = 10 * valL l + ((c.toNat : Int) - 48) := by
  unfold valL; rw [List.foldl_append]; rfl
/-- Are these all digits? -/
def IsDigs (l : List UInt8) : Prop := ∀ c ∈ l, 48 ≤ c.toNat ∧ c.toNat ≤ 57
theorem isDigs_dec (u : Nat) : IsDigs (Lib.decDigits u) := by
  induction u using Nat.strongRecOn with
  | _ u ih =>
    intro c hc
    rw [Lib.decDigits] at hc
    split at hc
    · simp at hc; subst hc; simp; omega
    · rw [List.mem_append] at hc
      rcases hc with hc | hc
      · exact ih (u / 10) (by omega) c hc
      · simp at hc; subst hc; simp; omega
theorem valL_dec (u : Nat) : valL (Lib.decDigits u) = u := by
  induction u using Nat.strongRecOn with
  | _ u ih =>
    rw [Lib.decDigits]
    split
    · unfold valL; simp; omega
    · rw [valL_snoc, ih (u / 10) (by omega)]; simp; omega
theorem valL_nonneg {l : List UInt8} (h : IsDigs l) : 0 ≤ valL l := by
  suffices H : ∀ (l : List UInt8), IsDigs l → ∀ a : Int, 0 ≤ a → a ≤ l.foldl (fun a c => 10 * a + ((c.toNat : Int) - 48)) a from H l h 0 (Int.le_refl 0)
  intro l
  induction l with
  | nil => intro _ a _; exact Int.le_refl a
  | cons c r ih =>
    intro hd a ha
    have hc := hd c (List.mem_cons_self ..)
    have := ih (fun x hx => hd x (List.mem_cons_of_mem _ hx)) (10 * a + ((c.toNat : Int) - 48)) (by omega)
    rw [List.foldl_cons]
    omega
theorem isDigs_take {l : List UInt8} (h : IsDigs l) (k : Nat) : IsDigs (l.take k) := fun c hc => h c (List.mem_of_mem_take hc)
theorem valL_take_le {l : List UInt8} (h : IsDigs l) (k : Nat) : valL (l.take k) ≤ valL l := by
  suffices H : ∀ (r : List UInt8), IsDigs r → ∀ a : Int, 0 ≤ a → a ≤ r.foldl (fun a c => 10 * a + ((c.toNat : Int) - 48)) a by
    have e : valL l = (l.drop k).foldl (fun a c => 10 * a + ((c.toNat : Int) - 48)) (valL (l.take k)) := by
      conv => lhs; rw [← List.take_append_drop k l]
      unfold valL; rw [List.foldl_append]
    rw [e]
    exact H _ (fun c hc => h c (List.mem_of_mem_drop hc)) _ (valL_nonneg (isDigs_take h k))
  intro l
  induction l with
  | nil => intro _ a _; exact Int.le_refl a
  | cons c r ih =>
    intro hd a ha
    have hc := hd c (List.mem_cons_self ..)
    have := ih (fun x hx => hd x (List.mem_cons_of_mem _ hx)) (10 * a + ((c.toNat : Int) - 48)) (by omega)
    rw [List.foldl_cons]
    omega
theorem nDigits_le : ∀ (k u : Nat), u < 10 ^ (k + 1) → Lib.nDigits u ≤ k + 1
  | 0, u, h => by rw [Lib.nDigits_small (by simpa using h)]; exact Nat.le_refl _
  | k + 1, u, h => by
    by_cases hu : u < 10
    · rw [Lib.nDigits_small hu]; omega
    · rw [Lib.nDigits_big hu]
      have := nDigits_le k (u / 10) (by rw [Nat.pow_succ] at h; omega)
      omega
theorem digs_data (n : Int) : (digs n).data.toList = Lib.decDigits n.toNat := rfl
theorem digs_len {n : Int} (h1 : n ≤ 999999) : 1 ≤ (digs n).size ∧ (digs n).size ≤ 6 := by
  have e : (digs n).size = Lib.nDigits n.toNat := by
    rw [← Lib.decDigits_length, ← digs_data]; simp
  rw [e]
  exact ⟨Lib.nDigits_pos _, nDigits_le 5 _ (by omega)⟩
theorem digs_inj {a b : Int} (ha : 0 ≤ a) (hb : 0 ≤ b) (h : digs a = digs b) : a = b := by
  have h2 := congrArg (fun s : ByteArray => valL s.data.toList) h
  simp only [digs_data, valL_dec] at h2
  omega
theorem digs_get {n : Int} {k : Nat} (h : k < (digs n).size) : 48 ≤ ((digs n)[k]).toNat ∧ ((digs n)[k]).toNat ≤ 57 :=
  isDigs_dec n.toNat _ (by
    have : (digs n)[k] = (digs n).data.toList[k]'(by simpa using h) := rfl
    rw [this]; exact List.getElem_mem _)
theorem digs_val {n : Int} (h : 0 ≤ n) : valL (digs n).data.toList = n := by rw [digs_data, valL_dec]; omega
theorem digs_val_take {n : Int} (h : 0 ≤ n) (k : Nat) : 0 ≤ valL ((digs n).data.toList.take k) ∧ valL ((digs n).data.toList.take k) ≤ n := by
  have a := valL_nonneg (isDigs_take (isDigs_dec n.toNat) k)
  have b := valL_take_le (isDigs_dec n.toNat) k
  rw [valL_dec] at b
  rw [digs_data]
  omega
/-- Is s the text of no number within the bounds? -/
def NoNum (s : ByteArray) : Prop := ∀ n : Int, -999999 ≤ n → n ≤ 999999 → numB n ≠ s
end Go.Proofs.YtnkbpoenncgcnaaDoor
