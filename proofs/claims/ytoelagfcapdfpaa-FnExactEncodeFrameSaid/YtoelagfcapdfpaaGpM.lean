/-
  Gap buffers, as mathematics.
-/
import Derived.Test.YtoelagfcapdfpaaOver
namespace Go.Proofs.Ytoelagfcapdfpaa
open Go.RowKit

structure Gp where
  w : Win
  fr : Int
  up : Int
/-- A valid gap. -/
def GpOK (m : List (List Int)) (g : Gp) : Prop := WinOK m g.w ∧ 0 ≤ g.fr ∧ g.fr ≤ g.up ∧ g.up ≤ g.w.len
instance (m : List (List Int)) (g : Gp) : Decidable (GpOK m g) := by unfold GpOK; exact inferInstance
def zeroGp : Gp := ⟨⟨0, 0, 0, 0⟩, 0, 0⟩
theorem GpOK.nat {m : List (List Int)} {g : Gp} (h : GpOK m g) :
    ∃ n s l c a b : Nat, ∃ hn : n < m.length, g = ⟨⟨n, s, l, c⟩, a, b⟩ ∧ a ≤ b ∧ b ≤ l ∧ l ≤ c ∧ s + c ≤ m[n].length ∧ 1 ≤ m[n].length ∧ m[n].length ≤ 64 ∧ m.length ≤ 16 := by
  obtain ⟨hw, h1, h2, h3⟩ := h
  obtain ⟨n, s, l, c, e, hn, h4, h5, h6, h7, h8⟩ := hw.nat
  obtain ⟨w, fr, up⟩ := g
  dsimp only at *
  subst e
  obtain ⟨a, rfl⟩ := Int.eq_ofNat_of_zero_le h1
  obtain ⟨b, rfl⟩ := Int.eq_ofNat_of_zero_le (Int.le_trans h1 h2)
  dsimp only at *
  exact ⟨n, s, l, c, a, b, hn, rfl, by omega, by omega, h4, h5, h6, h7, h8⟩
theorem GpOK.mk' {m : List (List Int)} {n s l c a b : Nat} (h : WinOK m ⟨n, s, l, c⟩) (h1 : a ≤ b) (h2 : b ≤ l) : GpOK m ⟨⟨n, s, l, c⟩, a, b⟩ :=
  ⟨h, by dsimp only; omega, by dsimp only; omega, by dsimp only; omega⟩
/-- The text. -/
def textL (m : List (List Int)) (n s l a b : Nat) : List Int := (wb m n s l).take a ++ (wb m n s l).drop b
theorem textL_len {m : List (List Int)} {n s l a b : Nat} (hn : n < m.length) (h : s + l ≤ m[n].length) (h1 : a ≤ b) (h2 : b ≤ l) : (textL m n s l a b).length = l - (b - a) := by
  simp [textL, wb_len hn h]
  omega
def gapTextR (m : List (List Int)) (g : Gp) : List Int × Bool :=
  if GpOK m g then (textL m g.w.arr.toNat g.w.start.toNat g.w.len.toNat g.fr.toNat g.up.toNat, true) else ([], false)
theorem gapTextR_small (m : List (List Int)) (g : Gp) : (gapTextR m g).1.length ≤ 2097152 := by
  unfold gapTextR
  split
  · rename_i h
    obtain ⟨n, s, l, c, a, b, hn, rfl, h1, h2, h3, h4, h5, h6, h7⟩ := h.nat
    simp only [Int.toNat_natCast]
    rw [textL_len hn (by omega) h1 h2]
    omega
  · simp
/-- The memory with the hole moved to p. -/
def moveM (m : List (List Int)) (n s l a b p : Nat) : List (List Int) :=
  if p ≤ a then m.set n (over (m.getD n []) (s + (p + (b - a))) (((wb m n s l).drop p).take (a - p)))
  else m.set n (over (m.getD n []) (s + a) (((wb m n s l).drop b).take (p - a)))
/-- How many bytes are copied. -/
def moveC (a p : Nat) : Nat := if p ≤ a then a - p else p - a
theorem moveM_len (m : List (List Int)) (n s l a b p : Nat) : (moveM m n s l a b p).length = m.length := by
  unfold moveM; split <;> simp
theorem moveM_row {m : List (List Int)} {n s l a b p : Nat} (hn : n < m.length) (h : s + l ≤ m[n].length) (h1 : a ≤ b) (h2 : b ≤ l) (h3 : p + (b - a) ≤ l) (hn' : n < (moveM m n s l a b p).length) : (moveM m n s l a b p)[n].length = m[n].length := by
  have hw := wb_len hn h
  have e : (moveM m n s l a b p)[n] = if p ≤ a then over m[n] (s + (p + (b - a))) (((wb m n s l).drop p).take (a - p)) else over m[n] (s + a) (((wb m n s l).drop b).take (p - a)) := by
    have q : (moveM m n s l a b p)[n]? = some (if p ≤ a then over m[n] (s + (p + (b - a))) (((wb m n s l).drop p).take (a - p)) else over m[n] (s + a) (((wb m n s l).drop b).take (p - a))) := by
      unfold moveM
      rw [getD_eq hn]
      split <;> exact List.getElem?_set_self hn
    rw [List.getElem?_eq_getElem hn'] at q
    injection q
  rw [e]
  split
  · exact over_len (by simp [hw]; omega)
  · exact over_len (by simp [hw]; omega)
theorem mem_set_ok {m : List (List Int)} (h : MemOK m) {n : Nat} {ys : List Int} (h1 : 1 ≤ ys.length) (h64 : ys.length ≤ 64) : MemOK (m.set n ys) :=
  ⟨by rw [List.length_set]; exact h.1, fun r hr => by
    rcases List.mem_or_eq_of_mem_set hr with hr | hr
    · exact h.2 r hr
    · rw [hr]; exact ⟨h1, h64⟩⟩
theorem win_set_ok {m : List (List Int)} {n s l c : Nat} (h : WinOK m ⟨n, s, l, c⟩) (hn : n < m.length) {ys : List Int} (hy : ys.length = m[n].length) {l' : Nat} (hl : l' ≤ c) : WinOK (m.set n ys) ⟨n, s, l', c⟩ := by
  have hr := h.1.2 m[n] (List.getElem_mem hn)
  obtain ⟨h0, h1, h2, h3, h4, h5, h6⟩ := h
  dsimp only at *
  refine ⟨mem_set_ok h0 (by omega) (by omega), ?_⟩
  simp only [Int.toNat_natCast] at *
  rw [getD_eq hn] at h6
  rw [List.length_set, getD_eq (by rw [List.length_set]; exact hn)]
  simp only [List.getElem_set_self, hy]
  omega
def moveGapR (m : List (List Int)) (g : Gp) (p : Int) : List (List Int) × Gp × Int × Bool :=
  if GpOK m g ∧ 0 ≤ p ∧ p ≤ g.w.len - (g.up - g.fr) then
    (moveM m g.w.arr.toNat g.w.start.toNat g.w.len.toNat g.fr.toNat g.up.toNat p.toNat, ⟨g.w, p, p + (g.up - g.fr)⟩, moveC g.fr.toNat p.toNat, true)
  else ([], zeroGp, 0, false)
theorem moveM_ok {m : List (List Int)} {n s l c a b p : Nat} (h : WinOK m ⟨n, s, l, c⟩) (h1 : a ≤ b) (h2 : b ≤ l) (h3 : p + (b - a) ≤ l) : WinOK (moveM m n s l a b p) ⟨n, s, l, c⟩ := by
  obtain ⟨n', s', l', c', e, hn, hlc, hsc, _⟩ := h.nat
  injection e with e1 e2 e3 e4
  obtain rfl : n = n' := by omega
  obtain rfl : s = s' := by omega
  obtain rfl : l = l' := by omega
  obtain rfl : c = c' := by omega
  have hw := wb_len hn (show s + l ≤ m[n].length by omega)
  unfold moveM
  rw [getD_eq hn]
  split
  · exact win_set_ok h hn (over_len (by simp [hw]; omega)) hlc
  · exact win_set_ok h hn (over_len (by simp [hw]; omega)) hlc
theorem moveGapR_small' {m : List (List Int)} (h : MemOK m) : m.length ≤ 16 ∧ ∀ r ∈ m, r.length ≤ 64 := ⟨h.1, fun r hr => (h.2 r hr).2⟩
def takeBackR (m : List (List Int)) (g : Gp) (k : Int) : List (List Int) × Gp × Bool :=
  if GpOK m g ∧ 0 ≤ k ∧ k ≤ g.fr then (m, ⟨g.w, g.fr - k, g.up⟩, true) else ([], zeroGp, false)
def takeAheadR (m : List (List Int)) (g : Gp) (k : Int) : List (List Int) × Gp × Bool :=
  if GpOK m g ∧ 0 ≤ k ∧ k ≤ g.w.len - g.up then (m, ⟨g.w, g.fr, g.up + k⟩, true) else ([], zeroGp, false)
def closeGapR (m : List (List Int)) (g : Gp) : List (List Int) × Gp × Win × Bool :=
  if GpOK m g then
    (moveM m g.w.arr.toNat g.w.start.toNat g.w.len.toNat g.fr.toNat g.up.toNat (g.w.len.toNat - (g.up.toNat - g.fr.toNat)), ⟨g.w, g.w.len - (g.up - g.fr), g.w.len⟩, ⟨g.w.arr, g.w.start, g.w.len - (g.up - g.fr), g.w.cap⟩, true)
  else ([], zeroGp, ⟨0, 0, 0, 0⟩, false)
end Go.Proofs.Ytoelagfcapdfpaa
