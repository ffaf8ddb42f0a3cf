/-
  Widened holes, as mathematics.
-/
import Derived.Test.YtkclpppnjfhbpaaGpM
import Derived.Test.YtkclpppnjfhbpaaGwM
namespace Go.Proofs.Ytkclpppnjfhbpaa
open Go.RowKit

/-- k bytes 0. -/
def zerosL (k : Nat) : List Int := List.replicate k 0
theorem zerosL_len (k : Nat) : (zerosL k).length = k := by simp [zerosL]
/-- What is written behind what a window sees leaves what it sees. -/
theorem over_seen (r : List Int) (s l p : Nat) (ys : List Int) (h : s + l ≤ p) (hp : p ≤ r.length) : ((over r p ys).drop s).take l = (r.drop s).take l := by
  unfold over
  rw [List.append_assoc, List.drop_append_of_le_length (by rw [List.length_take]; omega), List.take_append_of_le_length (by rw [List.length_drop, List.length_take]; omega), List.drop_take, List.take_take, Nat.min_eq_left (by omega)]
/-- What an append that can be leaves: a window in numbers, and what was seen. -/
theorem appR_nat {m : List (List Int)} {n s l c : Nat} {xs : List Int} (hm : MemOK m) (hn : n < m.length) (hl : l ≤ c) (hc : s + c ≤ m[n].length) (hb : (appR m n s l c xs).2.2 = true) :
    ∃ n' s' c' : Nat, ∃ hn' : n' < (appR m n s l c xs).1.length, (appR m n s l c xs).2.1 = ⟨n', s', (l + xs.length : Nat), c'⟩ ∧ l + xs.length ≤ c' ∧ s' + c' ≤ (appR m n s l c xs).1[n'].length ∧ MemOK (appR m n s l c xs).1 ∧
      wb (appR m n s l c xs).1 n' s' l = wb m n s l := by
  have hwin := appR_win hm hn hl hc hb
  obtain ⟨n', s', l', c', e, hn', h1, h2, h3, h4, h5⟩ := hwin.nat
  have hlen : (appR m n s l c xs).2.1.len = (l : Int) + xs.length := by
    unfold appR at hb ⊢
    split
    · rfl
    · rename_i h6
      rw [if_neg h6] at hb
      split
      · rename_i h7
        rw [if_pos h7] at hb
        cases hb
      · rfl
  rw [e] at hlen
  dsimp only at hlen
  have hl' : l' = l + xs.length := by omega
  subst hl'
  refine ⟨n', s', c', hn', e, h1, h2, hwin.1, ?_⟩
  rw [wb_eq hn', wb_eq hn]
  unfold appR at hb e hn' ⊢
  split
  · rename_i h6
    rw [if_pos h6] at e
    simp only [Win.mk.injEq] at e
    obtain ⟨e1, e2, _, _⟩ := e
    obtain rfl : n = n' := by omega
    obtain rfl : s = s' := by omega
    simp only [List.getElem_set_self, getD_eq hn]
    exact over_seen _ _ _ _ _ (Nat.le_refl _) (by omega)
  · rename_i h6
    rw [if_neg h6] at hb e
    split
    · rename_i h7
      rw [if_pos h7] at hb
      cases hb
    · rename_i h7
      rw [if_neg h7] at e
      simp only [Win.mk.injEq] at e
      obtain ⟨e1, e2, _, _⟩ := e
      obtain rfl : m.length = n' := by omega
      obtain rfl : s' = 0 := by omega
      have hw := wb_len hn (show s + l ≤ m[n].length by omega)
      rw [List.getElem_append_right (Nat.le_refl _)]
      simp only [Nat.sub_self, List.getElem_cons_zero, List.drop_zero]
      rw [List.append_assoc, List.take_append_of_le_length (by omega), List.take_of_length_le (by omega), wb_eq hn]
/-- What WidenGap answers, where k is a number of bytes. -/
def widenW (m : List (List Int)) (g : Gp) (k : Nat) : List (List Int) × Gp × Bool :=
  if (appR m g.w.arr.toNat g.w.start.toNat g.w.len.toNat g.w.cap.toNat (zerosL k)).2.2 = true ∧ k ≤ 64 then
    ((appR m g.w.arr.toNat g.w.start.toNat g.w.len.toNat g.w.cap.toNat (zerosL k)).1.set (appR m g.w.arr.toNat g.w.start.toNat g.w.len.toNat g.w.cap.toNat (zerosL k)).2.1.arr.toNat
      (over ((appR m g.w.arr.toNat g.w.start.toNat g.w.len.toNat g.w.cap.toNat (zerosL k)).1.getD (appR m g.w.arr.toNat g.w.start.toNat g.w.len.toNat g.w.cap.toNat (zerosL k)).2.1.arr.toNat []) ((appR m g.w.arr.toNat g.w.start.toNat g.w.len.toNat g.w.cap.toNat (zerosL k)).2.1.start.toNat + (g.up.toNat + k)) ((wb m g.w.arr.toNat g.w.start.toNat g.w.len.toNat).drop g.up.toNat)),
      ⟨(appR m g.w.arr.toNat g.w.start.toNat g.w.len.toNat g.w.cap.toNat (zerosL k)).2.1, g.fr, g.up + k⟩, true)
  else ([], zeroGp, false)
def widenGapR (m : List (List Int)) (g : Gp) (k : Int) : List (List Int) × Gp × Bool := if GpOK m g ∧ 0 ≤ k then widenW m g k.toNat else ([], zeroGp, false)
/-- The numbers of a widened gap. -/
structure Wid (m : List (List Int)) (n s l c a b k : Nat) (M : List (List Int)) (n' s' c' L q : Nat) (R : List (List Int)) : Prop where
  len : l + k = L
  hq : b + k = q
  hn : n' < M.length
  app : appR m n s l c (zerosL k) = (M, ⟨n', s', (L : Nat), c'⟩, true)
  lc : L ≤ c'
  sc : s' + c' ≤ M[n'].length
  ok : MemOK M
  seen : wb M n' s' l = wb m n s l
  res : R = M.set n' (over M[n'] (s' + q) ((wb m n s l).drop b))
  val : widenW m ⟨⟨n, s, l, c⟩, a, b⟩ k = (R, ⟨⟨n', s', (L : Nat), c'⟩, a, (q : Nat)⟩, true)
  good : GpOK R ⟨⟨n', s', (L : Nat), c'⟩, a, (q : Nat)⟩
theorem widen_cases {m : List (List Int)} {n s l c a b : Nat} (k : Nat) (hok : GpOK m ⟨⟨n, s, l, c⟩, a, b⟩) (hk : k ≤ 64) :
    ((appR m n s l c (zerosL k)).2.2 = false ∧ widenW m ⟨⟨n, s, l, c⟩, a, b⟩ k = ([], zeroGp, false)) ∨ ∃ M n' s' c' L q R, Wid m n s l c a b k M n' s' c' L q R := by
  obtain ⟨n0, s0, l0, c0, a0, b0, hnl, e, hab, hbl, hlc, hsc, h1m, h64, h16⟩ := hok.nat
  injection e with e1 e2 e3
  injection e1 with e4 e5 e6 e7
  obtain rfl : n = n0 := by omega
  obtain rfl : s = s0 := by omega
  obtain rfl : l = l0 := by omega
  obtain rfl : c = c0 := by omega
  obtain rfl : a = a0 := by omega
  obtain rfl : b = b0 := by omega
  rcases hb : (appR m n s l c (zerosL k)).2.2 with _ | _
  · left
    refine ⟨rfl, ?_⟩
    rw [widenW]
    simp only [Int.toNat_natCast]
    rw [if_neg (fun h => by rw [hb] at h; cases h.1)]
  · right
    obtain ⟨n', s', c', hn', e, h1, h2, h3, h4⟩ := appR_nat hok.1.1 hnl hlc hsc hb
    rw [zerosL_len] at e h1
    have hw := wb_len hnl (show s + l ≤ m[n].length by omega)
    have happ : appR m n s l c (zerosL k) = ((appR m n s l c (zerosL k)).1, ⟨n', s', (l + k : Nat), c'⟩, true) := by rw [← e, ← hb]
    have hrow := h3.2 _ (List.getElem_mem hn')
    refine ⟨(appR m n s l c (zerosL k)).1, n', s', c', l + k, b + k, _, rfl, rfl, hn', happ, h1, h2, h3, h4, rfl, ?_, ?_⟩
    · rw [widenW]
      simp only [Int.toNat_natCast]
      rw [if_pos ⟨hb, hk⟩, e]
      simp only [Int.toNat_natCast, getD_eq hn']
      rfl
    · have hwok : WinOK (appR m n s l c (zerosL k)).1 ⟨n', s', (l + k : Nat), c'⟩ := by have h := appR_win hok.1.1 hnl hlc hsc hb; rwa [e] at h
      exact GpOK.mk' (win_set_ok hwok hn' (over_len (by rw [List.length_drop, hw]; omega)) h1) (by omega) (by omega)
end Go.Proofs.Ytkclpppnjfhbpaa
