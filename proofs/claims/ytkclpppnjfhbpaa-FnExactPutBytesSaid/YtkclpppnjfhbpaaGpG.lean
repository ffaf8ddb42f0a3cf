/-
  Bytes put, as mathematics.
-/
import Derived.Test.YtkclpppnjfhbpaaGpQ
import Derived.Test.YtkclpppnjfhbpaaGpL
namespace Go.Proofs.Ytkclpppnjfhbpaa
open Go.RowKit

theorem over_self (r : List Int) (p k : Nat) : over r p ((r.drop p).take k) = r := by
  unfold over
  rw [List.length_take, List.length_drop, List.append_assoc]
  rcases Nat.le_total p r.length with h | h
  · rw [Nat.min_def]
    split
    · rename_i h2
      rw [← List.drop_drop, List.take_append_drop, List.take_append_drop]
    · rename_i h2
      rw [show p + (r.length - p) = r.length by omega, List.drop_length, List.append_nil, List.take_of_length_le (show (r.drop p).length ≤ k by rw [List.length_drop]; omega), List.take_append_drop]
  · rw [List.drop_eq_nil_of_le h, List.take_nil, List.take_of_length_le h, List.drop_eq_nil_of_le (show r.length ≤ p + min k (r.length - p) by omega), List.append_nil, List.append_nil]
theorem widenW_zero {m : List (List Int)} {n s l c a b : Nat} (hok : GpOK m ⟨⟨n, s, l, c⟩, a, b⟩) : widenW m ⟨⟨n, s, l, c⟩, a, b⟩ 0 = (m, ⟨⟨n, s, l, c⟩, a, b⟩, true) := by
  obtain ⟨n0, s0, l0, c0, a0, b0, hnl, e, hab, hbl, hlc, hsc, h1m, h64, h16⟩ := hok.nat
  injection e with e1 e2 e3
  injection e1 with e4 e5 e6 e7
  obtain rfl : n = n0 := by omega
  obtain rfl : s = s0 := by omega
  obtain rfl : l = l0 := by omega
  obtain rfl : c = c0 := by omega
  obtain rfl : a = a0 := by omega
  obtain rfl : b = b0 := by omega
  have happ : appR m n s l c (zerosL 0) = (m, ⟨n, s, l, c⟩, true) := by
    unfold appR zerosL
    rw [if_pos (by simpa using hlc), getD_eq hnl, List.replicate_zero, over_nil, List.set_getElem_self, List.length_nil]
    simp
  rw [widenW]
  simp only [Int.toNat_natCast, happ, getD_eq hnl]
  rw [if_pos ⟨trivial, by omega⟩, Nat.add_zero, wb_eq hnl, List.drop_take, List.drop_drop, over_self, List.set_getElem_self]
  simp
theorem widenW_no {m : List (List Int)} {g : Gp} {k : Nat} (h : (widenW m g k).2.2 = false) : widenW m g k = ([], zeroGp, false) := by
  unfold widenW at h ⊢
  split
  · rename_i h2
    rw [if_pos h2] at h
    cases h
  · rfl
/-- What PutBytes answers for a valid gap. -/
def putW (m : List (List Int)) (g : Gp) (xs : List Int) : List (List Int) × Gp × Bool :=
  if (widenW m g (xs.length - (g.up.toNat - g.fr.toNat))).2.2 = true then
    ((widenW m g (xs.length - (g.up.toNat - g.fr.toNat))).1.set (widenW m g (xs.length - (g.up.toNat - g.fr.toNat))).2.1.w.arr.toNat
      (over ((widenW m g (xs.length - (g.up.toNat - g.fr.toNat))).1.getD (widenW m g (xs.length - (g.up.toNat - g.fr.toNat))).2.1.w.arr.toNat []) ((widenW m g (xs.length - (g.up.toNat - g.fr.toNat))).2.1.w.start.toNat + g.fr.toNat) xs),
     ⟨(widenW m g (xs.length - (g.up.toNat - g.fr.toNat))).2.1.w, g.fr + xs.length, (widenW m g (xs.length - (g.up.toNat - g.fr.toNat))).2.1.up⟩, true)
  else ([], zeroGp, false)
def putBytesR (m : List (List Int)) (g : Gp) (xs : List Int) : List (List Int) × Gp × Bool := if GpOK m g then putW m g xs else ([], zeroGp, false)
/-- The numbers of a gap behind putting bytes. -/
structure PutF (m : List (List Int)) (n s l c a b : Nat) (xs : List Int) (R : List (List Int)) (n' s' c' L q : Nat) (R' : List (List Int)) (p : Nat) : Prop where
  wid : widenW m ⟨⟨n, s, l, c⟩, a, b⟩ (xs.length - (b - a)) = (R, ⟨⟨n', s', (L : Nat), c'⟩, a, (q : Nat)⟩, true)
  hn : n' < R.length
  lc : L ≤ c'
  sc : s' + c' ≤ R[n'].length
  ok : MemOK R
  fit : a + xs.length ≤ q
  ql : q ≤ L
  hp : a + xs.length = p
  res : R' = R.set n' (over R[n'] (s' + a) xs)
  val : putW m ⟨⟨n, s, l, c⟩, a, b⟩ xs = (R', ⟨⟨n', s', (L : Nat), c'⟩, (p : Nat), (q : Nat)⟩, true)
  good : GpOK R' ⟨⟨n', s', (L : Nat), c'⟩, (p : Nat), (q : Nat)⟩
theorem put_cases {m : List (List Int)} {n s l c a b : Nat} (xs : List Int) (hok : GpOK m ⟨⟨n, s, l, c⟩, a, b⟩) :
    (widenW m ⟨⟨n, s, l, c⟩, a, b⟩ (xs.length - (b - a)) = ([], zeroGp, false) ∧ putW m ⟨⟨n, s, l, c⟩, a, b⟩ xs = ([], zeroGp, false)) ∨ ∃ R n' s' c' L q R' p, PutF m n s l c a b xs R n' s' c' L q R' p := by
  obtain ⟨n0, s0, l0, c0, a0, b0, hnl, e, hab, hbl, hlc, hsc, h1m, h64, h16⟩ := hok.nat
  injection e with e1 e2 e3
  injection e1 with e4 e5 e6 e7
  obtain rfl : n = n0 := by omega
  obtain rfl : s = s0 := by omega
  obtain rfl : l = l0 := by omega
  obtain rfl : c = c0 := by omega
  obtain rfl : a = a0 := by omega
  obtain rfl : b = b0 := by omega
  rcases hb : (widenW m ⟨⟨n, s, l, c⟩, a, b⟩ (xs.length - (b - a))).2.2 with _ | _
  · left
    refine ⟨widenW_no hb, ?_⟩
    rw [putW]
    simp only [Int.toNat_natCast]
    rw [if_neg (by rw [hb]; simp)]
  · right
    have hk : xs.length - (b - a) ≤ 64 := by
      rcases Nat.lt_or_ge 64 (xs.length - (b - a)) with h | h
      · rw [widenW, if_neg (fun h2 => absurd h2.2 (by omega))] at hb
        cases hb
      · exact h
    rcases widen_cases (a := a) (b := b) _ hok hk with ⟨_, hv⟩ | ⟨M, n', s', c', L, q, R, hw⟩
    · rw [hv] at hb; cases hb
    · obtain ⟨n1, s1, l1, c1, a1, b1, hn1, e, hab1, hbl1, hlc1, hsc1, h1m1, h641, h161⟩ := hw.good.nat
      injection e with e1 e2 e3
      injection e1 with e4 e5 e6 e7
      obtain rfl : n' = n1 := by omega
      obtain rfl : s' = s1 := by omega
      obtain rfl : L = l1 := by omega
      obtain rfl : c' = c1 := by omega
      obtain rfl : a = a1 := by omega
      obtain rfl : q = b1 := by omega
      have hq := hw.hq
      refine ⟨R, n', s', c', L, q, _, a + xs.length, hw.val, hn1, hlc1, hsc1, hw.good.1.1, by omega, hbl1, rfl, rfl, ?_, ?_⟩
      · rw [putW]
        simp only [Int.toNat_natCast, hw.val, getD_eq hn1]
        rw [if_pos trivial]
        simp
      · exact GpOK.mk' (win_set_ok hw.good.1 hn1 (over_len (by omega)) hlc1) (by omega) (by omega)
theorem putBytesR_small (m : List (List Int)) (g : Gp) (xs : List Int) : Small (putBytesR m g xs).1 := by
  unfold putBytesR
  split
  · rename_i hok
    obtain ⟨n, s, l, c, a, b, hn, rfl, _⟩ := hok.nat
    rcases put_cases xs hok with ⟨_, hv⟩ | ⟨R, n', s', c', L, q, R', p, hw⟩
    · rw [hv]; exact small_nil
    · rw [hw.val]; exact small_of hw.good.1.1
  · exact small_nil
end Go.Proofs.Ytkclpppnjfhbpaa
