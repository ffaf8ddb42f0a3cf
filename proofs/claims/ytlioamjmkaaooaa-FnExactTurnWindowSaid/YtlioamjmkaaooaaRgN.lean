/-
  The elements of a ring are the bytes of its two parts.
-/
import Derived.Test.YtlioamjmkaaooaaRgP
import Derived.Test.YtlioamjmkaaooaaOver
namespace Go.Proofs.Ytlioamjmkaaooaa
open Go.RowKit

theorem ringL_parts {m : List (List Int)} {n s l c : Nat} {f q : Int} (h : RgOK m ⟨⟨n, s, l, c⟩, f, q⟩) {k : Nat} (hk : (k : Int) = min q (l - f)) :
    ringL m ⟨⟨n, s, l, c⟩, f, q⟩ = wb m n (s + f.toNat) k ++ wb m n s (q.toNat - k) := by
  obtain ⟨n', s', l', c', e, hn, hlc, hsc, h1, h64, h16⟩ := h.1.nat
  simp only [Win.mk.injEq, Int.natCast_inj] at e
  obtain ⟨rfl, rfl, rfl, rfl⟩ := e
  have hh := h
  obtain ⟨_, g1, g2, g3, g4, g5⟩ := h
  dsimp only at g1 g2 g3 g4 g5
  have e1 : (wb m n (s + f.toNat) k).length = k := wb_len hn (by omega)
  have e2 : (wb m n s (q.toNat - k)).length = q.toNat - k := wb_len hn (by omega)
  apply List.ext_getElem
  · rw [ringL_len, List.length_append, e1, e2]; dsimp only; omega
  · intro i hi1 hi2
    rw [ringL_len] at hi1
    dsimp only at hi1
    have hsl := slotR_eq hh (show (0 : Int) ≤ i by omega) (show (i : Int) ≤ l by omega)
    dsimp only at hsl
    have hel : (ringL m ⟨⟨n, s, l, c⟩, f, q⟩)[i]'(by rw [ringL_len]; exact hi1) = atW m ⟨n, s, l, c⟩ (slotR ⟨⟨n, s, l, c⟩, f, q⟩ i) := by simp [ringL, elR_at]
    rw [hel]
    unfold atW
    simp only [Int.toNat_natCast]
    rw [getD_eq hn]
    by_cases hik : i < k
    · rw [List.getElem_append_left (by rw [e1]; exact hik), wb_get hn (by rw [e1]; exact hik) (by omega), hsl, if_pos (by omega), List.getD_eq_getElem?_getD, List.getElem?_eq_getElem (by omega)]
      show m[n][s + (f + (i : Int)).toNat] = m[n][s + f.toNat + i]
      congr 1
      omega
    · rw [List.getElem_append_right (by rw [e1]; omega), wb_get hn (by rw [e1, e2]; omega) (by rw [e1]; omega), hsl, if_neg (by omega), List.getD_eq_getElem?_getD, List.getElem?_eq_getElem (by omega)]
      show m[n][s + (f + (i : Int) - l).toNat] = m[n][s + (i - (wb m n (s + f.toNat) k).length)]
      congr 1
      rw [e1]
      omega
theorem over_two {N : Nat} {xs ys : List Int} (h : xs.length + ys.length = N) : over (over (List.replicate N 0) 0 xs) xs.length ys = xs ++ ys := by
  unfold over
  simp only [List.take_zero, List.nil_append, Nat.zero_add]
  rw [List.take_left, List.drop_eq_nil_of_le (by simp; omega), List.append_nil]
theorem ringBytesR_small (m : List (List Int)) (r : Rg) : (ringBytesR m r).1.length ≤ 2097152 := by
  unfold ringBytesR
  split
  · rename_i h
    rw [ringL_len]
    obtain ⟨_, _, _, _, hl0, hl1, _⟩ := h.1.small
    have := h.2.2.2.2.2
    show r.many.toNat ≤ 2097152
    omega
  · simp
end Go.Proofs.Ytlioamjmkaaooaa
