/-
  Windows appended out of a list that was read; l7Joined, l7Kept of spec.
-/
import Derived.Test.YtomebbapjolnlaaRpB
import Derived.Test.YtomebbapjolnlaaCpy0
import Derived.Deep.Upon
namespace Go.Proofs.Ytomebbapjolnlaa
open Go.RowKit

def winCs (L : List Win) : List Value := L.flatMap cells4
theorem winCs_len (L : List Win) : (winCs L).length = L.length * 4 := by
  induction L with
  | nil => rfl
  | cons x xs ih => simp only [winCs, List.flatMap_cons, List.length_append, List.length_cons] at ih ⊢; rw [ih]; simp [cells4]; omega
theorem winCs_snoc (L : List Win) (x : Win) : winCs (L ++ [x]) = winCs L ++ cells4 x := by simp [winCs, List.flatMap_append]
theorem WC.app : ∀ (L : List Win) {cs : List Value} {xs : List Win}, WC cs xs xs.length → cs.length = xs.length * 4 → WC (cs ++ winCs L) (xs ++ L) (xs ++ L).length
  | [], cs, xs, h, _ => by simpa [winCs] using h
  | x :: L, cs, xs, h, hl => by
    have ih := WC.app L (h.snoc hl x) (by rw [List.length_append, List.length_append, hl]; simp [cells4]; omega)
    rw [List.append_assoc, List.append_assoc] at ih
    exact ih
theorem winCs_get (L : List Win) (i : Nat) (x : Win) (hx : L[i]? = some x) (q : Nat) (hq : q < 4) : (winCs L)[i * 4 + q]? = (cells4 x)[q]? := by
  induction L generalizing i with
  | nil => simp at hx
  | cons y ys ih =>
    rw [winCs, List.flatMap_cons, ← winCs]
    cases i with
    | zero =>
      simp only [List.getElem?_cons_zero, Option.some.injEq] at hx
      subst hx
      rw [List.getElem?_append_left (by simp [cells4]; omega), Nat.zero_mul, Nat.zero_add]
    | succ i =>
      simp only [List.getElem?_cons_succ] at hx
      rw [List.getElem?_append_right (by simp [cells4]; omega)]
      have e : (i + 1) * 4 + q - (cells4 y).length = i * 4 + q := by simp [cells4]; omega
      rw [e]
      exact ih i hx
theorem winCs_one (L : List Win) : ∀ u ∈ winCs L, u.oneCell' = true := fun u hu => by
  obtain ⟨x, _, hx⟩ := List.mem_flatMap.1 hu
  simp only [cells4, List.mem_cons, List.not_mem_nil, or_false] at hx
  rcases hx with rfl | rfl | rfl | rfl <;> rfl
/-- The cells that a list of windows reads as. -/
theorem wins_cells {w : World} {b off : Nat} {L : List Win} (h : WinsAt w b off L) : ∀ j u, (winCs L)[j]? = some u → w.cell? ((⟨b, off, none⟩ : Addr).add j) = some u := fun j u hu => by
  have ad : (⟨b, off, none⟩ : Addr).add j = ⟨b, off + j, none⟩ := by unfold Addr.add; split <;> simp_all
  rw [ad]
  have hj : j < L.length * 4 := by rw [← winCs_len]; exact (List.getElem?_eq_some_iff.1 hu).1
  have hi : j / 4 < L.length := by omega
  have hx := List.getElem?_eq_getElem hi
  obtain ⟨h0, h1, h2, h3⟩ := h _ _ hx
  have hg := winCs_get L _ _ hx (j % 4) (by omega)
  rw [show j / 4 * 4 + j % 4 = j by omega, hu] at hg
  rcases (show j % 4 = 0 ∨ j % 4 = 1 ∨ j % 4 = 2 ∨ j % 4 = 3 by omega) with e | e | e | e
  · rw [e] at hg; simp only [cells4, List.getElem?_cons_zero, Option.some.injEq] at hg; subst hg
    rw [← h0]; congr 2; omega
  · rw [e] at hg; simp only [cells4, List.getElem?_cons_succ, List.getElem?_cons_zero, Option.some.injEq] at hg; subst hg
    rw [← h1]; congr 2; omega
  · rw [e] at hg; simp only [cells4, List.getElem?_cons_succ, List.getElem?_cons_zero, Option.some.injEq] at hg; subst hg
    rw [← h2]; congr 2; omega
  · rw [e] at hg; simp only [cells4, List.getElem?_cons_succ, List.getElem?_cons_zero, Option.some.injEq] at hg; subst hg
    rw [← h3]; congr 2; omega
theorem step_append_wins {ops : Array Oper} {o : Oper} {a : Act} {w : World} {K : Act → World → Prop} {Q : Exit → Act → World → Prop} {E : Prop}
    (hg : o.guard = none) (s x : Operand) (hop : o.op = Op.call { callee := Callee.builtin Builtin.append, args := #[s, x], argTypes := #[34, 34] })
    (base : Nat) (A0 : Option Addr) (n c0 : Nat) (xs : List Value) (hs : a.eval s = .slice A0 n c0) (hown : w.ownsRow base 90 4 (.slice A0 n c0) n xs)
    (B : Nat) (A : Option Addr) (c : Nat) (L : List Win) (hx : a.eval x = .slice A L.length c) (hr : RdW w B A L) (N : Nat) (hN : n + L.length = N) (hb : N ≤ 4096) (hc0 : n ≤ c0) (hB : base ≤ w.heap.size)
    (hK : ∀ A' c' w', w'.ownsRow base 90 4 (.slice A' N c') N (xs ++ winCs L) → N ≤ c' → w.grownBy w' (Value.slice A0 n c0).ownBlock → K (a.put o.dst (.slice A' N c')) w') :
    if Region.wanted o (yielded ops a.tmps) = true then Oper.wp Try.prog o a w K Q else E := by
  subst hN
  obtain ⟨i0, hi0, hz, hz1, hz2⟩ := info_parts info_winE
  rcases Nat.eq_zero_or_pos L.length with h0 | h0
  · have hw : Region.wanted o (yielded ops a.tmps) = true := by simp [Region.wanted, hg]
    rw [if_pos hw]
    obtain rfl : L = [] := List.eq_nil_of_length_eq_zero h0
    have hsrc : Src Try.prog i0.size 34 (.slice A 0 c) 0 [] w := by
      rcases A with _ | ad
      · exact Src.ofNil w Try.underlying34 c
      · exact Src.ofSlice w Try.underlying34 ad 0 c [] (by simp) (fun j u h => by simp at h) (fun u h => by simp at h)
    have hrun := run_append_nothing (P := Try.prog) w 34 34 o.type 90 i0 Try.underlying34 hi0 A0 n c0 hc0 (.slice A 0 c) hsrc
    unfold Oper.wp
    simp [execOp, hop, resolve, invoke, builtin, hs, hx, hrun, Result.andThen]
    exact hK A0 c0 w (by simpa [winCs] using hown) (by simpa using hc0) (World.grownBy.refl _ _)
  · rcases hr with rfl | ⟨b, off, rfl, hbb, hc⟩
    · simp at h0
    · refine step_append_ring hg s x 34 hop base 90 i0 _ 4 32 Try.underlying34 hi0 hz hz1 hz2 rfl (by decide) _ n xs hs hown ⟨b, off, none⟩ L.length c (winCs L) hx (winCs_len L) (wins_cells hc) (winCs_one L) (by simp only [maxLen]; omega) (by omega) hB ?_
      intro v' w' h1 h2
      rcases h1.2 with ⟨rfl, hn⟩ | ⟨g, cap, cur, rfl, r1, r2, r3, r4⟩
      · omega
      · exact hK _ _ _ h1 r3 h2
end Go.Proofs.Ytomebbapjolnlaa
