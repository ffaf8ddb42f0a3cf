/-
  Growth, as mathematics: what FnGrowth asks.
-/
import Derived.Test.YtiimbojcnmbebabGrT
namespace Go.Proofs.Ytiimbojcnmbebab
open Go.RowKit

theorem nextG_more {g : GR} {len cap n : Int} (h : ¬ len + n ≤ cap) : cap < nextG g len cap n := by
  unfold nextG; rw [if_neg h]; omega
/-- What an append brings. -/
structure AppF (r r' : RunG) (n : Int) : Prop where
  n0 : 0 ≤ n
  n1 : n ≤ 1000000
  l : r'.len = r.len + n
  c : r.cap ≤ r'.cap
  m : r'.moves = r.moves + (if r.cap < r'.cap then 1 else 0)
  q : r'.cost = r.cost + (if r.cap < r'.cap then r.len else 0) + n
theorem doG_app {g : GR} {r r' : RunG} {n : Int} (h : doG g 0 r n = some r') : AppF r r' n := by
  unfold doG at h
  split at h
  · split at h
    · rename_i h0 h1
      injection h with h
      subst h
      exact ⟨h0, h1.1, rfl, (nextG_ge g r.len r.cap n).1, rfl, rfl⟩
    · cases h
  · rw [if_pos (Or.inl rfl)] at h
    cases h
/-- The invariant of one byte after the other, with doubling. -/
structure Dbl (r : RunG) : Prop where
  a : r.len ≤ r.cost
  b : r.cost - r.len ≤ r.cap
  c : r.cost - r.len ≤ 2 * r.len
theorem dbl_next {g : GR} (hg : g.OK) (h2 : 2 * g.den ≤ g.num) {len cap : Int} (h0 : 0 ≤ cap) (h : ¬ len + 1 ≤ cap) (hl : len ≤ cap) : 2 * cap ≤ nextG g len cap 1 := by
  unfold nextG
  rw [if_neg h]
  obtain ⟨d1, d2, d3, d4, d5, d6⟩ := hg
  have h3 : cap * (2 * g.den) ≤ cap * g.num := Int.mul_le_mul_of_nonneg_left h2 h0
  have h4 : 2 * cap ≤ (cap * g.num).tdiv g.den := by
    rw [Int.tdiv_eq_ediv_of_nonneg (Int.mul_nonneg h0 (by omega))]
    refine (Int.le_ediv_iff_mul_le (by omega)).2 ?_
    have : 2 * cap * g.den = cap * (2 * g.den) := by rw [Int.mul_comm 2 cap, Int.mul_assoc]
    rw [this]; exact h3
  omega
theorem dbl_step {g : GR} (hg : g.OK) (h2 : 2 * g.den ≤ g.num) {r r' : RunG} {k : Int} (hr : RunOK r k) (hd : Dbl r) (h : doG g 0 r 1 = some r') : Dbl r' := by
  have hA := doG_app h
  obtain ⟨l0, lc, c1, m0, m1, q0, q1, w0, w1⟩ := hr
  obtain ⟨da, db, dc⟩ := hd
  obtain ⟨a0, a1, al, ac, am, aq⟩ := hA
  have hcap : r'.cap = nextG g r.len r.cap 1 := by
    unfold doG at h
    rw [if_pos (by omega)] at h
    split at h
    · injection h with h; subst h; rfl
    · cases h
  by_cases hc : r.len + 1 ≤ r.cap
  · have hn : nextG g r.len r.cap 1 = r.cap := if_pos hc
    rw [hn] at hcap
    rw [if_neg (by omega)] at aq
    exact ⟨by omega, by omega, by omega⟩
  · have hm := nextG_more (g := g) hc
    have h3 := dbl_next hg h2 (by omega) hc lc
    rw [← hcap] at hm h3
    rw [if_pos hm] at aq
    exact ⟨by omega, by omega, by omega⟩
theorem dbl_all {g : GR} (hg : g.OK) (h2 : 2 * g.den ≤ g.num) : ∀ (n : Nat) {r : RunG} {k : Int} {L : List RunG}, RunOK r k → Dbl r → runsG g 0 r (List.replicate n 1) = some L → Dbl (L.getLastD r) ∧ (L.getLastD r).len = r.len + n := by
  intro n
  induction n with
  | zero =>
    intro r k L hr hd h
    simp only [List.replicate, runsG, Option.some.injEq] at h
    subst h
    exact ⟨by simpa [List.getLastD] using hd, by simp [List.getLastD]⟩
  | succ n ih =>
    intro r k L hr hd h
    rw [List.replicate_succ, runsG] at h
    cases h1 : doG g 0 r 1 with
    | none => rw [h1] at h; simp at h
    | some r1 =>
      rw [h1] at h
      simp only [Option.bind_some, Option.map_eq_some_iff] at h
      obtain ⟨L2, h3, rfl⟩ := h
      have hl : (r1 :: L2).getLastD r = L2.getLastD r1 := by cases L2 <;> simp [List.getLastD]
      obtain ⟨a, b⟩ := ih (doG_ok hg (Int.le_refl 0) hr h1) (dbl_step hg h2 hr hd h1) h3
      rw [hl]
      exact ⟨a, by rw [b, (doG_app h1).l]; omega⟩
/-- Without the doubling: the length, and what it costs at least. -/
theorem app_all {g : GR} (hg : g.OK) : ∀ (xs : List Int) {r : RunG} {k : Int} {L : List RunG}, RunOK r k → r.len ≤ r.cost → runsG g 0 r xs = some L → (L.getLastD r).len ≤ (L.getLastD r).cost ∧ (L.getLastD r).len = r.len + xs.sum := by
  intro xs
  induction xs with
  | nil =>
    intro r k L hr hd h
    simp only [runsG, Option.some.injEq] at h
    subst h
    exact ⟨by simpa [List.getLastD] using hd, by simp [List.getLastD]⟩
  | cons x xs ih =>
    intro r k L hr hd h
    rw [runsG] at h
    cases h1 : doG g 0 r x with
    | none => rw [h1] at h; simp at h
    | some r1 =>
      rw [h1] at h
      simp only [Option.bind_some, Option.map_eq_some_iff] at h
      obtain ⟨L2, h3, rfl⟩ := h
      have hl : (r1 :: L2).getLastD r = L2.getLastD r1 := by cases L2 <;> simp [List.getLastD]
      obtain ⟨a0, a1, al, ac, am, aq⟩ := doG_app h1
      have hr0 := hr.l0
      obtain ⟨a, b⟩ := ih (doG_ok hg (Int.le_refl 0) hr h1) (by rw [al, aq]; split <;> omega) h3
      rw [hl]
      exact ⟨a, by rw [b, al, List.sum_cons]; omega⟩
end Go.Proofs.Ytiimbojcnmbebab
