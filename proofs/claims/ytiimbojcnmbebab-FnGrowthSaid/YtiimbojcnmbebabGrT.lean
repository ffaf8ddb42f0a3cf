/-
  Growth, as mathematics: the runs behind each change.
-/
import Derived.Test.YtiimbojcnmbebabGrM
namespace Go.Proofs.Ytiimbojcnmbebab
open Go.RowKit

/-- The runs behind each change of a list. -/
def runsG (g : GR) (s : Int) : RunG → List Int → Option (List RunG)
  | _, [] => some []
  | r, n :: ns => (doG g s r n).bind fun r1 => (runsG g s r1 ns).map fun L => r1 :: L
theorem allG_runs (g : GR) (s : Int) (xs : List Int) : ∀ r, allG g s r xs = (runsG g s r xs).map fun L => (L.getLastD r, L.map RunG.cap) := by
  induction xs with
  | nil => intro r; rfl
  | cons x xs ih =>
    intro r
    rw [allG, runsG]
    cases h : doG g s r x with
    | none => rfl
    | some r1 =>
      simp only [Option.bind_some, ih]
      cases h2 : runsG g s r1 xs with
      | none => rfl
      | some L => cases L <;> simp [List.getLastD]
theorem runsG_snoc (g : GR) (s : Int) (xs : List Int) (n : Int) : ∀ r, runsG g s r (xs ++ [n]) = (runsG g s r xs).bind fun L => (doG g s (L.getLastD r) n).map fun r1 => L ++ [r1] := by
  induction xs with
  | nil => intro r; cases h : doG g s r n <;> simp [runsG, h]
  | cons x xs ih =>
    intro r
    rw [List.cons_append, runsG, runsG]
    cases h : doG g s r x with
    | none => simp
    | some r1 =>
      simp only [Option.bind_some, ih]
      cases h2 : runsG g s r1 xs with
      | none => simp
      | some L =>
        simp only [Option.bind_some, Option.map_some]
        have hl : (r1 :: L).getLastD r = L.getLastD r1 := by cases L <;> simp [List.getLastD]
        rw [hl]
        cases h3 : doG g s (L.getLastD r1) n <;> simp
theorem runsG_none (g : GR) (s : Int) (xs ys : List Int) (r : RunG) (h : runsG g s r xs = none) : runsG g s r (xs ++ ys) = none := by
  induction xs generalizing r with
  | nil => simp [runsG] at h
  | cons x xs ih =>
    rw [List.cons_append, runsG]
    rw [runsG] at h
    cases h1 : doG g s r x with
    | none => simp
    | some r1 =>
      rw [h1] at h
      simp only [Option.bind_some, Option.map_eq_none_iff] at h ⊢
      exact ih r1 h
theorem runsG_take {g : GR} {s : Int} {xs : List Int} {i : Nat} (h : i < xs.length) (r : RunG) : runsG g s r (xs.take (i + 1)) = (runsG g s r (xs.take i)).bind fun L => (doG g s (L.getLastD r) xs[i]).map fun r1 => L ++ [r1] := by
  rw [List.take_add_one, List.getElem?_eq_getElem h, Option.toList_some, runsG_snoc]
theorem runsG_stop {g : GR} {s : Int} {xs : List Int} {i : Nat} (r : RunG) (h : runsG g s r (xs.take i) = none) : runsG g s r xs = none := by
  rw [← List.take_append_drop i xs]; exact runsG_none g s _ _ r h
theorem runsG_len {g : GR} {s : Int} {xs : List Int} : ∀ {r : RunG} {L : List RunG}, runsG g s r xs = some L → L.length = xs.length := by
  induction xs with
  | nil => intro r L h; simp only [runsG, Option.some.injEq] at h; rw [← h]; rfl
  | cons x xs ih =>
    intro r L h
    rw [runsG] at h
    cases h1 : doG g s r x with
    | none => rw [h1] at h; simp at h
    | some r1 =>
      rw [h1] at h
      simp only [Option.bind_some, Option.map_eq_some_iff] at h
      obtain ⟨L2, h2, rfl⟩ := h
      simp [ih h2]
theorem runsG_ok {g : GR} (hg : g.OK) {s : Int} (hs : 0 ≤ s) {xs : List Int} : ∀ {r : RunG} {k : Int} {L : List RunG}, RunOK r k → runsG g s r xs = some L → RunOK (L.getLastD r) (k + xs.length) ∧ ∀ r' ∈ L, RunOK r' (k + xs.length) := by
  induction xs with
  | nil =>
    intro r k L h hr
    simp only [runsG, Option.some.injEq] at hr
    subst hr
    exact ⟨by simpa [List.getLastD] using h, by simp⟩
  | cons x xs ih =>
    intro r k L h hr
    rw [runsG] at hr
    cases h1 : doG g s r x with
    | none => rw [h1] at hr; simp at hr
    | some r1 =>
      rw [h1] at hr
      simp only [Option.bind_some, Option.map_eq_some_iff] at hr
      obtain ⟨L2, h2, rfl⟩ := hr
      have hr1 := doG_ok hg hs h h1
      obtain ⟨a, b⟩ := ih hr1 h2
      have hl : (r1 :: L2).getLastD r = L2.getLastD r1 := by cases L2 <;> simp [List.getLastD]
      have hk : k + ((x :: xs).length : Nat) = k + 1 + (xs.length : Nat) := by rw [List.length_cons]; omega
      rw [hl, hk]
      refine ⟨a, ?_⟩
      intro r' hr'
      rcases List.mem_cons.1 hr' with rfl | hr'
      · obtain ⟨l0, lc, c1, m0, m1, q0, q1, w0, w1⟩ := hr1
        exact ⟨l0, lc, c1, m0, by omega, q0, by omega, w0, w1⟩
      · exact b r' hr'
/-- The greatest waste of some runs. -/
def wasteOf : Int → List RunG → Int
  | a, [] => a
  | a, r :: L => wasteOf (max a (r.cap - r.len)) L
theorem doG_waste {g : GR} {s : Int} {r r' : RunG} {n : Int} (h : doG g s r n = some r') : r'.waste = max r.waste (r'.cap - r'.len) := by
  unfold doG at h
  split at h
  · split at h
    · injection h with h; subst h; rfl
    · cases h
  · split at h
    · cases h
    · injection h with h; subst h
      unfold takeG
      simp only
      split <;> rfl
theorem runsG_waste {g : GR} {s : Int} {xs : List Int} : ∀ {r : RunG} {L : List RunG}, runsG g s r xs = some L → (L.getLastD r).waste = wasteOf r.waste L := by
  induction xs with
  | nil => intro r L h; simp only [runsG, Option.some.injEq] at h; subst h; rfl
  | cons x xs ih =>
    intro r L h
    rw [runsG] at h
    cases h1 : doG g s r x with
    | none => rw [h1] at h; simp at h
    | some r1 =>
      rw [h1] at h
      simp only [Option.bind_some, Option.map_eq_some_iff] at h
      obtain ⟨L2, h2, rfl⟩ := h
      have hl : (r1 :: L2).getLastD r = L2.getLastD r1 := by cases L2 <;> simp [List.getLastD]
      rw [hl, ih h2, wasteOf, doG_waste h1]
theorem wasteOf_snoc (L : List RunG) (r : RunG) : ∀ a, wasteOf a (L ++ [r]) = max (wasteOf a L) (r.cap - r.len) := by
  induction L with
  | nil => intro a; rfl
  | cons x L ih => intro a; rw [List.cons_append, wasteOf, wasteOf, ih]
/-- The runs of a list of changes, and whether they fit: none if the rule or the list isn't valid or doesn't fit. -/
def storesR (g : GR) (s : Int) (xs : List Int) : List RunG × Bool := match runsG g s runG0 xs with
  | some L => if g.OK then (L, true) else ([], false)
  | none => ([], false)
/-- The runs of a list of at most 40 changes. -/
def listS (g : GR) (s : Int) (xs : List Int) : List RunG × Bool := if xs.length ≤ 40 then storesR g s xs else ([], false)
theorem listS_all (g : GR) (s : Int) (xs : List Int) : (listS g s xs = ([], false) ∧ listG g s xs = none) ∨ (∃ L, runsG g s runG0 xs = some L ∧ g.OK ∧ xs.length ≤ 40 ∧ listS g s xs = (L, true) ∧ listG g s xs = some (L.getLastD runG0, L.map RunG.cap)) := by
  unfold listS storesR listG
  by_cases hl : xs.length ≤ 40
  · by_cases hg : g.OK
    · cases h : runsG g s runG0 xs with
      | none => left; simp [hl, hg, allG_runs, h]
      | some L => right; exact ⟨L, rfl, hg, hl, by simp [hl, hg], by simp [hl, hg, allG_runs, h]⟩
    · left
      refine ⟨?_, by simp [hg]⟩
      cases runsG g s runG0 xs <;> simp [hg]
  · left; simp [hl]
end Go.Proofs.Ytiimbojcnmbebab
