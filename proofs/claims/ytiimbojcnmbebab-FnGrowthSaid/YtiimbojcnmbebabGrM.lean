/-
  Growth, as mathematics: rules, the next cap, what a list of changes brings.
-/
import Derived.Test.YtiimbojcnmbebabBase
namespace Go.Proofs.Ytiimbojcnmbebab
open Go.RowKit

structure GR where
  num : Int
  den : Int
  add : Int
def GR.OK (g : GR) : Prop := 1 ≤ g.den ∧ g.den ≤ 8 ∧ g.den ≤ g.num ∧ g.num ≤ 8 ∧ 0 ≤ g.add ∧ g.add ≤ 64
instance (g : GR) : Decidable g.OK := by unfold GR.OK; exact inferInstance
/-- The cap behind appending n bytes. -/
def nextG (g : GR) (len cap n : Int) : Int := if len + n ≤ cap then cap else max (max ((cap * g.num).tdiv g.den + g.add) (len + n)) (cap + 1)
/-- A number of bytes. -/
def SzG (n : Int) : Prop := 0 ≤ n ∧ n ≤ 1000000
instance (n : Int) : Decidable (SzG n) := by unfold SzG; exact inferInstance
/-- The answer of NextCap. -/
def nextCapR (g : GR) (len room n : Int) : Int × Bool :=
  if g.OK ∧ SzG len ∧ SzG room ∧ SzG n ∧ SzG (len + room) ∧ SzG (len + n) ∧ SzG (nextG g len (len + room) n) then (nextG g len (len + room) n, true) else (0, false)
/-- What has been brought. -/
structure RunG where
  moves : Int
  cost : Int
  waste : Int
  len : Int
  cap : Int
def runG0 : RunG := ⟨0, 0, 0, 0, 0⟩
/-- An append. -/
def appG (g : GR) (r : RunG) (n : Int) : RunG :=
  let c := nextG g r.len r.cap n
  let b := if r.cap < c then 1 else 0
  let l := if r.cap < c then r.len else 0
  ⟨r.moves + b, r.cost + l + n, max r.waste (c - (r.len + n)), r.len + n, c⟩
/-- A taking, with shrinking by s. -/
def takeG (s : Int) (r : RunG) (n : Int) : RunG :=
  let l := r.len + n
  if s * l ≤ r.cap ∧ 2 ≤ r.cap then ⟨r.moves + 1, r.cost + l, max r.waste (max (r.cap.tdiv 2) l - l), l, max (r.cap.tdiv 2) l⟩
  else ⟨r.moves, r.cost, max r.waste (r.cap - l), l, r.cap⟩
/-- A change, with shrinking by s unless s is 0. -/
def doG (g : GR) (s : Int) (r : RunG) (n : Int) : Option RunG :=
  if 0 ≤ n then (if n ≤ 1000000 ∧ r.len + n ≤ 1000000 ∧ (appG g r n).cap ≤ 1000000 then some (appG g r n) else none)
  else if s = 0 ∨ r.len + n < 0 then none else some (takeG s r n)
/-- All changes: what they bring, and the caps behind each. -/
def allG (g : GR) (s : Int) : RunG → List Int → Option (RunG × List Int)
  | r, [] => some (r, [])
  | r, n :: ns => (doG g s r n).bind fun r1 => (allG g s r1 ns).map fun p => (p.1, r1.cap :: p.2)
/-- What holds of what has been brought by k changes. -/
structure RunOK (r : RunG) (k : Int) : Prop where
  l0 : 0 ≤ r.len
  lc : r.len ≤ r.cap
  c1 : r.cap ≤ 1000000
  m0 : 0 ≤ r.moves
  m1 : r.moves ≤ k
  q0 : 0 ≤ r.cost
  q1 : r.cost ≤ 2000000 * k
  w0 : 0 ≤ r.waste
  w1 : r.waste ≤ 1000000
theorem runG0_ok : RunOK runG0 0 := by constructor <;> decide
theorem tdiv_le {a b : Int} (h : 0 ≤ a) (hb : 1 ≤ b) : 0 ≤ a.tdiv b ∧ a.tdiv b ≤ a := by
  rw [Int.tdiv_eq_ediv_of_nonneg h]
  exact ⟨Int.ediv_nonneg h (by omega), Int.ediv_le_self _ h⟩
theorem nextG_ge (g : GR) (len cap n : Int) : cap ≤ nextG g len cap n ∧ len + n ≤ nextG g len cap n := by
  unfold nextG
  split <;> omega
theorem nextG_le {g : GR} (hg : g.OK) {len cap n : Int} (h0 : 0 ≤ cap) (h1 : cap ≤ 1000000) (h2 : len + n ≤ 1000000) : nextG g len cap n ≤ 8000064 := by
  unfold nextG
  obtain ⟨d1, d2, d3, d4, d5, d6⟩ := hg
  split
  · omega
  · have hm : 0 ≤ cap * g.num := Int.mul_nonneg h0 (by omega)
    have hm2 : cap * g.num ≤ cap * 8 := Int.mul_le_mul_of_nonneg_left d4 h0
    have := tdiv_le hm d1
    omega
theorem doG_ok {g : GR} (_hg : g.OK) {s : Int} (_hs : 0 ≤ s) {r r' : RunG} {k n : Int} (h : RunOK r k) (hd : doG g s r n = some r') : RunOK r' (k + 1) := by
  obtain ⟨l0, lc, c1, m0, m1, q0, q1, w0, w1⟩ := h
  unfold doG at hd
  split at hd
  · split at hd
    · rename_i hn hq
      injection hd with hd
      subst hd
      obtain ⟨a1, a2⟩ := nextG_ge g r.len r.cap n
      simp only [appG] at hq ⊢
      obtain ⟨b1, b2, b3⟩ := hq
      constructor <;> simp only <;> (try split) <;> omega
    · cases hd
  · split at hd
    · cases hd
    · rename_i hn hq
      injection hd with hd
      subst hd
      have hc : 0 ≤ r.cap.tdiv 2 ∧ r.cap.tdiv 2 ≤ r.cap := tdiv_le (by omega) (by omega)
      unfold takeG
      simp only
      split
      · constructor <;> simp only <;> omega
      · constructor <;> simp only <;> omega
theorem allG_snoc (g : GR) (s : Int) (xs : List Int) (n : Int) (r : RunG) : allG g s r (xs ++ [n]) = (allG g s r xs).bind fun p => (doG g s p.1 n).map fun r1 => (r1, p.2 ++ [r1.cap]) := by
  induction xs generalizing r with
  | nil => cases h : doG g s r n <;> simp [allG, h]
  | cons x xs ih =>
    rw [List.cons_append, allG, allG]
    cases h : doG g s r x with
    | none => simp
    | some r1 =>
      simp only [Option.bind_some, ih]
      cases h2 : allG g s r1 xs with
      | none => simp
      | some p =>
        simp only [Option.bind_some, Option.map_some]
        cases h3 : doG g s p.1 n <;> simp
theorem allG_none (g : GR) (s : Int) (xs ys : List Int) (r : RunG) (h : allG g s r xs = none) : allG g s r (xs ++ ys) = none := by
  induction xs generalizing r with
  | nil => simp [allG] at h
  | cons x xs ih =>
    rw [List.cons_append, allG]
    rw [allG] at h
    cases h1 : doG g s r x with
    | none => simp
    | some r1 =>
      rw [h1] at h
      simp only [Option.bind_some, Option.map_eq_none_iff] at h ⊢
      exact ih r1 h
theorem allG_ok {g : GR} (hg : g.OK) {s : Int} (hs : 0 ≤ s) {xs : List Int} : ∀ {r r' : RunG} {k : Int} {cs : List Int}, RunOK r k → allG g s r xs = some (r', cs) → RunOK r' (k + xs.length) ∧ cs.length = xs.length ∧ ∀ c ∈ cs, SzG c := by
  induction xs with
  | nil =>
    intro r r' k cs h ha
    simp only [allG, Option.some.injEq, Prod.mk.injEq] at ha
    obtain ⟨rfl, rfl⟩ := ha
    exact ⟨by simpa using h, rfl, by simp⟩
  | cons x xs ih =>
    intro r r' k cs h ha
    rw [allG] at ha
    cases h1 : doG g s r x with
    | none => rw [h1] at ha; simp at ha
    | some r1 =>
      rw [h1] at ha
      simp only [Option.bind_some, Option.map_eq_some_iff, Prod.mk.injEq, Prod.exists] at ha
      obtain ⟨r2, cs2, h2, rfl, rfl⟩ := ha
      have hr1 := doG_ok hg hs h h1
      obtain ⟨a, b, c⟩ := ih hr1 h2
      refine ⟨by rw [List.length_cons, show k + ((xs.length + 1 : Nat) : Int) = k + 1 + xs.length by omega]; exact a, by simp [b], ?_⟩
      intro c' hc'
      rcases List.mem_cons.1 hc' with rfl | hc'
      · exact ⟨Int.le_trans hr1.l0 hr1.lc, hr1.c1⟩
      · exact c c' hc'
/-- Where the changes of a list are made one behind the other. -/
theorem allG_take {g : GR} {s : Int} {xs : List Int} {i : Nat} (h : i < xs.length) (r : RunG) : allG g s r (xs.take (i + 1)) = (allG g s r (xs.take i)).bind fun p => (doG g s p.1 xs[i]).map fun r1 => (r1, p.2 ++ [r1.cap]) := by
  rw [List.take_add_one, List.getElem?_eq_getElem h, Option.toList_some, allG_snoc]
theorem allG_stop {g : GR} {s : Int} {xs : List Int} {i : Nat} (r : RunG) (h : allG g s r (xs.take i) = none) : allG g s r xs = none := by
  rw [← List.take_append_drop i xs]; exact allG_none g s _ _ r h
/-- What all changes of a list bring: none if the rule or the list isn't valid or doesn't fit. -/
def listG (g : GR) (s : Int) (xs : List Int) : Option (RunG × List Int) := if g.OK ∧ xs.length ≤ 40 then allG g s runG0 xs else none
def capsR (g : GR) (s : Int) (xs : List Int) : List Int × Bool := match listG g s xs with
  | some p => (p.2, true)
  | none => ([], false)
/-- A number of what all changes of a list bring. -/
def numR (f : RunG → Int) (g : GR) (s : Int) (xs : List Int) : Int × Bool := match listG g s xs with
  | some p => (f p.1, true)
  | none => (0, false)
/-- With shrinking. -/
def shrinkOK (s : Int) : Prop := 2 ≤ s ∧ s ≤ 8
instance (s : Int) : Decidable (shrinkOK s) := by unfold shrinkOK; exact inferInstance
/-- One byte after the other. -/
def singG (g : GR) (k : Int) : Option (RunG × List Int) := if g.OK ∧ 0 ≤ k ∧ k ≤ 2000 then allG g 0 runG0 (List.replicate k.toNat 1) else none
theorem singG_take {g : GR} {i : Nat} (r : RunG) : allG g 0 r (List.replicate (i + 1) 1) = (allG g 0 r (List.replicate i 1)).bind fun p => (doG g 0 p.1 1).map fun r1 => (r1, p.2 ++ [r1.cap]) := by
  rw [show List.replicate (i + 1) (1 : Int) = List.replicate i 1 ++ [1] from List.replicate_succ', allG_snoc]
end Go.Proofs.Ytiimbojcnmbebab
