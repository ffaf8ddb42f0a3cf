/-
  The law's marks on rows of rows of bytes: markByteSS, heldByteSS.
-/
import Derived.Test.YtiimbojcnmbebabMat
namespace Go.Proofs.Ytiimbojcnmbebab
open Go.RowKit

theorem own_ne {w : World} {b1 b2 : Nat} {e1 e2 : TypeId} {s1 s2 : Nat} {v1 v2 : Value} {n1 n2 : Nat} {x1 x2 : List Value} (h1 : w.ownsRow b1 e1 s1 v1 n1 x1) (h2 : w.ownsRow b2 e2 s2 v2 n2 x2) (he : e1 ≠ e2) : v1.ownBlock = none ∨ v1.ownBlock ≠ v2.ownBlock := by
  rcases h1.2 with ⟨rfl, _⟩ | ⟨g, cap, cur, rfl, _, hg, _⟩
  · exact .inl rfl
  rcases h2.2 with ⟨rfl, _⟩ | ⟨g2, cap2, cur2, rfl, _, hg2, _⟩
  · right; simp [Value.ownBlock]
  · right
    intro e
    have e : g = g2 := by simpa [Value.ownBlock] using e
    subst e
    rw [hg] at hg2
    injection hg2 with hg2
    injection hg2 with _ ht
    exact he ht
theorem OwnR.kept {w w' : World} {lo hi : Nat} {e : TypeId} {v : Value} {xs : List Value} (h : OwnR w lo hi e v xs) {row : Option Nat} (hg : w.grownBy w' row) (hr : v.ownBlock = none ∨ v.ownBlock ≠ row) : OwnR w' lo hi e v xs := ⟨h.1.kept hg hr, h.2⟩
/-- One row is written anew. -/
theorem Rows.set {w w' : World} {lo hi : Nat} {hs : List Value} {m : List (List Int)} (h : Rows w lo hi hs m) {j : Nat} {x : Value} {ys : List Int} (hx : hs[j]? = some x) (ho : OwnR w' lo hi 5 x (intV .u8 ys)) (hg : w.grownBy w' x.ownBlock) : Rows w' lo hi hs (m.set j ys) := by
  refine ⟨by simp [h.len], fun i hi => ?_, h.apart⟩
  by_cases hij : i = j
  · subst hij
    exact ⟨x, hx, by simpa using ho⟩
  · obtain ⟨y, hy, hr⟩ := h.row i (by simpa using hi)
    refine ⟨y, hy, ?_⟩
    rw [List.getElem_set_ne (by omega)]
    refine hr.kept hg ?_
    rcases Nat.lt_or_ge i j with hlt | hge
    · exact h.apart i j y x hlt hy hx
    · rcases h.apart j i x y (by omega) hx hy with hn | hn
      · rw [hn]
        rcases hv : y.ownBlock with _ | g
        · exact .inl rfl
        · right; simp
      · exact .inr (fun e => hn e.symm)

/-- The first j rows bear the marks from k on. -/
def markTo (k : Nat) (m : List (List Int)) : Nat → List (List Int)
  | 0 => m
  | j + 1 => (markTo k m j).set j (marksB (k + total (m.take j)) (m.getD j []).length)
def marksM (k : Nat) (m : List (List Int)) : List (List Int) := markTo k m m.length
theorem markTo_len (k : Nat) (m : List (List Int)) (j : Nat) : (markTo k m j).length = m.length := by
  induction j with
  | zero => rfl
  | succ j ih => rw [markTo, List.length_set, ih]
theorem marksM_len (k : Nat) (m : List (List Int)) : (marksM k m).length = m.length := markTo_len _ _ _
theorem markTo_ge (k : Nat) (m : List (List Int)) (j i : Nat) (h : j ≤ i) : (markTo k m j)[i]? = m[i]? := by
  induction j with
  | zero => rfl
  | succ j ih => rw [markTo, List.getElem?_set_ne (by omega), ih (by omega)]
theorem markTo_lt (k : Nat) (m : List (List Int)) (j i : Nat) (h : i < j) (hi : i < m.length) : (markTo k m j)[i]? = some (marksB (k + total (m.take i)) m[i].length) := by
  induction j with
  | zero => omega
  | succ j ih =>
    rw [markTo]
    by_cases he : i = j
    · subst he
      rw [List.getElem?_set_self (by rw [markTo_len]; exact hi), List.getD_eq_getElem?_getD, List.getElem?_eq_getElem hi]
      rfl
    · rw [List.getElem?_set_ne (by omega), ih (by omega)]
theorem markTo_at (k : Nat) (m : List (List Int)) (j : Nat) (h : j < m.length) : (markTo k m j)[j]'(by rw [markTo_len]; exact h) = m[j] := by
  have := markTo_ge k m j j (Nat.le_refl _)
  rw [List.getElem?_eq_getElem (by rw [markTo_len]; exact h), List.getElem?_eq_getElem h] at this
  injection this
theorem marksM_at (k : Nat) (m : List (List Int)) (j : Nat) (h : j < m.length) : (marksM k m)[j]'(by rw [marksM_len]; exact h) = marksB (k + total (m.take j)) m[j].length := by
  have := markTo_lt k m m.length j h h
  rw [List.getElem?_eq_getElem (by rw [markTo_len]; exact h)] at this
  injection this

end Go.Proofs.Ytiimbojcnmbebab
