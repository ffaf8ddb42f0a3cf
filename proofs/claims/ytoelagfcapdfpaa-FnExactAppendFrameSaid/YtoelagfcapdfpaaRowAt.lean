/-
  Where the rows of a memory of the call's own lie.
-/
import Derived.Test.YtoelagfcapdfpaaSpecO
import Derived.Test.YtoelagfcapdfpaaWin2
namespace Go.Proofs.Ytoelagfcapdfpaa
open Go.RowKit

/-- Row n of a memory of the call's own, where it lies. -/
theorem OwnM.row_at {w : World} {lo hi : Nat} {A : Option Addr} {c : Nat} {m : List (List Int)} (h : OwnM w lo hi (.slice A m.length c) m) {n : Nat} (hn : n < m.length) (h1 : 1 ≤ m[n].length) :
    ∃ gb g cap, A = some ⟨gb, 0, none⟩ ∧ gb ≠ g ∧ lo ≤ g ∧ g < hi ∧ gb < w.heap.size ∧ g < w.heap.size ∧ w.cell? ⟨gb, n, none⟩ = some (.slice (some ⟨g, 0, none⟩) m[n].length cap) ∧ m[n].length ≤ cap ∧ cap ≤ maxLen ∧
      (∀ j (hj : j < m[n].length), w.cell? ⟨g, j, none⟩ = some (.int .u8 m[n][j])) ∧ (∀ j, w.frozen? ⟨g, j, none⟩ = false) ∧ w.ownsRow lo 5 1 (.slice (some ⟨g, 0, none⟩) m[n].length cap) m[n].length (intV .u8 m[n]) ∧
      ∀ (w' : World) (ys : List Int), ys.length = m[n].length → w'.ownsRow lo 5 1 (.slice (some ⟨g, 0, none⟩) m[n].length cap) m[n].length (intV .u8 ys) → w.grownBy w' (some g) → OwnM w' lo hi (.slice A m.length c) (m.set n ys) := by
  obtain ⟨hs, hv, hr⟩ := h.rows
  have hl := hr.len
  obtain ⟨x, hx, ho⟩ := hr.row n hn
  have hv1 := hv.1
  rw [hl] at hv1
  rcases hv1.2 with ⟨_, h0⟩ | ⟨gb, cb, cur, e, hbg, hh, hnc, hcm, hcs, htk⟩
  · omega
  injection e with e1 _ e2
  subst e1; subst e2
  have ho1 := ho.1
  rw [intV_len] at ho1
  obtain ⟨Ai, ci, rfl⟩ := own_form ho1
  rcases ho1.2 with ⟨_, h0⟩ | ⟨g, cap, cur2, e, hbg2, hh2, hnc2, hcm2, hcs2, htk2⟩
  · omega
  injection e with e1 _ e2
  subst e1; subst e2
  have hne := own_ne hv.1 ho.1 (by decide)
  have hgb : gb ≠ g := fun e => by
    subst e
    rcases hne with h | h
    · simp [Value.ownBlock] at h
    · exact h rfl
  have hxn : hs[n]'(by omega) = .slice (some ⟨g, 0, none⟩) m[n].length ci := by
    rw [List.getElem?_eq_getElem (by omega)] at hx
    injection hx with hx
  refine ⟨gb, g, ci, rfl, hgb, hbg2, ho.2 g rfl, (Array.getElem?_eq_some_iff.1 hh).1, (Array.getElem?_eq_some_iff.1 hh2).1, ?_, hnc2, hcm2, fun j hj => ?_, fun j => ho1.frozenAt j, ho1, fun w' ys hy hw hg => ?_⟩
  · rw [hv1.cellAt n (by omega), List.getElem?_eq_getElem (by omega), hxn]
  · rw [ho1.cellAt j (by omega), List.getElem?_eq_getElem (by rw [intV_len]; exact hj), intV_get]
  · have hx2 : hs[n]? = some (.slice (some ⟨g, 0, none⟩) m[n].length ci) := by rw [List.getElem?_eq_getElem (by omega), hxn]
    have hor : OwnR w' lo hi 5 (.slice (some ⟨g, 0, none⟩) m[n].length ci) (intV .u8 ys) := ⟨by rw [intV_len, hy]; exact hw, fun q hq => ho.2 q hq⟩
    have hr2 := hr.set hx2 hor hg
    have hv2 : OwnR w' lo hi 64 (.slice (some ⟨gb, 0, none⟩) m.length c) hs := hv.kept hg (.inr (by simp [Value.ownBlock]; exact hgb))
    have := hr2.own hv2
    exact this
theorem intV_set (xs : List Int) (j : Nat) (b : Int) : (intV .u8 xs).set j (.int .u8 b) = intV .u8 (xs.set j b) := by unfold intV; rw [List.map_set]
/-- The memory in which one byte is another one. -/
def putM (m : List (List Int)) (n j : Nat) (b : Int) : List (List Int) := m.set n ((m.getD n []).set j b)
theorem putM_eq {m : List (List Int)} {n j : Nat} {b : Int} (hn : n < m.length) : putM m n j b = m.set n (m[n].set j b) := by rw [putM, getD_eq hn]
theorem putM_len {m : List (List Int)} {n j : Nat} {b : Int} : (putM m n j b).length = m.length := by rw [putM, List.length_set]

/-- A memory, a window and the answer's block, a memory, as a function has them. -/
structure MWM (W : World) (g : Nat) (A : Option Addr) (n c : Nat) (a s l k : Int) : Prop where
  mw : MW W g A n c a s l k
  res : W.heap[g + 1 + 1]? = some (.cells #[.slice none 0 0] 31)
theorem MWM.below {W W' : World} {g : Nat} {A : Option Addr} {n c : Nat} {a s l k : Int} (h : MWM W g A n c a s l k) (hb : Below W.heap.size W W') : MWM W' g A n c a s l k :=
  ⟨h.mw.below hb, (hb.block _ (Array.getElem?_eq_some_iff.1 h.res).1).trans h.res⟩
theorem enterMWM (A : Option Addr) (n c : Nat) (a s l k : Int) (w : World) :
    ∃ w0, ((w.alloc (.cells #[.slice A n c] 31)).alloc (.cells #[.int .i64 a, .int .i64 s, .int .i64 l, .int .i64 k] 33)).alloc (.cells #[.slice none 0 0] 31) = w0 ∧ Below w.heap.size w w0 ∧ w0.heap.size = w.heap.size + 3 ∧ MWM w0 w.heap.size A n c a s l k := by
  obtain ⟨h1, h2, h3, h4, h5⟩ := enter3 w (.cells #[.slice A n c] 31) (.cells #[.int .i64 a, .int .i64 s, .int .i64 l, .int .i64 k] 33) (.cells #[.slice none 0 0] 31)
  exact ⟨_, rfl, h1, h5, ⟨h2, h3⟩, h4⟩

end Go.Proofs.Ytoelagfcapdfpaa
