/-
  The law's helpers on rows of rows of bytes: toByteSS, szByteSS.
-/
import Derived.Test.YtiimbojcnmbebabRow
namespace Go.Proofs.Ytiimbojcnmbebab
open Go.RowKit

theorem info_u8s : (Try.prog.info? 22).map (fun i => (i.zero, i.size, i.bytes)) = some (some (.slice none 0 0), 1, 24) := by kernel_rfl

/-- Rows of the call's own, none twice. -/
structure Rows (w : World) (lo hi : Nat) (hs : List Value) (m : List (List Int)) : Prop where
  len : hs.length = m.length
  row : ∀ i (h : i < m.length), ∃ x, hs[i]? = some x ∧ OwnR w lo hi 5 x (intV .u8 m[i])
  apart : ∀ (i j : Nat) (x y : Value), i < j → hs[i]? = some x → hs[j]? = some y → x.ownBlock = none ∨ x.ownBlock ≠ y.ownBlock
section
variable {w w' : World} {lo hi : Nat} {v : Value} {hs : List Value} {m : List (List Int)}
theorem Rows.none_ (w : World) (lo hi : Nat) : Rows w lo hi [] [] := ⟨rfl, fun i h => by simp at h, fun i j x y _ h => by simp at h⟩
theorem Rows.span (h : Rows w lo hi hs m) {l2 h2 : Nat} (hp : Span l2 h2 w w') (ho : hi ≤ l2 ∨ h2 ≤ lo) : Rows w' lo hi hs m :=
  ⟨h.len, fun i hi => by obtain ⟨x, hx, hr⟩ := h.row i hi; exact ⟨x, hx, hr.span hp ho⟩, h.apart⟩
theorem Rows.below (h : Rows w lo hi hs m) (hb : Below w.heap.size w w') : Rows w' lo hi hs m := h.span (Span.of_below (lo := hi) (hi := hi) hb) (.inl (Nat.le_refl _))
theorem Rows.mono {lo' hi' : Nat} (h : Rows w lo hi hs m) (h1 : lo' ≤ lo) (h2 : hi ≤ hi') : Rows w lo' hi' hs m :=
  ⟨h.len, fun i hi => by obtain ⟨x, hx, hr⟩ := h.row i hi; exact ⟨x, hx, hr.mono h1 h2⟩, h.apart⟩
theorem Rows.snoc (h : Rows w lo hi hs m) {hi' : Nat} {x : Value} {r : List Int} (hx : OwnR w hi hi' 5 x (intV .u8 r)) (h1 : lo ≤ hi) (h2 : hi ≤ hi') : Rows w lo hi' (hs ++ [x]) (m ++ [r]) := by
  have hl := h.len
  refine ⟨by simp [hl], fun i hi => ?_, fun i j a b hij ha hb => ?_⟩
  · by_cases hlt : i < m.length
    · obtain ⟨y, hy, hr⟩ := h.row i hlt
      refine ⟨y, by rw [List.getElem?_append_left (by omega)]; exact hy, ?_⟩
      rw [List.getElem_append_left hlt]
      exact hr.mono (Nat.le_refl _) h2
    · have hi2 : i = m.length := by simp at hi; omega
      subst hi2
      refine ⟨x, by rw [List.getElem?_append_right (by omega), hl]; simp, ?_⟩
      rw [List.getElem_append_right (by omega)]
      simpa using hx.mono h1 (Nat.le_refl _)
  · have hj : j < m.length + 1 := by have := (List.getElem?_eq_some_iff.1 hb).1; simp at this; omega
    have hi : i < m.length := by omega
    rw [List.getElem?_append_left (by omega)] at ha
    by_cases hlt : j < m.length
    · rw [List.getElem?_append_left (by omega)] at hb
      exact h.apart i j a b hij ha hb
    · have hj2 : j = m.length := by omega
      subst hj2
      rw [List.getElem?_append_right (by omega), hl] at hb
      simp at hb
      subst hb
      obtain ⟨y, hy, hr⟩ := h.row i hi
      rw [ha] at hy
      injection hy with hy
      subst hy
      rcases hv : a.ownBlock with _ | g
      · exact .inl rfl
      · right
        intro e
        have := hr.2 g hv
        have := hx.1.lt g e.symm
        omega
theorem Rows.own (h : Rows w lo hi hs m) (hv : OwnR w lo hi 22 v hs) : OwnM w lo hi v m := ⟨hs, h.len, hv, h.row, h.apart⟩
theorem OwnM.rows (h : OwnM w lo hi v m) : ∃ hs, OwnR w lo hi 22 v hs ∧ Rows w lo hi hs m := by
  obtain ⟨hs, a, b, c, d⟩ := h
  exact ⟨hs, b, a, c, d⟩
end

/-- The bytes of rows. -/
def total (m : List (List Int)) : Nat := (m.map List.length).sum
theorem total_snoc (m : List (List Int)) (k : Nat) (h : k < m.length) : total (m.take (k + 1)) = total (m.take k) + m[k].length := by
  unfold total; rw [List.take_succ_eq_append_getElem h, List.map_append, List.sum_append]; simp
theorem total_le (m : List (List Int)) (k : Nat) : total (m.take k) ≤ total m := by
  unfold total
  rw [← List.take_append_drop k m, List.map_append, List.sum_append]
  simp
theorem row_le (m : List (List Int)) (r : List Int) (h : r ∈ m) : r.length ≤ total m := by
  unfold total
  induction m with
  | nil => cases h
  | cons a m ih =>
    rw [List.map_cons, List.sum_cons]
    rcases List.mem_cons.1 h with rfl | h
    · omega
    · have := ih h; omega

/-- What szByteSS answers: -1, or the number that is left. -/
def SzM (m : List (List Int)) (left : Int) (e : Ending) : Prop :=
  ∃ r : Int, e = .returned (.int .i64 r) ∧ (r = -1 ∨ (0 ≤ r ∧ r = left - m.length - total m))
end Go.Proofs.Ytiimbojcnmbebab
