/-
  A window that grows, as mathematics.
-/
import Derived.Test.YtkclpppnjfhbpaaAppS
namespace Go.Proofs.Ytkclpppnjfhbpaa
open Go.RowKit

theorem appR_win {m : List (List Int)} {n s l c : Nat} {xs : List Int} (hm : MemOK m) (hn : n < m.length) (hl : l ≤ c) (hc : s + c ≤ m[n].length) (hb : (appR m n s l c xs).2.2 = true) : WinOK (appR m n s l c xs).1 (appR m n s l c xs).2.1 := by
  have h64 := (hm.2 _ (List.getElem_mem hn)).2
  have h1 := (hm.2 _ (List.getElem_mem hn)).1
  unfold appR at hb ⊢
  split
  · rename_i h
    have hlen : (over m[n] (s + l) xs).length = m[n].length := over_len (by omega)
    rw [getD_eq hn]
    refine ⟨⟨by rw [List.length_set]; exact hm.1, fun r hr => ?_⟩, ?_, ?_, ?_, ?_, ?_, ?_⟩
    · rcases List.mem_or_eq_of_mem_set hr with hr | hr
      · exact hm.2 r hr
      · rw [hr, hlen]; exact ⟨h1, h64⟩
    · simp only; omega
    · simp only [List.length_set]; omega
    · simp only; omega
    · simp only; omega
    · simp only; omega
    · simp only [Int.toNat_natCast]
      rw [List.getD_eq_getElem?_getD, List.getElem?_set_self (by omega), Option.getD_some, hlen]
      omega
  · split
    · rename_i h2 h3
      rw [if_neg h2, if_pos h3] at hb
      cases hb
    · rename_i h2 h3
      have h16 := hm.1
      have hw := wb_len hn (show s + l ≤ m[n].length by omega)
      have hnl : (wb m n s l ++ xs ++ List.replicate (min (max (2 * c) (l + xs.length)) 64 - (l + xs.length)) 0).length = min (max (2 * c) (l + xs.length)) 64 := by simp [hw]; omega
      refine ⟨⟨by rw [List.length_append, List.length_singleton]; omega, fun r hr => ?_⟩, ?_, ?_, ?_, ?_, ?_, ?_⟩
      · rcases List.mem_append.1 hr with hr | hr
        · exact hm.2 r hr
        · rw [List.mem_singleton.1 hr, hnl]; omega
      · simp only; omega
      · simp only [List.length_append, List.length_singleton]; omega
      · simp only; omega
      · simp only; omega
      · simp only; omega
      · simp only [Int.toNat_natCast]
        rw [List.getD_eq_getElem?_getD, List.getElem?_append_right (Nat.le_refl _), Nat.sub_self]
        simp only [List.getElem?_cons_zero, Option.getD_some, hnl]
        omega
/-- What AppendBytes answers (appendR of XAppI says the same). -/
def appX (m : List (List Int)) (x : Win) (xs : List Int) : List (List Int) × Win × Bool :=
  if WinOK m x then appR m x.arr.toNat x.start.toNat x.len.toNat x.cap.toNat xs else ([], ⟨0, 0, 0, 0⟩, false)
theorem appX_win {m : List (List Int)} {x : Win} {xs : List Int} (hb : (appX m x xs).2.2 = true) : WinOK (appX m x xs).1 (appX m x xs).2.1 := by
  unfold appX at hb ⊢
  by_cases h : WinOK m x
  · rw [if_pos h] at hb ⊢
    obtain ⟨n, s, l, c, rfl, hnl, hlc, hsc, h1, h64, h16⟩ := h.nat
    simp only [Int.toNat_natCast] at hb ⊢
    exact appR_win h.1 hnl hlc hsc hb
  · rw [if_neg h] at hb; cases hb
/-- All appends, one behind the other: the memory, the window, how often it has moved. -/
def growL : List (List Int) → Win → Int → List (List Int) → Option (List (List Int) × Win × Int)
  | m, x, k, [] => some (m, x, k)
  | m, x, k, p :: ps => if (appX m x p).2.2 = true then growL (appX m x p).1 (appX m x p).2.1 (k + if (appX m x p).2.1.arr ≠ x.arr then 1 else 0) ps else none
theorem growL_snoc (ps : List (List Int)) (p : List Int) : ∀ (m : List (List Int)) (x : Win) (k : Int), growL m x k (ps ++ [p]) = (growL m x k ps).bind fun q => if (appX q.1 q.2.1 p).2.2 = true then some ((appX q.1 q.2.1 p).1, (appX q.1 q.2.1 p).2.1, q.2.2 + if (appX q.1 q.2.1 p).2.1.arr ≠ q.2.1.arr then 1 else 0) else none := by
  induction ps with
  | nil =>
    intro m x k
    simp only [List.nil_append, growL, Option.bind_some]
  | cons y ps ih =>
    intro m x k
    rw [List.cons_append, growL, growL]
    split
    · exact ih _ _ _
    · rfl
theorem growL_none (ps qs : List (List Int)) : ∀ (m : List (List Int)) (x : Win) (k : Int), growL m x k ps = none → growL m x k (ps ++ qs) = none := by
  induction ps with
  | nil => intro m x k h; cases h
  | cons y ps ih =>
    intro m x k h
    rw [growL] at h
    rw [List.cons_append, growL]
    split
    · rename_i hb
      rw [if_pos hb] at h
      exact ih _ _ _ h
    · rfl
theorem growL_win (ps : List (List Int)) : ∀ {m : List (List Int)} {x : Win} {k : Int} {q : List (List Int) × Win × Int}, WinOK m x → growL m x k ps = some q → WinOK q.1 q.2.1 ∧ k ≤ q.2.2 ∧ q.2.2 ≤ k + ps.length := by
  induction ps with
  | nil =>
    intro m x k q h hq
    simp only [growL, Option.some.injEq] at hq
    subst hq
    exact ⟨h, Int.le_refl _, by simp⟩
  | cons y ps ih =>
    intro m x k q h hq
    rw [growL] at hq
    split at hq
    · rename_i hb
      obtain ⟨a, b, c⟩ := ih (appX_win hb) hq
      refine ⟨a, ?_, ?_⟩
      · split at b <;> omega
      · rw [List.length_cons]; split at c <;> omega
    · cases hq
/-- What GrowWindow answers. -/
def growWR (m : List (List Int)) (x : Win) (ps : List (List Int)) : List (List Int) × Win × Int × Bool :=
  if WinOK m x ∧ ps.length ≤ 40 then (match growL m x 0 ps with
    | some q => (q.1, q.2.1, q.2.2, true)
    | none => ([], ⟨0, 0, 0, 0⟩, 0, false)) else ([], ⟨0, 0, 0, 0⟩, 0, false)
end Go.Proofs.Ytkclpppnjfhbpaa
