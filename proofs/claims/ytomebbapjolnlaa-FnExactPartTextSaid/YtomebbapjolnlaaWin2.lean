/-
  Windows that are answered: SliceThree of spec and impl, l2Slice of spec.
-/
import Derived.Test.YtomebbapjolnlaaImplC
namespace Go.Proofs.Ytomebbapjolnlaa
open Go.RowKit

/-- A memory, a window and the answer's block, zero as yet, as a function has them. -/
structure MWR (W : World) (g : Nat) (A : Option Addr) (n c : Nat) (a s l k : Int) : Prop where
  mw : MW W g A n c a s l k
  res : W.heap[g + 1 + 1]? = some (.cells #[.int .i64 0, .int .i64 0, .int .i64 0, .int .i64 0] 90)
theorem MWR.below {W W' : World} {g : Nat} {A : Option Addr} {n c : Nat} {a s l k : Int} (h : MWR W g A n c a s l k) (hb : Below W.heap.size W W') : MWR W' g A n c a s l k :=
  ⟨h.mw.below hb, (hb.block _ (Array.getElem?_eq_some_iff.1 h.res).1).trans h.res⟩
theorem enterMWR (A : Option Addr) (n c : Nat) (a s l k : Int) (w : World) :
    ∃ w0, ((w.alloc (.cells #[.slice A n c] 32)).alloc (.cells #[.int .i64 a, .int .i64 s, .int .i64 l, .int .i64 k] 90)).alloc (.cells #[.int .i64 0, .int .i64 0, .int .i64 0, .int .i64 0] 90) = w0 ∧ Below w.heap.size w w0 ∧ w0.heap.size = w.heap.size + 3 ∧ MWR w0 w.heap.size A n c a s l k := by
  obtain ⟨h1, h2, h3, h4, h5⟩ := enter3 w (.cells #[.slice A n c] 32) (.cells #[.int .i64 a, .int .i64 s, .int .i64 l, .int .i64 k] 90) (.cells #[.int .i64 0, .int .i64 0, .int .i64 0, .int .i64 0] 90)
  exact ⟨_, rfl, h1, h5, ⟨h2, h3⟩, h4⟩
theorem four_frozen {w : World} {g : Nat} {u0 u1 u2 u3 : Value} {t : TypeId} (h : w.heap[g]? = some (.cells #[u0, u1, u2, u3] t)) :
    w.frozen? ⟨g, 0, none⟩ = false ∧ w.frozen? ⟨g, 1, none⟩ = false ∧ w.frozen? ⟨g, 2, none⟩ = false ∧ w.frozen? ⟨g, 3, none⟩ = false := by simp [World.frozen?, h]

/-- What SliceThree answers. -/
def sliceV (m : List (List Int)) (x : Win) (i j k : Int) : Value :=
  if WinOK m x ∧ 0 ≤ i ∧ i ≤ j ∧ j ≤ k ∧ k ≤ x.cap then .tuple #[.agg #[.int .i64 x.arr, .int .i64 (x.start + i), .int .i64 (j - i), .int .i64 (k - i)], .bool true]
  else .tuple #[.agg #[.int .i64 0, .int .i64 0, .int .i64 0, .int .i64 0], .bool false]

set_option maxRecDepth 100000 in
theorem specSlice_calls (a s l c i j k : Int) (w : World) (h1 : -1000 ≤ s ∧ s ≤ 1000) (h2 : 0 ≤ i ∧ i ≤ 1000) (h3 : 0 ≤ j ∧ j ≤ 1000) (h4 : 0 ≤ k ∧ k ≤ 1000) :
    Calls Try.prog 118 #[.agg #[.int .i64 a, .int .i64 s, .int .i64 l, .int .i64 c], .int .i64 i, .int .i64 j, .int .i64 k] w fun e w' => e = .returned (.agg #[.int .i64 a, .int .i64 (s + i), .int .i64 (j - i), .int .i64 (k - i)]) ∧ Below w.heap.size w w' := by
  obtain ⟨h11, h12⟩ := h1
  obtain ⟨h21, h22⟩ := h2
  obtain ⟨h31, h32⟩ := h3
  obtain ⟨h41, h42⟩ := h4
  go_enter Try.func118, Try.ntmps118
  go_wp2_with fail
  refine bodyPost_ret (v := .agg #[.int .i64 a, .int .i64 (s + i), .int .i64 (j - i), .int .i64 (k - i)]) (by simp [results, Try.results118, go_sem]) rfl ⟨rfl, ?_⟩
  (repeat (first | (with_reducible exact Below.refl _ _) | (with_reducible refine Below.drew ?_) | ((with_reducible refine Below.alloc ?_ ?hB _); case hB => (first | (with_reducible exact Nat.le_refl _) | omega | (simp; done) | (simp; omega))) | ((with_reducible refine Below.setCell ?_ ?hB _); case hB => (first | (with_reducible exact Nat.le_refl _) | omega | (simp; done) | (simp; omega)))))

end Go.Proofs.Ytomebbapjolnlaa
