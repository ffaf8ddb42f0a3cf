/-
  The model on windows: l2At, l2Bytes, l2Slice, l2Both of spec.
-/
import Derived.Test.YtoelagfcapdfpaaSpecM
import Derived.OwnWalk
namespace Go.Proofs.Ytoelagfcapdfpaa
open Go.RowKit

theorem WinOK.nat {m : List (List Int)} {x : Win} (h : WinOK m x) :
    ∃ n s l c : Nat, x = ⟨n, s, l, c⟩ ∧ ∃ hn : n < m.length, l ≤ c ∧ s + c ≤ m[n].length ∧ 1 ≤ m[n].length ∧ m[n].length ≤ 64 ∧ m.length ≤ 16 := by
  obtain ⟨xa, xs, xl, xc⟩ := x
  obtain ⟨hm, h1, h2, h3, h4, h5, h6⟩ := h
  simp only at h1 h2 h3 h4 h5 h6
  have hn : xa.toNat < m.length := by omega
  have e : m.getD xa.toNat [] = m[xa.toNat] := by rw [List.getD_eq_getElem?_getD, List.getElem?_eq_getElem hn]; rfl
  rw [e] at h6
  refine ⟨xa.toNat, xs.toNat, xl.toNat, xc.toNat, ?_, hn, by omega, by omega, (hm.2 _ (List.getElem_mem hn)).1, (hm.2 _ (List.getElem_mem hn)).2, hm.1⟩
  congr 1 <;> omega
/-- The bytes that a window sees. -/
def wb (m : List (List Int)) (n s l : Nat) : List Int := ((m.getD n []).drop s).take l
section
variable {m : List (List Int)} {n s l : Nat}
theorem getD_eq (hn : n < m.length) : m.getD n [] = m[n] := by rw [List.getD_eq_getElem?_getD, List.getElem?_eq_getElem hn]; rfl
theorem wb_eq (hn : n < m.length) : wb m n s l = (m[n].drop s).take l := by rw [wb, getD_eq hn]
theorem wb_len (hn : n < m.length) (h : s + l ≤ m[n].length) : (wb m n s l).length = l := by rw [wb_eq hn, List.length_take, List.length_drop]; omega
theorem wb_get (hn : n < m.length) {i : Nat} (h : i < (wb m n s l).length) (h2 : s + i < m[n].length) : (wb m n s l)[i] = m[n][s + i] := by
  have h3 : i < ((m[n].drop s).take l).length := by rw [← wb_eq hn]; exact h
  have : (wb m n s l)[i] = ((m[n].drop s).take l)[i] := by congr 1; exact wb_eq hn
  rw [this, List.getElem_take, List.getElem_drop]
theorem wb_snoc (hn : n < m.length) {i : Nat} (h2 : s + i < m[n].length) : wb m n s (i + 1) = wb m n s i ++ [m[n][s + i]] := by
  rw [wb_eq hn, wb_eq hn, List.take_succ_eq_append_getElem (by rw [List.length_drop]; omega), List.getElem_drop]
theorem wb_zero : wb m n s 0 = [] := by simp [wb]
end
/-- A row's part reads as the part. -/
theorem Rd.part {w : World} {B : Nat} {b off : Nat} {xs : List Int} (h : Rd w B (some ⟨b, off, none⟩) (intV .u8 xs)) (s l : Nat) : Rd w B (some ⟨b, off + s, none⟩) (intV .u8 ((xs.drop s).take l)) := by
  rcases h with h | ⟨b2, off2, e, hb, hc⟩
  · have : xs = [] := by simpa [intV] using h
    subst this
    left; simp [intV]
  · injection e with e; injection e with e1 e2; subst e1; subst e2
    refine .inr ⟨b, off + s, rfl, hb, fun i u hu => ?_⟩
    rw [Nat.add_assoc]
    refine hc (s + i) u ?_
    simp only [intV, List.getElem?_map, List.getElem?_take, List.getElem?_drop] at hu ⊢
    split at hu
    · exact hu
    · simp at hu

theorem enter2 (w : World) (x y : Obj) : Below w.heap.size w ((w.alloc x).alloc y) ∧ ((w.alloc x).alloc y).heap[w.heap.size]? = some x ∧ ((w.alloc x).alloc y).heap[w.heap.size + 1]? = some y ∧ ((w.alloc x).alloc y).heap.size = w.heap.size + 2 := by
  refine ⟨by (repeat (first | (with_reducible exact Below.refl _ _) | (with_reducible refine Below.drew ?_) | ((with_reducible refine Below.alloc ?_ ?hB _); case hB => (first | (with_reducible exact Nat.le_refl _) | omega | (simp; done) | (simp; omega))) | ((with_reducible refine Below.setCell ?_ ?hB _); case hB => (first | (with_reducible exact Nat.le_refl _) | omega | (simp; done) | (simp; omega))))), alloc_old _ (heap_alloc_new _ _), ?_, by simp⟩
  simpa using heap_alloc_new (w.alloc x) y
theorem enter3 (w : World) (x y z : Obj) : Below w.heap.size w (((w.alloc x).alloc y).alloc z) ∧ (((w.alloc x).alloc y).alloc z).heap[w.heap.size]? = some x ∧ (((w.alloc x).alloc y).alloc z).heap[w.heap.size + 1]? = some y ∧ (((w.alloc x).alloc y).alloc z).heap[w.heap.size + 1 + 1]? = some z ∧ (((w.alloc x).alloc y).alloc z).heap.size = w.heap.size + 3 := by
  obtain ⟨a, b, c, d⟩ := enter2 w x y
  refine ⟨by (repeat (first | (with_reducible exact Below.refl _ _) | (with_reducible refine Below.drew ?_) | ((with_reducible refine Below.alloc ?_ ?hB _); case hB => (first | (with_reducible exact Nat.le_refl _) | omega | (simp; done) | (simp; omega))) | ((with_reducible refine Below.setCell ?_ ?hB _); case hB => (first | (with_reducible exact Nat.le_refl _) | omega | (simp; done) | (simp; omega))))), alloc_old _ b, alloc_old _ c, ?_, by simp⟩
  simpa using heap_alloc_new ((w.alloc x).alloc y) z
/-- Blocks g and g + 1 are a memory and a window, as a function has them of its arguments. -/
structure MW (W : World) (g : Nat) (A : Option Addr) (n c : Nat) (a s l k : Int) : Prop where
  mem : W.heap[g]? = some (.cells #[.slice A n c] 31)
  win : W.heap[g + 1]? = some (.cells #[.int .i64 a, .int .i64 s, .int .i64 l, .int .i64 k] 33)
theorem MW.below {W W' : World} {g : Nat} {A : Option Addr} {n c : Nat} {a s l k : Int} (h : MW W g A n c a s l k) (hb : Below W.heap.size W W') : MW W' g A n c a s l k :=
  ⟨(hb.block _ (Array.getElem?_eq_some_iff.1 h.mem).1).trans h.mem, (hb.block _ (Array.getElem?_eq_some_iff.1 h.win).1).trans h.win⟩
theorem enterMW (A : Option Addr) (n c : Nat) (a s l k : Int) (w : World) :
    ∃ w0, (w.alloc (.cells #[.slice A n c] 31)).alloc (.cells #[.int .i64 a, .int .i64 s, .int .i64 l, .int .i64 k] 33) = w0 ∧ Below w.heap.size w w0 ∧ w0.heap.size = w.heap.size + 2 ∧ MW w0 w.heap.size A n c a s l k := by
  obtain ⟨h1, h2, h3, h4⟩ := enter2 w (.cells #[.slice A n c] 31) (.cells #[.int .i64 a, .int .i64 s, .int .i64 l, .int .i64 k] 33)
  exact ⟨_, rfl, h1, h4, h2, h3⟩

theorem specAt_calls (A : Option Addr) (cm : Nat) (m : List (List Int)) (n s i : Nat) (l c : Int) (w : World) (hr : Rd2 w w.heap.size A m) (hn : n < m.length) (_h16 : m.length ≤ 16) (hi : s + i < m[n].length) (h64 : m[n].length ≤ 64) :
    Calls Try.prog 97 #[.agg #[.slice A m.length cm], .agg #[.int .i64 n, .int .i64 s, .int .i64 l, .int .i64 c], .int .i64 i] w fun e w' => e = .returned (.int .u8 m[n][s + i]) ∧ Below w.heap.size w w' := by
  obtain ⟨b, off, Ai, ci, rfl, hbb, hc, hci, hcm, hri⟩ := hr.at_ hn
  obtain ⟨b2, off2, rfl, hbb2, hc2⟩ := hri.int hi
  obtain ⟨w0, hw0, hb0, hz0, hmw⟩ := enterMW (some ⟨b, off, none⟩) m.length cm n s l c w
  have c1 := one_cell hmw.mem
  obtain ⟨d0, d1, d2, d3⟩ := four_cells hmw.win
  have e1 := (hb0.cell (p := ⟨b, off + n, none⟩) hbb).trans hc
  have e2 := (hb0.cell (p := ⟨b2, off2 + (s + i), none⟩) hbb2).trans hc2
  have HB := Lib.hid hb0
  have HW := Lib.hid hw0
  clear hr hri hc hc2 hb0 hmw hw0
  generalize m[n][s + i] = q at *
  go_enter Try.func97, Try.ntmps97
  go_wp2_with fail
  rw [HW.out]
  go_quiet (fail)
  go_wp2_with fail
  go_ret
  exact ⟨rfl, below_drewN HB.out _⟩
end Go.Proofs.Ytoelagfcapdfpaa
