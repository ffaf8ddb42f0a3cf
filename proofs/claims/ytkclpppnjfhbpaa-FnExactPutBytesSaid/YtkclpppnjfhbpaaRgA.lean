/-
  Rings as the law has them: a ring that comes in, its cells, boxes that hold one; toRing, eqRing of the law.
-/
import Derived.Test.YtkclpppnjfhbpaaRgM
import Derived.Test.YtkclpppnjfhbpaaLawW
namespace Go.Proofs.Ytkclpppnjfhbpaa
open Go.RowKit Go.ChangeShapes Go.WideShapes Go.Joins Go.Deep

theorem ring_cells {w : World} {g : Nat} {u0 u1 u2 u3 u4 u5 : Value} {t : TypeId} (h : w.heap[g]? = some (.cells #[u0, u1, u2, u3, u4, u5] t)) :
    w.cell? ⟨g, 0, none⟩ = some u0 ∧ w.cell? ⟨g, 1, none⟩ = some u1 ∧ w.cell? ⟨g, 2, none⟩ = some u2 ∧ w.cell? ⟨g, 3, none⟩ = some u3 ∧ w.cell? ⟨g, 4, none⟩ = some u4 ∧ w.cell? ⟨g, 5, none⟩ = some u5 := by simp [World.cell?, h]
theorem ring_frozen {w : World} {g : Nat} {u0 u1 u2 u3 u4 u5 : Value} {t : TypeId} (h : w.heap[g]? = some (.cells #[u0, u1, u2, u3, u4, u5] t)) :
    w.frozen? ⟨g, 0, none⟩ = false ∧ w.frozen? ⟨g, 1, none⟩ = false ∧ w.frozen? ⟨g, 2, none⟩ = false ∧ w.frozen? ⟨g, 3, none⟩ = false ∧ w.frozen? ⟨g, 4, none⟩ = false ∧ w.frozen? ⟨g, 5, none⟩ = false := by simp [World.frozen?, h]
theorem ring_put {wx : World} {q i : Nat} {cs : Array Value} {v : Value} {t : TypeId} (h : wx.heap[q]? = some (.cells cs t)) : (wx.setCell ⟨q, i, none⟩ v).heap[q]? = some (.cells (cs.setIfInBounds i v) t) := heap_setCell_same wx q i cs t v h
theorem ring_set {wx : World} {q : Nat} {u0 u1 u2 u3 u4 u5 v0 v1 v2 v3 v4 v5 : Value} {t : TypeId} (h : wx.heap[q]? = some (.cells #[u0, u1, u2, u3, u4, u5] t)) :
    ((((((wx.setCell ⟨q, 0, none⟩ v0).setCell ⟨q, 1, none⟩ v1).setCell ⟨q, 2, none⟩ v2).setCell ⟨q, 3, none⟩ v3).setCell ⟨q, 4, none⟩ v4).setCell ⟨q, 5, none⟩ v5).heap[q]? = some (.cells #[v0, v1, v2, v3, v4, v5] t) := by
  have h5 := ring_put (i := 5) (v := v5) (ring_put (i := 4) (v := v4) (ring_put (i := 3) (v := v3) (ring_put (i := 2) (v := v2) (ring_put (i := 1) (v := v1) (ring_put (i := 0) (v := v0) h)))))
  simpa using h5
theorem ring_other {wx : World} {q j : Nat} {v0 v1 v2 v3 v4 v5 : Value} (hj : j ≠ q) : ((((((wx.setCell ⟨q, 0, none⟩ v0).setCell ⟨q, 1, none⟩ v1).setCell ⟨q, 2, none⟩ v2).setCell ⟨q, 3, none⟩ v3).setCell ⟨q, 4, none⟩ v4).setCell ⟨q, 5, none⟩ v5).heap[j]? = wx.heap[j]? := by
  rw [Below.heap_setCell _ _ _ _ hj, Below.heap_setCell _ _ _ _ hj, Below.heap_setCell _ _ _ _ hj, Below.heap_setCell _ _ _ _ hj, Below.heap_setCell _ _ _ _ hj, Below.heap_setCell _ _ _ _ hj]
theorem heap_alloc_at2 {w : World} {g : Nat} {o : Obj} (h : w.heap.size = g) : (w.alloc o).heap[g]? = some o := by
  subst h
  exact heap_alloc_new w o
theorem ring_keep {wx : World} {q j : Nat} {o : Obj} {v0 v1 v2 v3 v4 v5 : Value} (h : wx.heap[j]? = some o) (hj : j ≠ q) : ((((((wx.setCell ⟨q, 0, none⟩ v0).setCell ⟨q, 1, none⟩ v1).setCell ⟨q, 2, none⟩ v2).setCell ⟨q, 3, none⟩ v3).setCell ⟨q, 4, none⟩ v4).setCell ⟨q, 5, none⟩ v5).heap[j]? = some o := by rw [ring_other hj]; exact h
theorem one_other {w : World} {g h i : Nat} {o : Obj} {u : Value} (z : w.heap[g]? = some o) (hn : g ≠ h) : (w.setCell ⟨h, i, none⟩ u).heap[g]? = some o := (Below.heap_setCell w ⟨h, i, none⟩ u g hn).trans z
theorem drew_block {w : World} {g : Nat} {o : Obj} (h : w.heap[g]? = some o) : w.drew.heap[g]? = some o := h
section
variable {W W' : World} {b g : Nat} {q : Rg}
end

def Rg.val (r : Rg) : Value := .agg #[.int .i64 r.w.arr, .int .i64 r.w.start, .int .i64 r.w.len, .int .i64 r.w.cap, .int .i64 r.first, .int .i64 r.many]
/-- What a ring that came in is good for. -/
def RArg (r : Rg) : Prop := WArg r.w ∧ (Lit.int .i64 r.first).wf = true ∧ (Lit.int .i64 r.many).wf = true
section
variable {H : Type} {enc : TypeId × Value → H} {W : World} {b0 : Nat} {v : Value} {d : DataW H} {p : List MemPlace} {t : TypeId} {r : Reach}
set_option maxRecDepth 100000 in
/-- A ring that came in. -/
theorem open_ring {fw f1 f2 g0 g1 g2 g3 : Field} (hs : Try.prog.underlying t = some (.struct #[fw, f1, f2])) (hC : Try.prog.cellsOf t = 6)
    (hw : fw.offset = 0 ∧ Try.prog.cellsOf fw.type = 4) (h1 : f1.offset = 4 ∧ f1.type = 3) (h2 : f2.offset = 5 ∧ f2.type = 3) (hc : Try.prog.cellsOf 3 = 1)
    (hsw : Try.prog.underlying fw.type = some (.struct #[g0, g1, g2, g3])) (k0 : g0.offset = 0 ∧ g0.type = 3) (k1 : g1.offset = 1 ∧ g1.type = 3) (k2 : g2.offset = 2 ∧ g2.type = 3) (k3 : g3.offset = 3 ∧ g3.type = 3)
    (hv : Value.okWide Try.prog W r b0 t v) (h : DataW.Trod enc Try.prog W 0 (fun _ => true) true t v d p) : ∃ x : Rg, v = x.val ∧ RArg x := by
  obtain ⟨cs, rfl, hsz⟩ := okWide_struct hs hv
  rw [hC] at hsz
  obtain ⟨c0, c1, c2, c3, c4, c5, rfl⟩ : ∃ c0 c1 c2 c3 c4 c5, cs = #[c0, c1, c2, c3, c4, c5] := by
    obtain ⟨l⟩ := cs
    match l, hsz with
    | [c0, c1, c2, c3, c4, c5], _ => exact ⟨c0, c1, c2, c3, c4, c5, rfl⟩
  obtain ⟨fuel, hf⟩ := h
  obtain ⟨y0, y1, y2, n, _, _, e0, e1, e2⟩ := trod_struct3 hs hf
  rw [hw.1, hw.2] at e0
  rw [h1.1, h1.2, hc] at e1
  rw [h2.1, h2.2, hc] at e2
  simp only [Value.cells, List.drop_zero, List.drop_succ_cons, List.take_succ_cons, List.take_zero] at e0 e1 e2
  obtain ⟨z0, z1, z2, z3, n2, _, _, j0, j1, j2, j3⟩ := trod_struct4 hsw e0
  rw [k0.1, k0.2, hc] at j0
  rw [k1.1, k1.2, hc] at j1
  rw [k2.1, k2.2, hc] at j2
  rw [k3.1, k3.2, hc] at j3
  simp only [List.drop_zero, List.drop_succ_cons, List.take_succ_cons, List.take_zero] at j0 j1 j2 j3
  obtain ⟨i0, a0, _, w0⟩ := DataW.trod_int Try.underlying3 j0
  obtain ⟨i1, a1, _, w1⟩ := DataW.trod_int Try.underlying3 j1
  obtain ⟨i2, a2, _, w2⟩ := DataW.trod_int Try.underlying3 j2
  obtain ⟨i3, a3, _, w3⟩ := DataW.trod_int Try.underlying3 j3
  obtain ⟨i4, a4, _, w4⟩ := DataW.trod_int Try.underlying3 e1
  obtain ⟨i5, a5, _, w5⟩ := DataW.trod_int Try.underlying3 e2
  obtain rfl : c0 = .int .i64 i0 := by simpa using a0
  obtain rfl : c1 = .int .i64 i1 := by simpa using a1
  obtain rfl : c2 = .int .i64 i2 := by simpa using a2
  obtain rfl : c3 = .int .i64 i3 := by simpa using a3
  obtain rfl : c4 = .int .i64 i4 := by simpa using a4
  obtain rfl : c5 = .int .i64 i5 := by simpa using a5
  exact ⟨⟨⟨i0, i1, i2, i3⟩, i4, i5⟩, rfl, ⟨w0, w1, w2, w3⟩, w4, w5⟩
end
theorem eqWin_self (q : Win) (w : World) :
    Calls Try.prog 63 #[.agg #[.int .i64 q.arr, .int .i64 q.start, .int .i64 q.len, .int .i64 q.cap], .agg #[.int .i64 q.arr, .int .i64 q.start, .int .i64 q.len, .int .i64 q.cap]] w fun e w' => e = .returned (.bool true) ∧ Below w.heap.size w w' := by
  have h := eqWindow_calls q q w
  rw [show decide (q = q) = true by simp] at h
  exact h
end Go.Proofs.Ytkclpppnjfhbpaa
