/-
  Rings as the law has them: a ring that comes in, its cells, boxes that hold one; toRing, eqRing of the law.
-/
import Derived.Test.YtlioamjmkaaooaaRgM
import Derived.Test.YtlioamjmkaaooaaLawW
namespace Go.Proofs.Ytlioamjmkaaooaa
open Go.RowKit Go.ChangeShapes Go.WideShapes Go.Joins Go.Deep

theorem ring_cells {w : World} {g : Nat} {u0 u1 u2 u3 u4 u5 : Value} {t : TypeId} (h : w.heap[g]? = some (.cells #[u0, u1, u2, u3, u4, u5] t)) :
    w.cell? ⟨g, 0, none⟩ = some u0 ∧ w.cell? ⟨g, 1, none⟩ = some u1 ∧ w.cell? ⟨g, 2, none⟩ = some u2 ∧ w.cell? ⟨g, 3, none⟩ = some u3 ∧ w.cell? ⟨g, 4, none⟩ = some u4 ∧ w.cell? ⟨g, 5, none⟩ = some u5 := by simp [World.cell?, h]
theorem ring_frozen {w : World} {g : Nat} {u0 u1 u2 u3 u4 u5 : Value} {t : TypeId} (h : w.heap[g]? = some (.cells #[u0, u1, u2, u3, u4, u5] t)) :
    w.frozen? ⟨g, 0, none⟩ = false ∧ w.frozen? ⟨g, 1, none⟩ = false ∧ w.frozen? ⟨g, 2, none⟩ = false ∧ w.frozen? ⟨g, 3, none⟩ = false ∧ w.frozen? ⟨g, 4, none⟩ = false ∧ w.frozen? ⟨g, 5, none⟩ = false := by simp [World.frozen?, h]
theorem ring_put {wx : World} {q i : Nat} {cs : Array Value} {v : Value} {t : TypeId} (h : wx.heap[q]? = some (.cells cs t)) : (wx.setCell ⟨q, i, none⟩ v).heap[q]? = some (.cells (cs.setIfInBounds i v) t) := heap_setCell_same wx q i cs t v h
theorem ring_set {wx : World} {q : Nat} {u0 u1 u2 u3 u4 u5 v0 v1 v2 v3 v4 v5 : Value} {t : TypeId} (h : wx.heap[q]? = some (.cells #[u0, u1, u2, u3, u4, u5] t)) :
    ((((((wx.setCell ⟨q, 0, none⟩ v0).setCell ⟨q, 1, none⟩ v1).setCell ⟨q, 2, none⟩ v2).setCell ⟨q, 3, none⟩ v3).setCell ⟨q, 4, none⟩ v4).setCell ⟨q, 5, none⟩ v5).heap[q]? = some (.cells #[v0, v1, v2, v3, v4, v5] t) := by
  have h5 := ring_put (i := 5) (v := v5) (ring_put (i := 4) (v := v4) (ring_put (i := 3) (v := v3) (ring_put (i := 2) (v := v2) (ring_put (i := 1) (v := v1) (ring_put (i := 0) (v := v0) h)))))
  simpa using h5
theorem ring_other {wx : World} {q j : Nat} {v0 v1 v2 v3 v4 v5 : Value} (hj : j ≠ q) : ((((((wx.setCell ⟨q, 0, none⟩ v0).setCell ⟨q, 1, none⟩ v1).setCell ⟨q, 2, none⟩ v2).setCell ⟨q, 3, none⟩ v3).setCell ⟨q, 4, none⟩ v4).setCell ⟨q, 5, none⟩ v5).heap[j]? = wx.heap[j]? := by
  rw [Below.heap_setCell _ _ _ _ hj, Below.heap_setCell _ _ _ _ hj, Below.heap_setCell _ _ _ _ hj, Below.heap_setCell _ _ _ _ hj, Below.heap_setCell _ _ _ _ hj, Below.heap_setCell _ _ _ _ hj]
theorem heap_alloc_at2 {w : World} {g : Nat} {o : Obj} (h : w.heap.size = g) : (w.alloc o).heap[g]? = some o := by
  subst h
  exact heap_alloc_new w o
theorem ring_keep {wx : World} {q j : Nat} {o : Obj} {v0 v1 v2 v3 v4 v5 : Value} (h : wx.heap[j]? = some o) (hj : j ≠ q) : ((((((wx.setCell ⟨q, 0, none⟩ v0).setCell ⟨q, 1, none⟩ v1).setCell ⟨q, 2, none⟩ v2).setCell ⟨q, 3, none⟩ v3).setCell ⟨q, 4, none⟩ v4).setCell ⟨q, 5, none⟩ v5).heap[j]? = some o := by rw [ring_other hj]; exact h
theorem one_other {w : World} {g h i : Nat} {o : Obj} {u : Value} (z : w.heap[g]? = some o) (hn : g ≠ h) : (w.setCell ⟨h, i, none⟩ u).heap[g]? = some o := (Below.heap_setCell w ⟨h, i, none⟩ u g hn).trans z
theorem drew_block {w : World} {g : Nat} {o : Obj} (h : w.heap[g]? = some o) : w.drew.heap[g]? = some o := h
/-- Block g is a variable that holds a ring. -/
structure RBox (W : World) (b g : Nat) (q : Rg) : Prop where
  box : W.heap[g]? = some (.cells #[.int .i64 q.w.arr, .int .i64 q.w.start, .int .i64 q.w.len, .int .i64 q.w.cap, .int .i64 q.first, .int .i64 q.many] 36)
  bg : b ≤ g
  gW : g < W.heap.size
section
variable {W W' : World} {b g : Nat} {q : Rg}
theorem RBox.below (h : RBox W b g q) (k : Below W.heap.size W W') : RBox W' b g q := ⟨(k.block _ h.gW).trans h.box, h.bg, Nat.lt_of_lt_of_le h.gW k.size⟩
theorem RBox.span (h : RBox W b g q) {l2 h2 : Nat} (k : Span l2 h2 W W') (h3 : g < l2 ∨ h2 ≤ g) : RBox W' b g q := ⟨(k.block _ h.gW h3).trans h.box, h.bg, Nat.lt_of_lt_of_le h.gW k.size⟩
theorem RBox.mk' {W : World} {b g : Nat} {q : Rg} (h : W.heap[g]? = some (.cells #[.int .i64 q.w.arr, .int .i64 q.w.start, .int .i64 q.w.len, .int .i64 q.w.cap, .int .i64 q.first, .int .i64 q.many] 36)) (bg : b ≤ g) : RBox W b g q :=
  ⟨h, bg, (Array.getElem?_eq_some_iff.1 h).1⟩
theorem RBox.cells (h : RBox W b g q) : W.cell? ⟨g, 0, none⟩ = some (.int .i64 q.w.arr) ∧ W.cell? ⟨g, 1, none⟩ = some (.int .i64 q.w.start) ∧ W.cell? ⟨g, 2, none⟩ = some (.int .i64 q.w.len) ∧ W.cell? ⟨g, 3, none⟩ = some (.int .i64 q.w.cap) ∧ W.cell? ⟨g, 4, none⟩ = some (.int .i64 q.first) ∧ W.cell? ⟨g, 5, none⟩ = some (.int .i64 q.many) := ring_cells h.box
end

def Rg.val (r : Rg) : Value := .agg #[.int .i64 r.w.arr, .int .i64 r.w.start, .int .i64 r.w.len, .int .i64 r.w.cap, .int .i64 r.first, .int .i64 r.many]
/-- What a ring that came in is good for. -/
def RArg (r : Rg) : Prop := WArg r.w ∧ (Lit.int .i64 r.first).wf = true ∧ (Lit.int .i64 r.many).wf = true
section
variable {H : Type} {enc : TypeId × Value → H} {W : World} {b0 : Nat} {v : Value} {d : DataW H} {p : List MemPlace} {t : TypeId} {r : Reach}
set_option maxRecDepth 100000 in
/-- A ring that came in. -/
theorem open_ring {fw f1 f2 g0 g1 g2 g3 : Field} (hs : Try.prog.underlying t = some (.struct #[fw, f1, f2])) (hC : Try.prog.cellsOf t = 6)
    (hw : fw.offset = 0 ∧ Try.prog.cellsOf fw.type = 4) (h1 : f1.offset = 4 ∧ f1.type = 3) (h2 : f2.offset = 5 ∧ f2.type = 3) (hc : Try.prog.cellsOf 3 = 1)
    (hsw : Try.prog.underlying fw.type = some (.struct #[g0, g1, g2, g3])) (k0 : g0.offset = 0 ∧ g0.type = 3) (k1 : g1.offset = 1 ∧ g1.type = 3) (k2 : g2.offset = 2 ∧ g2.type = 3) (k3 : g3.offset = 3 ∧ g3.type = 3)
    (hv : Value.okWide Try.prog W r b0 t v) (h : DataW.Trod enc Try.prog W 0 (fun _ => true) true t v d p) : ∃ x : Rg, v = x.val ∧ RArg x := by
  obtain ⟨cs, rfl, hsz⟩ := okWide_struct hs hv
  rw [hC] at hsz
  obtain ⟨c0, c1, c2, c3, c4, c5, rfl⟩ : ∃ c0 c1 c2 c3 c4 c5, cs = #[c0, c1, c2, c3, c4, c5] := by
    obtain ⟨l⟩ := cs
    match l, hsz with
    | [c0, c1, c2, c3, c4, c5], _ => exact ⟨c0, c1, c2, c3, c4, c5, rfl⟩
  obtain ⟨fuel, hf⟩ := h
  obtain ⟨y0, y1, y2, n, _, _, e0, e1, e2⟩ := trod_struct3 hs hf
  rw [hw.1, hw.2] at e0
  rw [h1.1, h1.2, hc] at e1
  rw [h2.1, h2.2, hc] at e2
  simp only [Value.cells, List.drop_zero, List.drop_succ_cons, List.take_succ_cons, List.take_zero] at e0 e1 e2
  obtain ⟨z0, z1, z2, z3, n2, _, _, j0, j1, j2, j3⟩ := trod_struct4 hsw e0
  rw [k0.1, k0.2, hc] at j0
  rw [k1.1, k1.2, hc] at j1
  rw [k2.1, k2.2, hc] at j2
  rw [k3.1, k3.2, hc] at j3
  simp only [List.drop_zero, List.drop_succ_cons, List.take_succ_cons, List.take_zero] at j0 j1 j2 j3
  obtain ⟨i0, a0, _, w0⟩ := DataW.trod_int Try.underlying3 j0
  obtain ⟨i1, a1, _, w1⟩ := DataW.trod_int Try.underlying3 j1
  obtain ⟨i2, a2, _, w2⟩ := DataW.trod_int Try.underlying3 j2
  obtain ⟨i3, a3, _, w3⟩ := DataW.trod_int Try.underlying3 j3
  obtain ⟨i4, a4, _, w4⟩ := DataW.trod_int Try.underlying3 e1
  obtain ⟨i5, a5, _, w5⟩ := DataW.trod_int Try.underlying3 e2
  obtain rfl : c0 = .int .i64 i0 := by simpa using a0
  obtain rfl : c1 = .int .i64 i1 := by simpa using a1
  obtain rfl : c2 = .int .i64 i2 := by simpa using a2
  obtain rfl : c3 = .int .i64 i3 := by simpa using a3
  obtain rfl : c4 = .int .i64 i4 := by simpa using a4
  obtain rfl : c5 = .int .i64 i5 := by simpa using a5
  exact ⟨⟨⟨i0, i1, i2, i3⟩, i4, i5⟩, rfl, ⟨w0, w1, w2, w3⟩, w4, w5⟩
end
set_option maxRecDepth 100000 in
theorem toRg_calls (a s l k f n : Int) (w : World) :
    Calls Try.prog 20 #[.agg #[.int .i64 a, .int .i64 s, .int .i64 l, .int .i64 k, .int .i64 f, .int .i64 n]] w fun e w' => e = .returned (.agg #[.int .i64 a, .int .i64 s, .int .i64 l, .int .i64 k, .int .i64 f, .int .i64 n]) ∧ Below w.heap.size w w' := by
  obtain ⟨hb, g1, g2, g3, gz⟩ := enter3 w (.cells #[.int .i64 a, .int .i64 s, .int .i64 l, .int .i64 k, .int .i64 f, .int .i64 n] 28) (.cells #[.int .i64 0, .int .i64 0, .int .i64 0, .int .i64 0, .int .i64 0, .int .i64 0] 36) (.cells #[.int .i64 0, .int .i64 0, .int .i64 0, .int .i64 0, .int .i64 0, .int .i64 0] 36)
  obtain ⟨w0, hw0⟩ : ∃ w0, ((w.alloc (.cells #[.int .i64 a, .int .i64 s, .int .i64 l, .int .i64 k, .int .i64 f, .int .i64 n] 28)).alloc (.cells #[.int .i64 0, .int .i64 0, .int .i64 0, .int .i64 0, .int .i64 0, .int .i64 0] 36)).alloc (.cells #[.int .i64 0, .int .i64 0, .int .i64 0, .int .i64 0, .int .i64 0, .int .i64 0] 36) = w0 := ⟨_, rfl⟩
  rw [hw0] at hb g1 g2 g3 gz
  have HB := Lib.hid hb
  have HW := Lib.hid hw0
  have HG := Lib.hid (And.intro g1 (And.intro g2 g3))
  obtain ⟨a0, a1, a2, a3, a4, a5⟩ := ring_cells g1
  clear hb hw0 g1 g2 g3
  go_enter Try.func20, Try.ntmps20
  go_wp2_with fail
  rw [HW.out]
  refine (toWin_calls a s l k w0).mono ?_
  rintro e w2 ⟨rfl, hb2⟩
  have z1 := (hb2.block _ (Array.getElem?_eq_some_iff.1 HG.out.1).1).trans HG.out.1
  have z2 := (hb2.block _ (Array.getElem?_eq_some_iff.1 HG.out.2.1).1).trans HG.out.2.1
  have z3 := (hb2.block _ (Array.getElem?_eq_some_iff.1 HG.out.2.2).1).trans HG.out.2.2
  clear a0 a1 a2 a3 a4 a5
  obtain ⟨a0, a1, a2, a3, a4, a5⟩ := ring_cells z1
  obtain ⟨r0, r1, r2, r3, r4, r5⟩ := ring_cells z2
  obtain ⟨f0, f1, f2, f3, f4, f5⟩ := ring_frozen z2
  obtain ⟨c0, c1, c2, c3, c4, c5⟩ := ring_cells z3
  obtain ⟨e0, e1, e2, e3, e4, e5⟩ := ring_frozen z3
  have HB2 := Lib.hid (HB.out.trans (hb2.mono HB.out.size))
  have l1 := (Array.getElem?_eq_some_iff.1 z3).1
  clear hb2 z1 z2 z3
  go_wp2_with fail
  refine bodyPost_ret (v := .agg #[.int .i64 a, .int .i64 s, .int .i64 l, .int .i64 k, .int .i64 f, .int .i64 n]) (by simp [results, Try.results20, go_sem, r0, r1, r2, r3, r4, r5]) rfl ⟨rfl, ?_⟩
  (repeat (first | (with_reducible exact Below.refl _ _) | (with_reducible refine Below.drew ?_) | ((with_reducible refine Below.alloc ?_ ?hB _); case hB => (first | (with_reducible exact Nat.le_refl _) | omega | (simp; done) | (simp; omega))) | ((with_reducible refine Below.setCell ?_ ?hB _); case hB => (first | (with_reducible exact Nat.le_refl _) | omega | (simp; done) | (simp; omega)))))
  exact HB2.out
theorem eqWin_self (q : Win) (w : World) :
    Calls Try.prog 44 #[.agg #[.int .i64 q.arr, .int .i64 q.start, .int .i64 q.len, .int .i64 q.cap], .agg #[.int .i64 q.arr, .int .i64 q.start, .int .i64 q.len, .int .i64 q.cap]] w fun e w' => e = .returned (.bool true) ∧ Below w.heap.size w w' := by
  have h := eqWindow_calls q q w
  rw [show decide (q = q) = true by simp] at h
  exact h
set_option maxRecDepth 100000 in
/-- A ring compared with itself. -/
theorem eqRing_self (q : Rg) (w : World) :
    Calls Try.prog 26 #[.agg #[.int .i64 q.w.arr, .int .i64 q.w.start, .int .i64 q.w.len, .int .i64 q.w.cap, .int .i64 q.first, .int .i64 q.many], .agg #[.int .i64 q.w.arr, .int .i64 q.w.start, .int .i64 q.w.len, .int .i64 q.w.cap, .int .i64 q.first, .int .i64 q.many]] w fun e w' => e = .returned (.bool true) ∧ Below w.heap.size w w' := by
  obtain ⟨⟨a, s, l, k⟩, f, n⟩ := q
  dsimp only
  have hff : (f != f) = false := by simp
  have hnn : (n != n) = false := by simp
  have HE : Hid (∀ W, Calls Try.prog 44 #[.agg #[.int .i64 a, .int .i64 s, .int .i64 l, .int .i64 k], .agg #[.int .i64 a, .int .i64 s, .int .i64 l, .int .i64 k]] W fun e w' => e = .returned (.bool true) ∧ Below W.heap.size W w') := Lib.hid fun W => by
    have h := eqWindow_calls ⟨a, s, l, k⟩ ⟨a, s, l, k⟩ W
    rw [show decide ((⟨a, s, l, k⟩ : Win) = ⟨a, s, l, k⟩) = true by simp] at h
    exact h
  obtain ⟨hb, g1, g2, gz⟩ := enter2 w (.cells #[.int .i64 a, .int .i64 s, .int .i64 l, .int .i64 k, .int .i64 f, .int .i64 n] 36) (.cells #[.int .i64 a, .int .i64 s, .int .i64 l, .int .i64 k, .int .i64 f, .int .i64 n] 36)
  obtain ⟨w0, hw0⟩ : ∃ w0, (w.alloc (.cells #[.int .i64 a, .int .i64 s, .int .i64 l, .int .i64 k, .int .i64 f, .int .i64 n] 36)).alloc (.cells #[.int .i64 a, .int .i64 s, .int .i64 l, .int .i64 k, .int .i64 f, .int .i64 n] 36) = w0 := ⟨_, rfl⟩
  rw [hw0] at hb g1 g2 gz
  have HB := Lib.hid hb
  have HW := Lib.hid hw0
  have HG := Lib.hid (And.intro g1 g2)
  obtain ⟨a0, a1, a2, a3, a4, a5⟩ := ring_cells g1
  obtain ⟨c0, c1, c2, c3, c4, c5⟩ := ring_cells g2
  clear hb hw0 g1 g2
  go_enter Try.func26, Try.ntmps26
  go_wp2_with fail
  rw [HW.out]
  refine (HE.out w0).mono ?_
  rintro e w2 ⟨rfl, hb2⟩
  have z1 := (hb2.block _ (Array.getElem?_eq_some_iff.1 HG.out.1).1).trans HG.out.1
  have z2 := (hb2.block _ (Array.getElem?_eq_some_iff.1 HG.out.2).1).trans HG.out.2
  clear a0 a1 a2 a3 a4 a5 c0 c1 c2 c3 c4 c5
  obtain ⟨a0, a1, a2, a3, a4, a5⟩ := ring_cells z1
  obtain ⟨c0, c1, c2, c3, c4, c5⟩ := ring_cells z2
  have HB2 := Lib.hid (HB.out.trans (hb2.mono HB.out.size))
  clear hb2 z1 z2
  go_wp2_with fail
  go_ret
  exact ⟨rfl, HB2.out⟩
end Go.Proofs.Ytlioamjmkaaooaa
