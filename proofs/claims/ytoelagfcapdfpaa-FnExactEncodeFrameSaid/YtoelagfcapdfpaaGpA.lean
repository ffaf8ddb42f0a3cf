/-
  Gaps as the law has them: a gap that comes in, its cells, boxes that hold one; toGap, szGap, eqGap, markGap, heldGap of the law.
-/
import Derived.Test.YtoelagfcapdfpaaGpM
import Derived.Test.YtoelagfcapdfpaaBox2
namespace Go.Proofs.Ytoelagfcapdfpaa
open Go.RowKit Go.ChangeShapes Go.WideShapes Go.Joins Go.Deep

section
variable {w wx : World} {q j : Nat} {u0 u1 u2 u3 u4 u5 u6 v0 v1 v2 v3 v4 v5 v6 : Value} {t : TypeId}
theorem gap_cells (h : w.heap[q]? = some (.cells #[u0, u1, u2, u3, u4, u5, u6] t)) :
    w.cell? ⟨q, 0, none⟩ = some u0 ∧ w.cell? ⟨q, 1, none⟩ = some u1 ∧ w.cell? ⟨q, 2, none⟩ = some u2 ∧ w.cell? ⟨q, 3, none⟩ = some u3 ∧ w.cell? ⟨q, 4, none⟩ = some u4 ∧ w.cell? ⟨q, 5, none⟩ = some u5 ∧ w.cell? ⟨q, 6, none⟩ = some u6 := by simp [World.cell?, h]
theorem gap_frozen (h : w.heap[q]? = some (.cells #[u0, u1, u2, u3, u4, u5, u6] t)) :
    w.frozen? ⟨q, 0, none⟩ = false ∧ w.frozen? ⟨q, 1, none⟩ = false ∧ w.frozen? ⟨q, 2, none⟩ = false ∧ w.frozen? ⟨q, 3, none⟩ = false ∧ w.frozen? ⟨q, 4, none⟩ = false ∧ w.frozen? ⟨q, 5, none⟩ = false ∧ w.frozen? ⟨q, 6, none⟩ = false := by simp [World.frozen?, h]
theorem cells_put {i : Nat} {cs : Array Value} {v : Value} (h : wx.heap[q]? = some (.cells cs t)) : (wx.setCell ⟨q, i, none⟩ v).heap[q]? = some (.cells (cs.setIfInBounds i v) t) := heap_setCell_same wx q i cs t v h
theorem gap_set (h : wx.heap[q]? = some (.cells #[u0, u1, u2, u3, u4, u5, u6] t)) :
    (((((((wx.setCell ⟨q, 0, none⟩ v0).setCell ⟨q, 1, none⟩ v1).setCell ⟨q, 2, none⟩ v2).setCell ⟨q, 3, none⟩ v3).setCell ⟨q, 4, none⟩ v4).setCell ⟨q, 5, none⟩ v5).setCell ⟨q, 6, none⟩ v6).heap[q]? = some (.cells #[v0, v1, v2, v3, v4, v5, v6] t) := by
  have h6 := cells_put (i := 6) (v := v6) (cells_put (i := 5) (v := v5) (cells_put (i := 4) (v := v4) (cells_put (i := 3) (v := v3) (cells_put (i := 2) (v := v2) (cells_put (i := 1) (v := v1) (cells_put (i := 0) (v := v0) h))))))
  simpa using h6
theorem gap_other (hj : j ≠ q) : (((((((wx.setCell ⟨q, 0, none⟩ v0).setCell ⟨q, 1, none⟩ v1).setCell ⟨q, 2, none⟩ v2).setCell ⟨q, 3, none⟩ v3).setCell ⟨q, 4, none⟩ v4).setCell ⟨q, 5, none⟩ v5).setCell ⟨q, 6, none⟩ v6).heap[j]? = wx.heap[j]? := by
  rw [Below.heap_setCell _ _ _ _ hj, Below.heap_setCell _ _ _ _ hj, Below.heap_setCell _ _ _ _ hj, Below.heap_setCell _ _ _ _ hj, Below.heap_setCell _ _ _ _ hj, Below.heap_setCell _ _ _ _ hj, Below.heap_setCell _ _ _ _ hj]
theorem gap_keep {o : Obj} (h : wx.heap[j]? = some o) (hj : j ≠ q) : (((((((wx.setCell ⟨q, 0, none⟩ v0).setCell ⟨q, 1, none⟩ v1).setCell ⟨q, 2, none⟩ v2).setCell ⟨q, 3, none⟩ v3).setCell ⟨q, 4, none⟩ v4).setCell ⟨q, 5, none⟩ v5).setCell ⟨q, 6, none⟩ v6).heap[j]? = some o := by rw [gap_other hj]; exact h
end
theorem block_drew {w : World} {g : Nat} {o : Obj} (h : w.heap[g]? = some o) : w.drew.heap[g]? = some o := h
theorem own_seven {w : World} {lo hi g : Nat} {v v0 v1 v2 v3 v4 v5 v6 : Value} {m : List (List Int)} (h : OwnM w lo hi v m) (ho : g < lo ∨ hi ≤ g) :
    OwnM (((((((w.setCell ⟨g, 0, none⟩ v0).setCell ⟨g, 1, none⟩ v1).setCell ⟨g, 2, none⟩ v2).setCell ⟨g, 3, none⟩ v3).setCell ⟨g, 4, none⟩ v4).setCell ⟨g, 5, none⟩ v5).setCell ⟨g, 6, none⟩ v6) lo hi v m :=
  own_setC (own_setC (own_setC (own_setC (own_setC (own_setC (own_setC h ho) ho) ho) ho) ho) ho) ho
theorem size_seven {w : World} {g : Nat} {v0 v1 v2 v3 v4 v5 v6 : Value} :
    (((((((w.setCell ⟨g, 0, none⟩ v0).setCell ⟨g, 1, none⟩ v1).setCell ⟨g, 2, none⟩ v2).setCell ⟨g, 3, none⟩ v3).setCell ⟨g, 4, none⟩ v4).setCell ⟨g, 5, none⟩ v5).setCell ⟨g, 6, none⟩ v6).heap.size = w.heap.size := by simp only [World.size_setCell]

section
variable {W W' : World} {b g lo hi : Nat} {v : Value} {R : List (List Int)} {q : Gp}
end

/-- What a gap's numbers that came in are good for. -/
def GArgW (g : Gp) : Prop := WArg g.w ∧ (Lit.int .i64 g.fr).wf = true ∧ (Lit.int .i64 g.up).wf = true
section
variable {H : Type} {enc : TypeId × Value → H} {W : World} {b0 : Nat} {v : Value} {d : DataW H} {p : List MemPlace} {t : TypeId} {r : Reach}
set_option maxRecDepth 100000 in
/-- A memory that lies in a field. -/
theorem mem_of_trod {f0 : Field} {fuel : Nat} {c0 : Value} {y : DataW H × List MemPlace} (hs : Try.prog.underlying t = some (.struct #[f0])) (hone : oneCellFields Try.prog #[f0] = true) (hft : f0.type = 22)
    (hf : DataW.trod enc Try.prog W 0 (fun _ => true) true fuel t [c0] = some y) : ∃ A len cap m, c0 = .slice A len cap ∧ MArg W A len cap m := by
  obtain ⟨y0, n, hx, _, h0⟩ := trod_struct1 hs hf
  obtain ⟨o0, k0⟩ := hone_of hone 0 f0 rfl
  have h1 : DataW.trod enc Try.prog W 0 (fun _ => true) true n 22 [c0] = some y0 := by rw [← hft]; simpa [Value.cells, o0, k0] using h0
  rcases open_int_rows Try.underlying22 Try.underlying64 Try.underlying5 cells_u8s cells_u8 h1 with ⟨hcs, _⟩ | ⟨a, len, cap, A, L, C, Z, hcs, _, hl, hm, _, hr⟩
  · obtain rfl : c0 = .slice none 0 0 := by simpa using hcs
    exact ⟨none, 0, 0, [], rfl, rfl, Nat.le_refl _, Nat.zero_le _, ⟨[], rfl, Rd.empty, fun i hi => by simp at hi⟩, fun q hq => by cases hq⟩
  · obtain rfl : c0 = .slice (some a) len cap := by simpa using hcs
    have hrow : ∀ i, i < len → IntArg .u8 W (A i) (L i) (C i) ((Z i).take (L i)) := fun i hi => by
      obtain ⟨_, h2, h3, h4, h5, h6, h7⟩ := hr i (by omega)
      rcases hA : A i with _ | a'
      · have hc := h6 hA
        have hl0 : L i = 0 := by omega
        rw [hl0, hc, List.take_zero]
        exact intArg_none _ _
      · exact intArg_some h2 h3 (by omega) (fun c hc => (h7 a' hA).2 c (by omega)) h5
    refine ⟨some a, len, cap, (List.range len).map fun i => (Z i).take (L i), rfl, by simp, hl, hm, ⟨(List.range len).map fun i => .slice (A i) (L i) (C i), by simp, ?_, fun i hi => ?_⟩, fun q hq z hz => ?_⟩
    · rcases Nat.eq_zero_or_pos len with rfl | hpos
      · exact .inl (by simp)
      · obtain ⟨b, off, spot⟩ := a
        have hc := (hr 0 (by omega)).1
        have hspot : spot = none := by simpa [Addr.add] using World.cell?_spot hc
        subst hspot
        have hb : b < W.heap.size := by simpa [Addr.add] using cell_lt hc
        refine .inr ⟨b, off, rfl, hb, fun i u hu => ?_⟩
        have hi : i < len := by
          have := (List.getElem?_eq_some_iff.1 hu).1
          simpa using this
        rw [List.getElem?_map, List.getElem?_range hi] at hu
        injection hu with hu
        rw [← hu, ← (hr i (by omega)).1]
        simp [Addr.add]
        by_cases h0 : i = 0 <;> simp [h0]
    · have hi' : i < len := by simpa using hi
      have hw := hrow i hi'
      have e : ((List.range len).map fun i => (Z i).take (L i))[i] = (Z i).take (L i) := by simp
      rw [e]
      refine ⟨A i, C i, ?_, by rw [hw.1]; exact hw.2.1, hw.2.2.1, hw.2.2.2.1⟩
      rw [List.getElem?_map, List.getElem?_range hi', hw.1]
      rfl
    · obtain ⟨i, hi, rfl⟩ := List.mem_map.1 hq
      exact (hrow i (List.mem_range.1 hi)).2.2.2.2 z hz
set_option maxRecDepth 100000 in
/-- A gap that came in. -/
theorem open_gap {fm fw f1 f2 h0 g0 g1 g2 g3 : Field} (hs : Try.prog.underlying t = some (.struct #[fm, fw, f1, f2])) (hC : Try.prog.cellsOf t = 7)
    (hm : fm.offset = 0 ∧ Try.prog.cellsOf fm.type = 1) (hw : fw.offset = 1 ∧ Try.prog.cellsOf fw.type = 4) (h1 : f1.offset = 5 ∧ f1.type = 3) (h2 : f2.offset = 6 ∧ f2.type = 3) (hc : Try.prog.cellsOf 3 = 1)
    (hsm : Try.prog.underlying fm.type = some (.struct #[h0])) (hone : oneCellFields Try.prog #[h0] = true) (hft : h0.type = 22)
    (hsw : Try.prog.underlying fw.type = some (.struct #[g0, g1, g2, g3])) (k0 : g0.offset = 0 ∧ g0.type = 3) (k1 : g1.offset = 1 ∧ g1.type = 3) (k2 : g2.offset = 2 ∧ g2.type = 3) (k3 : g3.offset = 3 ∧ g3.type = 3)
    (hv : Value.okWide Try.prog W r b0 t v) (h : DataW.Trod enc Try.prog W 0 (fun _ => true) true t v d p) : ∃ A len cap m, ∃ x : Gp, v = .agg #[.slice A len cap, .int .i64 x.w.arr, .int .i64 x.w.start, .int .i64 x.w.len, .int .i64 x.w.cap, .int .i64 x.fr, .int .i64 x.up] ∧ MArg W A len cap m ∧ GArgW x := by
  obtain ⟨cs, rfl, hsz⟩ := okWide_struct hs hv
  rw [hC] at hsz
  obtain ⟨c, c0, c1, c2, c3, c4, c5, rfl⟩ : ∃ c c0 c1 c2 c3 c4 c5, cs = #[c, c0, c1, c2, c3, c4, c5] := by
    obtain ⟨l⟩ := cs
    match l, hsz with
    | [c, c0, c1, c2, c3, c4, c5], _ => exact ⟨c, c0, c1, c2, c3, c4, c5, rfl⟩
  obtain ⟨fuel, hf⟩ := h
  obtain ⟨y0, y1, y2, y3, n, _, _, e, e0, e1, e2⟩ := trod_struct4 hs hf
  rw [hm.1, hm.2] at e
  rw [hw.1, hw.2] at e0
  rw [h1.1, h1.2, hc] at e1
  rw [h2.1, h2.2, hc] at e2
  simp only [Value.cells, List.drop_zero, List.drop_succ_cons, List.take_succ_cons, List.take_zero] at e e0 e1 e2
  obtain ⟨A, len, cap, m, rfl, hM⟩ := mem_of_trod hsm hone hft e
  obtain ⟨z0, z1, z2, z3, n2, _, _, j0, j1, j2, j3⟩ := trod_struct4 hsw e0
  rw [k0.1, k0.2, hc] at j0
  rw [k1.1, k1.2, hc] at j1
  rw [k2.1, k2.2, hc] at j2
  rw [k3.1, k3.2, hc] at j3
  simp only [List.drop_zero, List.drop_succ_cons, List.take_succ_cons, List.take_zero] at j0 j1 j2 j3
  obtain ⟨i0, a0, _, w0⟩ := DataW.trod_int Try.underlying3 j0
  obtain ⟨i1, a1, _, w1⟩ := DataW.trod_int Try.underlying3 j1
  obtain ⟨i2, a2, _, w2⟩ := DataW.trod_int Try.underlying3 j2
  obtain ⟨i3, a3, _, w3⟩ := DataW.trod_int Try.underlying3 j3
  obtain ⟨i4, a4, _, w4⟩ := DataW.trod_int Try.underlying3 e1
  obtain ⟨i5, a5, _, w5⟩ := DataW.trod_int Try.underlying3 e2
  obtain rfl : c0 = .int .i64 i0 := by simpa using a0
  obtain rfl : c1 = .int .i64 i1 := by simpa using a1
  obtain rfl : c2 = .int .i64 i2 := by simpa using a2
  obtain rfl : c3 = .int .i64 i3 := by simpa using a3
  obtain rfl : c4 = .int .i64 i4 := by simpa using a4
  obtain rfl : c5 = .int .i64 i5 := by simpa using a5
  exact ⟨A, len, cap, m, ⟨⟨i0, i1, i2, i3⟩, i4, i5⟩, rfl, hM, ⟨w0, w1, w2, w3⟩, w4, w5⟩
end
end Go.Proofs.Ytoelagfcapdfpaa
