/-
  Arenas as the law has them: an arena that comes in, its cells, boxes that hold one.
-/
import Derived.Test.YtadmllfcnjekcaaArM
import Derived.Test.YtadmllfcnjekcaaBox2
import Derived.Test.YtadmllfcnjekcaaIntS
namespace Go.Proofs.Ytadmllfcnjekcaa
open Go.RowKit Go.ChangeShapes Go.WideShapes Go.Joins Go.Deep

section
variable {w wx : World} {q j : Nat} {u0 u1 u2 u3 u4 u5 u6 v0 v1 v2 v3 v4 v5 v6 : Value} {t : TypeId}
theorem ar_cells (h : w.heap[q]? = some (.cells #[u0, u1, u2, u3, u4, u5, u6] t)) :
    w.cell? ⟨q, 0, none⟩ = some u0 ∧ w.cell? ⟨q, 1, none⟩ = some u1 ∧ w.cell? ⟨q, 2, none⟩ = some u2 ∧ w.cell? ⟨q, 3, none⟩ = some u3 ∧ w.cell? ⟨q, 4, none⟩ = some u4 ∧ w.cell? ⟨q, 5, none⟩ = some u5 ∧ w.cell? ⟨q, 6, none⟩ = some u6 := by simp [World.cell?, h]
theorem ar_frozen (h : w.heap[q]? = some (.cells #[u0, u1, u2, u3, u4, u5, u6] t)) :
    w.frozen? ⟨q, 0, none⟩ = false ∧ w.frozen? ⟨q, 1, none⟩ = false ∧ w.frozen? ⟨q, 2, none⟩ = false ∧ w.frozen? ⟨q, 3, none⟩ = false ∧ w.frozen? ⟨q, 4, none⟩ = false ∧ w.frozen? ⟨q, 5, none⟩ = false ∧ w.frozen? ⟨q, 6, none⟩ = false := by simp [World.frozen?, h]
theorem ar_put {i : Nat} {cs : Array Value} {v : Value} (h : wx.heap[q]? = some (.cells cs t)) : (wx.setCell ⟨q, i, none⟩ v).heap[q]? = some (.cells (cs.setIfInBounds i v) t) := heap_setCell_same wx q i cs t v h
theorem ar_set (h : wx.heap[q]? = some (.cells #[u0, u1, u2, u3, u4, u5, u6] t)) :
    (((((((wx.setCell ⟨q, 0, none⟩ v0).setCell ⟨q, 1, none⟩ v1).setCell ⟨q, 2, none⟩ v2).setCell ⟨q, 3, none⟩ v3).setCell ⟨q, 4, none⟩ v4).setCell ⟨q, 5, none⟩ v5).setCell ⟨q, 6, none⟩ v6).heap[q]? = some (.cells #[v0, v1, v2, v3, v4, v5, v6] t) := by
  have h6 := ar_put (i := 6) (v := v6) (ar_put (i := 5) (v := v5) (ar_put (i := 4) (v := v4) (ar_put (i := 3) (v := v3) (ar_put (i := 2) (v := v2) (ar_put (i := 1) (v := v1) (ar_put (i := 0) (v := v0) h))))))
  simpa using h6
theorem ar_other (hj : j ≠ q) : (((((((wx.setCell ⟨q, 0, none⟩ v0).setCell ⟨q, 1, none⟩ v1).setCell ⟨q, 2, none⟩ v2).setCell ⟨q, 3, none⟩ v3).setCell ⟨q, 4, none⟩ v4).setCell ⟨q, 5, none⟩ v5).setCell ⟨q, 6, none⟩ v6).heap[j]? = wx.heap[j]? := by
  rw [Below.heap_setCell _ _ _ _ hj, Below.heap_setCell _ _ _ _ hj, Below.heap_setCell _ _ _ _ hj, Below.heap_setCell _ _ _ _ hj, Below.heap_setCell _ _ _ _ hj, Below.heap_setCell _ _ _ _ hj, Below.heap_setCell _ _ _ _ hj]
theorem ar_keep {o : Obj} (h : wx.heap[j]? = some o) (hj : j ≠ q) : (((((((wx.setCell ⟨q, 0, none⟩ v0).setCell ⟨q, 1, none⟩ v1).setCell ⟨q, 2, none⟩ v2).setCell ⟨q, 3, none⟩ v3).setCell ⟨q, 4, none⟩ v4).setCell ⟨q, 5, none⟩ v5).setCell ⟨q, 6, none⟩ v6).heap[j]? = some o := by rw [ar_other hj]; exact h
theorem size_seven {g : Nat} : (((((((w.setCell ⟨g, 0, none⟩ v0).setCell ⟨g, 1, none⟩ v1).setCell ⟨g, 2, none⟩ v2).setCell ⟨g, 3, none⟩ v3).setCell ⟨g, 4, none⟩ v4).setCell ⟨g, 5, none⟩ v5).setCell ⟨g, 6, none⟩ v6).heap.size = w.heap.size := by simp only [World.size_setCell]
/-- A block's cells are changed, no others. -/
theorem span_set {lo hi i : Nat} {v : Value} (h : Span lo hi w wx) (h1 : lo ≤ q) (h2 : q < hi) : Span lo hi w (wx.setCell ⟨q, i, none⟩ v) :=
  h.trans ⟨rfl, rfl, rfl, by simp [World.setCell], fun k _ ho => Below.heap_setCell _ _ _ _ (show k ≠ q by omega)⟩
theorem span_seven : Span q (q + 1) w (((((((w.setCell ⟨q, 0, none⟩ v0).setCell ⟨q, 1, none⟩ v1).setCell ⟨q, 2, none⟩ v2).setCell ⟨q, 3, none⟩ v3).setCell ⟨q, 4, none⟩ v4).setCell ⟨q, 5, none⟩ v5).setCell ⟨q, 6, none⟩ v6) :=
  span_set (span_set (span_set (span_set (span_set (span_set (span_set (Span.refl _ _ _) (Nat.le_refl _) (by omega)) (Nat.le_refl _) (by omega)) (Nat.le_refl _) (by omega)) (Nat.le_refl _) (by omega)) (Nat.le_refl _) (by omega)) (Nat.le_refl _) (by omega)) (Nat.le_refl _) (by omega)
end

/-- An arena that reads as m and a. -/
def RdA (w : World) (B0 : Nat) (A B : Option Addr) (m : List (List Int)) (mk : List Int) : Prop := Rd2 w B0 A m ∧ Rd w B0 B (intV .i64 mk)
section
variable {w w' : World} {B0 lo hi : Nat} {A B : Option Addr} {m : List (List Int)} {mk : List Int} {v u : Value}
theorem RdA.below (h : RdA w B0 A B m mk) (hb : Below B0 w w') : RdA w' B0 A B m mk := ⟨h.1.below hb, h.2.below hb⟩
theorem RdA.more {B1 : Nat} (h : RdA w B0 A B m mk) (hb : B0 ≤ B1) : RdA w B1 A B m mk := ⟨h.1.more hb, h.2.more hb⟩
theorem RdA.on (h : RdA w w.heap.size A B m mk) (hb : Below w.heap.size w w') : RdA w' w'.heap.size A B m mk := (h.below hb).more hb.size
theorem RdA.nil : RdA w B0 none none [] [] := ⟨⟨[], rfl, Rd.empty, fun i hi => by simp at hi⟩, Rd.empty⟩
/-- An arena's memory v and marks u are the call's own: the memory lies ahead of the marks. -/
def OwnA (w : World) (lo hi : Nat) (v u : Value) (m : List (List Int)) (mk : List Int) : Prop :=
  ∃ mid, lo ≤ mid ∧ mid ≤ hi ∧ OwnM w lo mid v m ∧ OwnR w mid hi 3 u (intV .i64 mk)
theorem OwnA.span (h : OwnA w lo hi v u m mk) {l2 h2 : Nat} (hs : Span l2 h2 w w') (ho : hi ≤ l2 ∨ h2 ≤ lo) : OwnA w' lo hi v u m mk := by
  obtain ⟨mid, h3, h4, h5, h6⟩ := h
  exact ⟨mid, h3, h4, h5.span hs (by omega), h6.span hs (by omega)⟩
theorem OwnA.below (h : OwnA w lo hi v u m mk) (hb : Below w.heap.size w w') : OwnA w' lo hi v u m mk := by
  obtain ⟨mid, h3, h4, h5, h6⟩ := h
  exact ⟨mid, h3, h4, h5.below hb, h6.below hb⟩
theorem OwnA.mono {lo' hi' : Nat} (h : OwnA w lo hi v u m mk) (h1 : lo' ≤ lo) (h2 : hi ≤ hi') : OwnA w lo' hi' v u m mk := by
  obtain ⟨mid, h3, h4, h5, h6⟩ := h
  exact ⟨mid, by omega, by omega, h5.mono h1 (Nat.le_refl _), h6.mono (Nat.le_refl _) h2⟩
theorem OwnA.form (h : OwnA w lo hi v u m mk) : ∃ A c B d, v = .slice A m.length c ∧ u = .slice B mk.length d ∧ m.length ≤ c := by
  obtain ⟨mid, h3, h4, h5, h6⟩ := h
  obtain ⟨A, c, e1, h7⟩ := h5.form
  obtain ⟨B, d, e2⟩ := ownI_form h6
  exact ⟨A, c, B, d, e1, e2, h7⟩
theorem OwnA.reads {c d : Nat} (h : OwnA w lo hi (.slice A m.length c) (.slice B mk.length d) m mk) : RdA w w.heap.size A B m mk := by
  obtain ⟨mid, h3, h4, h5, h6⟩ := h
  exact ⟨h5.reads, ownI_rd h6⟩
theorem OwnA.none_ (w : World) {lo hi : Nat} (h : lo ≤ hi) : OwnA w lo hi (.slice none 0 0) (.slice none 0 0) [] [] :=
  ⟨lo, Nat.le_refl _, h, own_none _ _ _, World.ownsRow_nil _ _ _ _, fun g hg => by simp [Value.ownBlock] at hg⟩
theorem OwnA.setC {g i : Nat} {x : Value} (h : OwnA w lo hi v u m mk) (ho : g < lo ∨ hi ≤ g) : OwnA (w.setCell ⟨g, i, none⟩ x) lo hi v u m mk :=
  h.span (l2 := g) (h2 := g + 1) (span_set (Span.refl _ _ _) (Nat.le_refl _) (by omega)) (by omega)
theorem OwnA.seven {g : Nat} {v0 v1 v2 v3 v4 v5 v6 : Value} (h : OwnA w lo hi v u m mk) (ho : g < lo ∨ hi ≤ g) :
    OwnA (((((((w.setCell ⟨g, 0, none⟩ v0).setCell ⟨g, 1, none⟩ v1).setCell ⟨g, 2, none⟩ v2).setCell ⟨g, 3, none⟩ v3).setCell ⟨g, 4, none⟩ v4).setCell ⟨g, 5, none⟩ v5).setCell ⟨g, 6, none⟩ v6) lo hi v u m mk :=
  h.span span_seven (by omega)
end

/-- Block g is a variable that holds an arena, whose memory R and marks lie from lo to hi; all of it behind b. -/
structure ABox (W : World) (b g lo hi : Nat) (v u : Value) (R : List (List Int)) (q : An) (mk : List Int) : Prop where
  box : W.heap[g]? = some (.cells #[v, .int .i64 q.w.arr, .int .i64 q.w.start, .int .i64 q.w.len, .int .i64 q.w.cap, .int .i64 q.us, u] 35)
  own : OwnA W lo hi v u R mk
  bg : b ≤ g
  blo : b ≤ lo
  gW : g < W.heap.size
  hiW : hi ≤ W.heap.size
  loW : lo ≤ W.heap.size
  out : g < lo ∨ hi ≤ g
section
variable {W W' : World} {b g lo hi : Nat} {v u : Value} {R : List (List Int)} {q : An} {mk : List Int}
theorem ABox.below (h : ABox W b g lo hi v u R q mk) (k : Below W.heap.size W W') : ABox W' b g lo hi v u R q mk :=
  ⟨(k.block _ h.gW).trans h.box, h.own.below k, h.bg, h.blo, Nat.lt_of_lt_of_le h.gW k.size, Nat.le_trans h.hiW k.size, Nat.le_trans h.loW k.size, h.out⟩
theorem ABox.span (h : ABox W b g lo hi v u R q mk) {l2 h2 : Nat} (k : Span l2 h2 W W') (h1 : hi ≤ l2 ∨ h2 ≤ lo) (h3 : g < l2 ∨ h2 ≤ g) : ABox W' b g lo hi v u R q mk :=
  ⟨(k.block _ h.gW h3).trans h.box, h.own.span k h1, h.bg, h.blo, Nat.lt_of_lt_of_le h.gW k.size, Nat.le_trans h.hiW k.size, Nat.le_trans h.loW k.size, h.out⟩
theorem ABox.cells (h : ABox W b g lo hi v u R q mk) : W.cell? ⟨g, 0, none⟩ = some v ∧ W.cell? ⟨g, 1, none⟩ = some (.int .i64 q.w.arr) ∧ W.cell? ⟨g, 2, none⟩ = some (.int .i64 q.w.start) ∧ W.cell? ⟨g, 3, none⟩ = some (.int .i64 q.w.len) ∧ W.cell? ⟨g, 4, none⟩ = some (.int .i64 q.w.cap) ∧ W.cell? ⟨g, 5, none⟩ = some (.int .i64 q.us) ∧ W.cell? ⟨g, 6, none⟩ = some u := ar_cells h.box
theorem ABox.marked {R' : List (List Int)} {mk' : List Int} (h : ABox W b g lo hi v u R q mk) (k : Span lo hi W W') (h1 : OwnA W' lo hi v u R' mk') : ABox W' b g lo hi v u R' q mk' :=
  ⟨(k.block _ h.gW h.out).trans h.box, h1, h.bg, h.blo, Nat.lt_of_lt_of_le h.gW k.size, Nat.le_trans h.hiW k.size, Nat.le_trans h.loW k.size, h.out⟩
theorem ABox.mk' (h : W.heap[g]? = some (.cells #[v, .int .i64 q.w.arr, .int .i64 q.w.start, .int .i64 q.w.len, .int .i64 q.w.cap, .int .i64 q.us, u] 35)) (ho : OwnA W lo hi v u R mk) (bg : b ≤ g) (blo : b ≤ lo) (hiW : hi ≤ W.heap.size) (loW : lo ≤ W.heap.size) (out : g < lo ∨ hi ≤ g) : ABox W b g lo hi v u R q mk :=
  ⟨h, ho, bg, blo, (Array.getElem?_eq_some_iff.1 h).1, hiW, loW, out⟩
end

/-- What an arena's numbers that came in are good for. -/
def AArgW (a : An) : Prop := WArg a.w ∧ (Lit.int .i64 a.us).wf = true ∧ a.ms.length ≤ maxLen ∧ ∀ z ∈ a.ms, (Lit.int .i64 z).wf = true
/-- An arena that came in. -/
def AArg (w : World) (A : Option Addr) (len cap : Nat) (m : List (List Int)) (B : Option Addr) (kl kc : Nat) (a : An) : Prop :=
  MArg w A len cap m ∧ IntArg .i64 w B kl kc a.ms ∧ WArg a.w ∧ (Lit.int .i64 a.us).wf = true
section
variable {H : Type} {enc : TypeId × Value → H} {W : World} {b0 : Nat} {v : Value} {d : DataW H} {p : List MemPlace} {t : TypeId} {r : Reach}
set_option maxRecDepth 100000 in
/-- A memory that lies in a field. -/
theorem mem_of_trod {f0 : Field} {fuel : Nat} {c0 : Value} {y : DataW H × List MemPlace} (hs : Try.prog.underlying t = some (.struct #[f0])) (hone : oneCellFields Try.prog #[f0] = true) (hft : f0.type = 22)
    (hf : DataW.trod enc Try.prog W 0 (fun _ => true) true fuel t [c0] = some y) : ∃ A len cap m, c0 = .slice A len cap ∧ MArg W A len cap m := by
  obtain ⟨y0, n, hx, _, h0⟩ := trod_struct1 hs hf
  obtain ⟨o0, k0⟩ := hone_of hone 0 f0 rfl
  have h1 : DataW.trod enc Try.prog W 0 (fun _ => true) true n 22 [c0] = some y0 := by rw [← hft]; simpa [Value.cells, o0, k0] using h0
  rcases open_int_rows Try.underlying22 Try.underlying87 Try.underlying5 cells_u8s cells_u8 h1 with ⟨hcs, _⟩ | ⟨a, len, cap, A, L, C, Z, hcs, _, hl, hm, _, hr⟩
  · obtain rfl : c0 = .slice none 0 0 := by simpa using hcs
    exact ⟨none, 0, 0, [], rfl, rfl, Nat.le_refl _, Nat.zero_le _, ⟨[], rfl, Rd.empty, fun i hi => by simp at hi⟩, fun q hq => by cases hq⟩
  · obtain rfl : c0 = .slice (some a) len cap := by simpa using hcs
    have hrow : ∀ i, i < len → IntArg .u8 W (A i) (L i) (C i) ((Z i).take (L i)) := fun i hi => by
      obtain ⟨_, h2, h3, h4, h5, h6, h7⟩ := hr i (by omega)
      rcases hA : A i with _ | a'
      · have hc := h6 hA
        have hl0 : L i = 0 := by omega
        rw [hl0, hc, List.take_zero]
        exact intArg_none _ _
      · exact intArg_some h2 h3 (by omega) (fun c hc => (h7 a' hA).2 c (by omega)) h5
    refine ⟨some a, len, cap, (List.range len).map fun i => (Z i).take (L i), rfl, by simp, hl, hm, ⟨(List.range len).map fun i => .slice (A i) (L i) (C i), by simp, ?_, fun i hi => ?_⟩, fun q hq z hz => ?_⟩
    · rcases Nat.eq_zero_or_pos len with rfl | hpos
      · exact .inl (by simp)
      · obtain ⟨b, off, spot⟩ := a
        have hc := (hr 0 (by omega)).1
        have hspot : spot = none := by simpa [Addr.add] using World.cell?_spot hc
        subst hspot
        have hb : b < W.heap.size := by simpa [Addr.add] using cell_lt hc
        refine .inr ⟨b, off, rfl, hb, fun i u hu => ?_⟩
        have hi : i < len := by
          have := (List.getElem?_eq_some_iff.1 hu).1
          simpa using this
        rw [List.getElem?_map, List.getElem?_range hi] at hu
        injection hu with hu
        rw [← hu, ← (hr i (by omega)).1]
        simp [Addr.add]
        by_cases h0 : i = 0 <;> simp [h0]
    · have hi' : i < len := by simpa using hi
      have hw := hrow i hi'
      have e : ((List.range len).map fun i => (Z i).take (L i))[i] = (Z i).take (L i) := by simp
      rw [e]
      refine ⟨A i, C i, ?_, by rw [hw.1]; exact hw.2.1, hw.2.2.1, hw.2.2.2.1⟩
      rw [List.getElem?_map, List.getElem?_range hi', hw.1]
      rfl
    · obtain ⟨i, hi, rfl⟩ := List.mem_map.1 hq
      exact (hrow i (List.mem_range.1 hi)).2.2.2.2 z hz
/-- Ints that lie in a field. -/
theorem ints_of_trod {fuel : Nat} {c0 : Value} {t1 e : TypeId} {y : DataW H × List MemPlace} (ht : Try.prog.underlying t1 = some (.slice e)) (he : Try.prog.underlying e = some (.int .i64)) (hce : Try.prog.cellsOf e = 1)
    (hf : DataW.trod enc Try.prog W 0 (fun _ => true) true fuel t1 [c0] = some y) : ∃ A len cap zs, c0 = .slice A len cap ∧ IntArg .i64 W A len cap zs := by
  rcases open_ints ht he hce hf with ⟨hcs, _⟩ | ⟨x, l, c, zs, hcs, _, hl, hm, hz, hre, hcell, hwz⟩
  · obtain rfl : c0 = .slice none 0 0 := by simpa using hcs
    exact ⟨none, 0, 0, [], rfl, intArg_none _ W⟩
  · obtain rfl : c0 = .slice (some x) l c := by simpa using hcs
    exact ⟨some x, l, c, _, rfl, intArg_some hl hm (by rw [hz]; first | omega | (split <;> omega)) hcell hwz⟩
set_option maxRecDepth 100000 in
/-- An arena that came in. -/
theorem open_arena {fm fw f1 f2 h0 g0 g1 g2 g3 : Field} (hs : Try.prog.underlying t = some (.struct #[fm, fw, f1, f2])) (hC : Try.prog.cellsOf t = 7)
    (hm : fm.offset = 0 ∧ Try.prog.cellsOf fm.type = 1) (hw : fw.offset = 1 ∧ Try.prog.cellsOf fw.type = 4) (h1 : f1.offset = 5 ∧ f1.type = 3) (h2 : f2.offset = 6 ∧ f2.type = 27) (hc : Try.prog.cellsOf 3 = 1) (hc2 : Try.prog.cellsOf 27 = 1)
    (hsm : Try.prog.underlying fm.type = some (.struct #[h0])) (hone : oneCellFields Try.prog #[h0] = true) (hft : h0.type = 22)
    (hsw : Try.prog.underlying fw.type = some (.struct #[g0, g1, g2, g3])) (k0 : g0.offset = 0 ∧ g0.type = 3) (k1 : g1.offset = 1 ∧ g1.type = 3) (k2 : g2.offset = 2 ∧ g2.type = 3) (k3 : g3.offset = 3 ∧ g3.type = 3)
    (hv : Value.okWide Try.prog W r b0 t v) (h : DataW.Trod enc Try.prog W 0 (fun _ => true) true t v d p) : ∃ A len cap m B kl kc, ∃ x : An, v = .agg #[.slice A len cap, .int .i64 x.w.arr, .int .i64 x.w.start, .int .i64 x.w.len, .int .i64 x.w.cap, .int .i64 x.us, .slice B kl kc] ∧ AArg W A len cap m B kl kc x := by
  obtain ⟨cs, rfl, hsz⟩ := okWide_struct hs hv
  rw [hC] at hsz
  obtain ⟨c, c0, c1, c2, c3, c4, c5, rfl⟩ : ∃ c c0 c1 c2 c3 c4 c5, cs = #[c, c0, c1, c2, c3, c4, c5] := by
    obtain ⟨l⟩ := cs
    match l, hsz with
    | [c, c0, c1, c2, c3, c4, c5], _ => exact ⟨c, c0, c1, c2, c3, c4, c5, rfl⟩
  obtain ⟨fuel, hf⟩ := h
  obtain ⟨y0, y1, y2, y3, n, _, _, e, e0, e1, e2⟩ := trod_struct4 hs hf
  rw [hm.1, hm.2] at e
  rw [hw.1, hw.2] at e0
  rw [h1.1, h1.2, hc] at e1
  rw [h2.1, h2.2, hc2] at e2
  simp only [Value.cells, List.drop_zero, List.drop_succ_cons, List.take_succ_cons, List.take_zero] at e e0 e1 e2
  obtain ⟨A, len, cap, m, rfl, hM⟩ := mem_of_trod hsm hone hft e
  obtain ⟨z0, z1, z2, z3, n2, _, _, j0, j1, j2, j3⟩ := trod_struct4 hsw e0
  rw [k0.1, k0.2, hc] at j0
  rw [k1.1, k1.2, hc] at j1
  rw [k2.1, k2.2, hc] at j2
  rw [k3.1, k3.2, hc] at j3
  simp only [List.drop_zero, List.drop_succ_cons, List.take_succ_cons, List.take_zero] at j0 j1 j2 j3
  obtain ⟨i0, a0, _, w0⟩ := DataW.trod_int Try.underlying3 j0
  obtain ⟨i1, a1, _, w1⟩ := DataW.trod_int Try.underlying3 j1
  obtain ⟨i2, a2, _, w2⟩ := DataW.trod_int Try.underlying3 j2
  obtain ⟨i3, a3, _, w3⟩ := DataW.trod_int Try.underlying3 j3
  obtain ⟨i4, a4, _, w4⟩ := DataW.trod_int Try.underlying3 e1
  obtain ⟨B, kl, kc, zs, rfl, hK⟩ := ints_of_trod Try.underlying27 Try.underlying3 hc e2
  obtain rfl : c0 = .int .i64 i0 := by simpa using a0
  obtain rfl : c1 = .int .i64 i1 := by simpa using a1
  obtain rfl : c2 = .int .i64 i2 := by simpa using a2
  obtain rfl : c3 = .int .i64 i3 := by simpa using a3
  obtain rfl : c4 = .int .i64 i4 := by simpa using a4
  exact ⟨A, len, cap, m, B, kl, kc, ⟨⟨i0, i1, i2, i3⟩, i4, zs⟩, rfl, hM, hK, ⟨w0, w1, w2, w3⟩, w4⟩
end
end Go.Proofs.Ytadmllfcnjekcaa
