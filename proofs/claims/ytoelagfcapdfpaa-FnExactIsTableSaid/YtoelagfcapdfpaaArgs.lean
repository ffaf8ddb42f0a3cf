/-
  Arguments that are memories and windows, opened.
-/
import Derived.Test.YtoelagfcapdfpaaMemo
import Derived.Deep.Matrix
import Derived.Lib.SmallJoins
import Derived.ChangeSame
import Derived.ChangeOld
import Derived.ProofKit
import Derived.OpenShut
namespace Go.Proofs.Ytoelagfcapdfpaa
open Go.RowKit Go.ChangeShapes Go.WideShapes Go.Joins Go.Deep

/-- What a memory that came in is good for. -/
def MArg (w : World) (A : Option Addr) (len cap : Nat) (m : List (List Int)) : Prop :=
  m.length = len ∧ len ≤ cap ∧ cap ≤ maxLen ∧ Rd2 w w.heap.size A m ∧ ∀ r ∈ m, ∀ z ∈ r, (Lit.int .u8 z).wf = true
/-- What a window that came in is good for. -/
def WArg (x : Win) : Prop := (Lit.int .i64 x.arr).wf = true ∧ (Lit.int .i64 x.start).wf = true ∧ (Lit.int .i64 x.len).wf = true ∧ (Lit.int .i64 x.cap).wf = true
theorem size_one {cs : Array Value} (h : cs.size = 1) : ∃ c, cs = #[c] := by
  obtain ⟨l⟩ := cs
  match l, h with
  | [c], _ => exact ⟨c, rfl⟩
section
variable {H : Type} {enc : TypeId × Value → H} {W : World} {b0 : Nat} {v : Value} {d : DataW H} {p : List MemPlace} {t : TypeId} {r : Reach}
theorem cells_u8s : Try.prog.cellsOf 64 = 1 := by kernel_rfl
theorem cells_u8 : Try.prog.cellsOf 5 = 1 := by kernel_rfl
set_option maxRecDepth 100000 in
/-- A memory that came in. -/
theorem open_mem {f0 : Field} (hs : Try.prog.underlying t = some (.struct #[f0])) (hone : oneCellFields Try.prog #[f0] = true) (hC : Try.prog.cellsOf t = 1) (hft : f0.type = 22)
    (hv : Value.okWide Try.prog W r b0 t v) (h : DataW.Trod enc Try.prog W 0 (fun _ => true) true t v d p) : ∃ A len cap m, v = .agg #[.slice A len cap] ∧ MArg W A len cap m := by
  obtain ⟨cs, rfl, hsz⟩ := okWide_struct hs hv
  obtain ⟨c0, rfl⟩ := size_one (hsz.trans hC)
  obtain ⟨fuel, hf⟩ := h
  obtain ⟨y0, n, hx, _, h0⟩ := trod_struct1 hs hf
  obtain ⟨o0, k0⟩ := hone_of hone 0 f0 rfl
  have h1 : DataW.trod enc Try.prog W 0 (fun _ => true) true n 22 [c0] = some y0 := by rw [← hft]; simpa [Value.cells, o0, k0] using h0
  rcases open_int_rows Try.underlying22 Try.underlying64 Try.underlying5 cells_u8s cells_u8 h1 with ⟨hcs, _⟩ | ⟨a, len, cap, A, L, C, Z, hcs, _, hl, hm, _, hr⟩
  · obtain rfl : c0 = .slice none 0 0 := by simpa using hcs
    exact ⟨none, 0, 0, [], rfl, rfl, Nat.le_refl _, Nat.zero_le _, ⟨[], rfl, Rd.empty, fun i hi => by simp at hi⟩, fun q hq => by cases hq⟩
  · obtain rfl : c0 = .slice (some a) len cap := by simpa using hcs
    have hrow : ∀ i, i < len → IntArg .u8 W (A i) (L i) (C i) ((Z i).take (L i)) := fun i hi => by
      obtain ⟨_, h2, h3, h4, h5, h6, h7⟩ := hr i (by omega)
      rcases hA : A i with _ | a'
      · have hc := h6 hA
        have hl0 : L i = 0 := by omega
        rw [hl0, hc, List.take_zero]
        exact intArg_none _ _
      · exact intArg_some h2 h3 (by omega) (fun c hc => (h7 a' hA).2 c (by omega)) h5
    refine ⟨some a, len, cap, (List.range len).map fun i => (Z i).take (L i), rfl, by simp, hl, hm, ⟨(List.range len).map fun i => .slice (A i) (L i) (C i), by simp, ?_, fun i hi => ?_⟩, fun q hq z hz => ?_⟩
    · rcases Nat.eq_zero_or_pos len with rfl | hpos
      · exact .inl (by simp)
      · obtain ⟨b, off, spot⟩ := a
        have hc := (hr 0 (by omega)).1
        have hspot : spot = none := by simpa [Addr.add] using World.cell?_spot hc
        subst hspot
        have hb : b < W.heap.size := by simpa [Addr.add] using cell_lt hc
        refine .inr ⟨b, off, rfl, hb, fun i u hu => ?_⟩
        have hi : i < len := by
          have := (List.getElem?_eq_some_iff.1 hu).1
          simpa using this
        rw [List.getElem?_map, List.getElem?_range hi] at hu
        injection hu with hu
        rw [← hu, ← (hr i (by omega)).1]
        simp [Addr.add]
        by_cases h0 : i = 0 <;> simp [h0]
    · have hi' : i < len := by simpa using hi
      have hw := hrow i hi'
      have e : ((List.range len).map fun i => (Z i).take (L i))[i] = (Z i).take (L i) := by simp
      rw [e]
      refine ⟨A i, C i, ?_, by rw [hw.1]; exact hw.2.1, hw.2.2.1, hw.2.2.2.1⟩
      rw [List.getElem?_map, List.getElem?_range hi', hw.1]
      rfl
    · obtain ⟨i, hi, rfl⟩ := List.mem_map.1 hq
      exact (hrow i (List.mem_range.1 hi)).2.2.2.2 z hz
set_option maxRecDepth 100000 in
/-- A window that came in. -/
theorem open_win {f0 f1 f2 f3 : Field} (hs : Try.prog.underlying t = some (.struct #[f0, f1, f2, f3])) (hone : oneCellFields Try.prog #[f0, f1, f2, f3] = true) (hC : Try.prog.cellsOf t = 4)
    (h0 : f0.type = 3) (h1 : f1.type = 3) (h2 : f2.type = 3) (h3 : f3.type = 3)
    (hv : Value.okWide Try.prog W r b0 t v) (h : DataW.Trod enc Try.prog W 0 (fun _ => true) true t v d p) : ∃ x : Win, v = x.val ∧ WArg x := by
  obtain ⟨v0, v1, v2, v3, y0, y1, y2, y3, n, rfl, _, _, g0, g1, g2, g3⟩ := open_agg4 hs hone hC hv h
  rw [h0] at g0; rw [h1] at g1; rw [h2] at g2; rw [h3] at g3
  obtain ⟨z0, e0, _, w0⟩ := DataW.trod_int Try.underlying3 g0
  obtain ⟨z1, e1, _, w1⟩ := DataW.trod_int Try.underlying3 g1
  obtain ⟨z2, e2, _, w2⟩ := DataW.trod_int Try.underlying3 g2
  obtain ⟨z3, e3, _, w3⟩ := DataW.trod_int Try.underlying3 g3
  obtain rfl : v0 = .int .i64 z0 := by simpa using e0
  obtain rfl : v1 = .int .i64 z1 := by simpa using e1
  obtain rfl : v2 = .int .i64 z2 := by simpa using e2
  obtain rfl : v3 = .int .i64 z3 := by simpa using e3
  exact ⟨⟨z0, z1, z2, z3⟩, rfl, w0, w1, w2, w3⟩
end
end Go.Proofs.Ytoelagfcapdfpaa
