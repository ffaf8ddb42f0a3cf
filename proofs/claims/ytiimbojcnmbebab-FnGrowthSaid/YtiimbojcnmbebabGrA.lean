/-
  A rule that comes in, and its copy.
-/
import Derived.Test.YtiimbojcnmbebabGrS
import Derived.Test.YtiimbojcnmbebabArgs
namespace Go.Proofs.Ytiimbojcnmbebab
open Go.RowKit Go.ChangeShapes Go.WideShapes Go.Joins Go.Deep

def GArg (g : GR) : Prop := (Lit.int .i64 g.num).wf = true ∧ (Lit.int .i64 g.den).wf = true ∧ (Lit.int .i64 g.add).wf = true
section
variable {H : Type} {enc : TypeId × Value → H} {W : World} {b0 : Nat} {v : Value} {d : DataW H} {p : List MemPlace} {t : TypeId} {r : Reach}
set_option maxRecDepth 100000 in
theorem open_rule {f0 f1 f2 : Field} (hs : Try.prog.underlying t = some (.struct #[f0, f1, f2])) (hone : oneCellFields Try.prog #[f0, f1, f2] = true) (hC : Try.prog.cellsOf t = 3)
    (h0 : f0.type = 3) (h1 : f1.type = 3) (h2 : f2.type = 3)
    (hv : Value.okWide Try.prog W r b0 t v) (h : DataW.Trod enc Try.prog W 0 (fun _ => true) true t v d p) : ∃ g : GR, v = .agg #[.int .i64 g.num, .int .i64 g.den, .int .i64 g.add] ∧ GArg g := by
  obtain ⟨v0, v1, v2, y0, y1, y2, n, rfl, _, _, g0, g1, g2⟩ := open_agg3 hs hone hC hv h
  rw [h0] at g0; rw [h1] at g1; rw [h2] at g2
  obtain ⟨z0, e0, _, w0⟩ := DataW.trod_int Try.underlying3 g0
  obtain ⟨z1, e1, _, w1⟩ := DataW.trod_int Try.underlying3 g1
  obtain ⟨z2, e2, _, w2⟩ := DataW.trod_int Try.underlying3 g2
  obtain rfl : v0 = .int .i64 z0 := by simpa using e0
  obtain rfl : v1 = .int .i64 z1 := by simpa using e1
  obtain rfl : v2 = .int .i64 z2 := by simpa using e2
  exact ⟨⟨z0, z1, z2⟩, rfl, w0, w1, w2⟩
end
end Go.Proofs.Ytiimbojcnmbebab
