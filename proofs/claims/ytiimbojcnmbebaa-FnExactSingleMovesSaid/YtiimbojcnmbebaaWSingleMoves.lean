/-
  FnExactSingleMoves: the walk.
-/
import Derived.Test.YtiimbojcnmbebaaGrA
import Derived.Test.YtiimbojcnmbebaaGrQ2
import Derived.Test.YtiimbojcnmbebaaGrY
namespace Go.Proofs.Ytiimbojcnmbebaa
open Go.RowKit

set_option maxHeartbeats 1600000 in
theorem fnExactSingleMoves_walk (g : GR) (k : Int) (w : World) (hg : GArg g) (hk : (Lit.int .i64 k).wf = true) :
    Calls Try.prog 10 #[.agg #[.int .i64 g.num, .int .i64 g.den, .int .i64 g.add], .int .i64 k] w fun e w' => e = .returned (.bool true) ∧ Below w.heap.size w w' := by
  have HSP := Lib.hid (fun W => specSingleMoves_calls g k W)
  have HIP := Lib.hid (fun W => implSingleMoves_calls g k W hg hk)
  obtain ⟨q0, hq0⟩ : ∃ q, ((singR g k).1.moves) = q := ⟨_, rfl⟩
  rw [hq0] at HSP HIP
  clear hq0
  have nq0 : (q0 != q0) = false := by simp
  obtain ⟨q1, hq1⟩ : ∃ q, ((singR g k).2) = q := ⟨_, rfl⟩
  rw [hq1] at HSP HIP
  clear hq1
  have nq1 : (q1 != q1) = false := by simp
  obtain ⟨w0, hw0⟩ : ∃ w0, w.alloc (.cells #[.int .i64 g.num, .int .i64 g.den, .int .i64 g.add] 23) = w0 := ⟨_, rfl⟩
  have hb0 : Below w.heap.size w w0 := by rw [← hw0]; exact (Below.refl _ _).alloc (Nat.le_refl _) _
  have hg0 : w0.heap[w.heap.size]? = some (.cells #[.int .i64 g.num, .int .i64 g.den, .int .i64 g.add] 23) := by rw [← hw0]; exact heap_alloc_new _ _
  have HA : Hid (∀ W, Below w0.heap.size w0 W → W.cell? ⟨w.heap.size, 0, none⟩ = some (.int .i64 g.num) ∧ W.cell? ⟨w.heap.size, 1, none⟩ = some (.int .i64 g.den) ∧ W.cell? ⟨w.heap.size, 2, none⟩ = some (.int .i64 g.add)) := Lib.hid fun W hb => three_cells ((hb.block _ (Array.getElem?_eq_some_iff.1 hg0).1).trans hg0)
  have HB := Lib.hid hb0
  have HW := Lib.hid hw0
  obtain ⟨c0, c1, c2⟩ := three_cells hg0
  clear hw0 hb0 hg0
  go_enter Try.func10, Try.ntmps10
  go_wp2_with fail
  rw [HW.out]
  refine (toRule_calls g w0).mono ?_
  rintro e w1 ⟨rfl, hb1⟩
  go_wp2_with fail
  refine (HSP.out w1).mono ?_
  rintro e w2 ⟨rfl, hb2⟩
  have HB2 := Lib.hid (hb1.trans (hb2.mono hb1.size))
  clear c0 c1 c2 hb1 hb2
  obtain ⟨c0, c1, c2⟩ := HA.out w2 HB2.out
  go_wp2_with fail
  refine (toRule_calls g w2).mono ?_
  rintro e w3 ⟨rfl, hb3⟩
  go_wp2_with fail
  refine (HIP.out w3).mono ?_
  rintro e w4 ⟨rfl, hb4⟩
  go_wp2_with fail
  go_ret
  exact ⟨rfl, HB.out.trans ((HB2.out.trans ((hb3.trans (hb4.mono hb3.size)).mono HB2.out.size)).mono HB.out.size)⟩
end Go.Proofs.Ytiimbojcnmbebaa
