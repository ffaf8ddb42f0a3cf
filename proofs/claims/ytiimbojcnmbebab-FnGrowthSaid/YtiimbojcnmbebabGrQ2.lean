/-
  Growth of spec: SingleCost, SingleMoves.
-/
import Derived.Test.YtiimbojcnmbebabGrQ
namespace Go.Proofs.Ytiimbojcnmbebab
open Go.RowKit

theorem specSingleCost_calls (g : GR) (k : Int) (w : World) :
    Calls Try.prog 18 #[.agg #[.int .i64 g.num, .int .i64 g.den, .int .i64 g.add], .int .i64 k] w fun e w' => e = .returned (.tuple #[.int .i64 (singR g k).1.cost, .bool (singR g k).2]) ∧ Below w.heap.size w w' := by
  obtain ⟨w0, hw0, hb0, hg0⟩ := enterG g w
  obtain ⟨c0, c1, c2⟩ := three_cells hg0
  have HU := Lib.hid (specSingles_calls g k w0)
  have HW := Lib.hid hw0
  have HB := Lib.hid hb0
  clear hw0 hb0 hg0
  obtain ⟨⟨r, b⟩, hr⟩ : ∃ r, singR g k = r := ⟨_, rfl⟩
  rw [hr] at HU ⊢
  clear hr
  go_enter Try.func18, Try.ntmps18
  go_wp2_with fail
  rw [HW.out]
  refine HU.out.mono ?_
  rintro e w1 ⟨rfl, hb1⟩
  go_wp2_with fail
  go_ret2
  refine ⟨rfl, ?_⟩
  have hq := HB.out.trans (hb1.mono HB.out.size)
  have hz := hq.size
  (repeat (first | (with_reducible exact Below.refl _ _) | (with_reducible refine Below.drew ?_) | ((with_reducible refine Below.alloc ?_ ?hB _); case hB => (first | (with_reducible exact Nat.le_refl _) | omega | (simp; done) | (simp; omega))) | ((with_reducible refine Below.setCell ?_ ?hB _); case hB => (first | (with_reducible exact Nat.le_refl _) | omega | (simp; done) | (simp; omega)))))
  exact hq
theorem specSingleMoves_calls (g : GR) (k : Int) (w : World) :
    Calls Try.prog 20 #[.agg #[.int .i64 g.num, .int .i64 g.den, .int .i64 g.add], .int .i64 k] w fun e w' => e = .returned (.tuple #[.int .i64 (singR g k).1.moves, .bool (singR g k).2]) ∧ Below w.heap.size w w' := by
  obtain ⟨w0, hw0, hb0, hg0⟩ := enterG g w
  obtain ⟨c0, c1, c2⟩ := three_cells hg0
  have HU := Lib.hid (specSingles_calls g k w0)
  have HW := Lib.hid hw0
  have HB := Lib.hid hb0
  clear hw0 hb0 hg0
  obtain ⟨⟨r, b⟩, hr⟩ : ∃ r, singR g k = r := ⟨_, rfl⟩
  rw [hr] at HU ⊢
  clear hr
  go_enter Try.func20, Try.ntmps20
  go_wp2_with fail
  rw [HW.out]
  refine HU.out.mono ?_
  rintro e w1 ⟨rfl, hb1⟩
  go_wp2_with fail
  go_ret2
  refine ⟨rfl, ?_⟩
  have hq := HB.out.trans (hb1.mono HB.out.size)
  have hz := hq.size
  (repeat (first | (with_reducible exact Below.refl _ _) | (with_reducible refine Below.drew ?_) | ((with_reducible refine Below.alloc ?_ ?hB _); case hB => (first | (with_reducible exact Nat.le_refl _) | omega | (simp; done) | (simp; omega))) | ((with_reducible refine Below.setCell ?_ ?hB _); case hB => (first | (with_reducible exact Nat.le_refl _) | omega | (simp; done) | (simp; omega)))))
  exact hq
end Go.Proofs.Ytiimbojcnmbebab
