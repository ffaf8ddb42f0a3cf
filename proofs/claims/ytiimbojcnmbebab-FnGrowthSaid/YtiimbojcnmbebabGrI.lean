/-
  Growth of the program: IsGrowRule, GrowsFast, a move.
-/
import Derived.Test.YtiimbojcnmbebabGrQ
import Derived.Test.YtiimbojcnmbebabGrA
namespace Go.Proofs.Ytiimbojcnmbebab
open Go.RowKit

theorem implIsGrowRule_calls (g : GR) (w : World) (_hg : GArg g) :
    Calls Try.prog 23 #[.agg #[.int .i64 g.num, .int .i64 g.den, .int .i64 g.add]] w fun e w' => e = .returned (.bool (decide g.OK)) ∧ Below w.heap.size w w' := by
  obtain ⟨w0, hw0, hb0, hg0⟩ := enterG g w
  obtain ⟨a0, a1, a2⟩ := three_cells hg0
  have HW := Lib.hid hw0
  have HB := Lib.hid hb0
  clear hw0 hb0 hg0
  by_cases c1 : 1 ≤ g.den
  · skip
    by_cases c2 : g.den ≤ g.num
    · skip
      by_cases c3 : g.num ≤ 8
      · skip
        by_cases c4 : 0 ≤ g.add
        · skip
          by_cases c5 : g.add ≤ 64
          · skip
            have HD := Lib.hid (show decide g.OK = true from decide_eq_true ⟨c1, by omega, c2, c3, c4, c5⟩)
            go_enter Try.func23, Try.ntmps23
            go_wp2_with fail
            go_ret
            exact ⟨ret_bool HD.out.symm, by rw [HW.out]; exact HB.out⟩
          · have HD := Lib.hid (show decide g.OK = false from decide_eq_false fun h => c5 h.2.2.2.2.2)
            go_enter Try.func23, Try.ntmps23
            go_wp2_with fail
            go_ret
            exact ⟨ret_bool HD.out.symm, by rw [HW.out]; exact HB.out⟩
        · have HD := Lib.hid (show decide g.OK = false from decide_eq_false fun h => c4 h.2.2.2.2.1)
          go_enter Try.func23, Try.ntmps23
          go_wp2_with fail
          go_ret
          exact ⟨ret_bool HD.out.symm, by rw [HW.out]; exact HB.out⟩
      · have HD := Lib.hid (show decide g.OK = false from decide_eq_false fun h => c3 h.2.2.2.1)
        go_enter Try.func23, Try.ntmps23
        go_wp2_with fail
        go_ret
        exact ⟨ret_bool HD.out.symm, by rw [HW.out]; exact HB.out⟩
    · have HD := Lib.hid (show decide g.OK = false from decide_eq_false fun h => c2 h.2.2.1)
      go_enter Try.func23, Try.ntmps23
      go_wp2_with fail
      go_ret
      exact ⟨ret_bool HD.out.symm, by rw [HW.out]; exact HB.out⟩
  · have HD := Lib.hid (show decide g.OK = false from decide_eq_false fun h => c1 h.1)
    go_enter Try.func23, Try.ntmps23
    go_wp2_with fail
    go_ret
    exact ⟨ret_bool HD.out.symm, by rw [HW.out]; exact HB.out⟩

theorem implGrowsFast_calls (g : GR) (w : World) (hga : GArg g) :
    Calls Try.prog 21 #[.agg #[.int .i64 g.num, .int .i64 g.den, .int .i64 g.add]] w fun e w' => e = .returned (.tuple #[.bool (fastR g).1, .bool (fastR g).2]) ∧ Below w.heap.size w w' := by
  obtain ⟨w0, hw0, hb0, hg0⟩ := enterG g w
  obtain ⟨c0, c1, c2⟩ := three_cells hg0
  have HU := Lib.hid (implIsGrowRule_calls g w0 hga)
  have HW := Lib.hid hw0
  have HB := Lib.hid hb0
  have HA : Hid (∀ W, Below w0.heap.size w0 W → W.cell? ⟨w.heap.size, 0, none⟩ = some (.int .i64 g.num) ∧ W.cell? ⟨w.heap.size, 1, none⟩ = some (.int .i64 g.den) ∧ W.cell? ⟨w.heap.size, 2, none⟩ = some (.int .i64 g.add)) := Lib.hid fun W hb => three_cells ((hb.block _ (Array.getElem?_eq_some_iff.1 hg0).1).trans hg0)
  clear hw0 hb0 hg0
  by_cases hg : g.OK
  · rw [decide_eq_true hg] at HU
    have HF : Hid (fastR g = (decide (g.den < g.num), true)) := Lib.hid (by unfold fastR; simp [hg])
    obtain ⟨p, hp⟩ : ∃ p, decide (g.den < g.num) = p := ⟨_, rfl⟩
    rw [hp] at HF
    clear hg
    go_enter Try.func21, Try.ntmps21
    go_wp2_with fail
    rw [HW.out]
    refine HU.out.mono ?_
    rintro e w1 ⟨rfl, hb1⟩
    clear c0 c1 c2
    obtain ⟨c0, c1, c2⟩ := HA.out w1 hb1
    go_wp2_with fail
    go_ret2
    exact ⟨by rw [HF.out]; rfl, HB.out.trans (hb1.mono HB.out.size)⟩
  · rw [decide_eq_false hg] at HU
    have HF : Hid (fastR g = (false, false)) := Lib.hid (by unfold fastR; simp [hg])
    clear hg
    go_enter Try.func21, Try.ntmps21
    go_wp2_with fail
    rw [HW.out]
    refine HU.out.mono ?_
    rintro e w1 ⟨rfl, hb1⟩
    go_wp2_with fail
    go_ret2
    exact ⟨by rw [HF.out]; rfl, HB.out.trans (hb1.mono HB.out.size)⟩
theorem implMoved_calls (l c m q nc : Int) (h1 : 0 ≤ m ∧ m ≤ 1000000000) (h2 : 0 ≤ q ∧ q ≤ 1000000000000) (h3 : 0 ≤ l ∧ l ≤ 1000000000) (w : World) :
    Calls Try.prog 74 #[.agg #[.int .i64 l, .int .i64 c, .int .i64 m, .int .i64 q], .int .i64 nc] w fun e w' => e = .returned (.agg #[.int .i64 l, .int .i64 nc, .int .i64 (m + 1), .int .i64 (q + l)]) ∧ Below w.heap.size w w' := by
  obtain ⟨h11, h12⟩ := h1
  obtain ⟨h21, h22⟩ := h2
  obtain ⟨h31, h32⟩ := h3
  go_enter Try.func74, Try.ntmps74
  go_wp2_with fail
  refine bodyPost_ret (v := .agg #[.int .i64 l, .int .i64 nc, .int .i64 (m + 1), .int .i64 (q + l)]) (by simp [results, Try.results74, go_sem]) rfl ⟨rfl, ?_⟩
  (repeat (first | (with_reducible exact Below.refl _ _) | (with_reducible refine Below.drew ?_) | ((with_reducible refine Below.alloc ?_ ?hB _); case hB => (first | (with_reducible exact Nat.le_refl _) | omega | (simp; done) | (simp; omega))) | ((with_reducible refine Below.setCell ?_ ?hB _); case hB => (first | (with_reducible exact Nat.le_refl _) | omega | (simp; done) | (simp; omega)))))
end Go.Proofs.Ytiimbojcnmbebab
