/-
  Whether two windows share: shares of impl's Window.
-/
import Derived.Test.YtadmllfcnjekcaaOvl
namespace Go.Proofs.Ytadmllfcnjekcaa
open Go.RowKit

set_option maxRecDepth 100000 in
theorem shares_calls (x y : Win) (w : World) (hx : Tame x) (hy : Tame y) :
    Calls Try.prog 111 #[.agg #[.int .i64 x.arr, .int .i64 x.start, .int .i64 x.len, .int .i64 x.cap], .agg #[.int .i64 y.arr, .int .i64 y.start, .int .i64 y.len, .int .i64 y.cap]] w fun e w' => e = .returned (.bool (decide (0 < ovl x y))) ∧ Below w.heap.size w w' := by
  obtain ⟨g1, g2, g3, g4⟩ := enter2 w (.cells #[.int .i64 x.arr, .int .i64 x.start, .int .i64 x.len, .int .i64 x.cap] 33) (.cells #[.int .i64 y.arr, .int .i64 y.start, .int .i64 y.len, .int .i64 y.cap] 33)
  obtain ⟨w0, hw0⟩ : ∃ w0, (w.alloc (.cells #[.int .i64 x.arr, .int .i64 x.start, .int .i64 x.len, .int .i64 x.cap] 33)).alloc (.cells #[.int .i64 y.arr, .int .i64 y.start, .int .i64 y.len, .int .i64 y.cap] 33) = w0 := ⟨_, rfl⟩
  rw [hw0] at g1 g2 g3 g4
  have HB := Lib.hid g1
  have HW := Lib.hid hw0
  have HC := Lib.hid (common_calls x y w0 hx hy)
  have HZ := Lib.hid (commonW_zero x y)
  have HN := Lib.hid (ovl_nonneg x y)
  obtain ⟨d0, d1, d2, d3⟩ := four_cells g2
  obtain ⟨e0, e1, e2, e3⟩ := four_cells g3
  clear g1 g2 g3 g4 hw0
  generalize commonW x y = z at *
  obtain ⟨za, zs, zl, zc⟩ := z
  go_enter Try.func111, Try.ntmps111
  go_wp2_with fail
  rw [HW.out]
  refine HC.out.mono ?_
  rintro e w2 ⟨rfl, hb2⟩
  have HB2 := Lib.hid (HB.out.trans (hb2.mono HB.out.size))
  clear hb2 d0 d1 d2 d3 e0 e1 e2 e3
  by_cases hz : (⟨za, zs, zl, zc⟩ : Win) = ⟨0, 0, 0, 0⟩
  · have HD := Lib.hid (show decide (0 < ovl x y) = false from decide_eq_false (by have := HZ.out.1 hz; omega))
    injection hz with z1 z2 z3 z4
    subst z1; subst z2; subst z3; subst z4
    go_wp2_with fail
    go_ret
    exact ⟨ret_bool HD.out.symm, HB2.out⟩
  · have HD := Lib.hid (show decide (0 < ovl x y) = true from decide_eq_true (by have := HN.out; have h3 : ¬ ovl x y = 0 := fun h => hz (HZ.out.2 h); omega))
    have hz2 : ¬ (za = 0 ∧ zs = 0 ∧ zl = 0 ∧ zc = 0) := fun h => hz (by rw [h.1, h.2.1, h.2.2.1, h.2.2.2])
    have HZZ := Lib.hid hz2
    clear hz hz2
    go_wp2_with fail
    all_goals (first | (go_ret; exact ⟨ret_bool HD.out.symm, HB2.out⟩) | (exfalso; exact HZZ.out (by simp_all)) | trace_state)
end Go.Proofs.Ytadmllfcnjekcaa
