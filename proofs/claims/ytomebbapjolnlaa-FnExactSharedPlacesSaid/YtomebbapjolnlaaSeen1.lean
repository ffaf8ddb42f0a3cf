/-
  Windows that see a place: seenBy and isOn of impl's arrayPlace, numbersOf of impl.
-/
import Derived.Test.YtomebbapjolnlaaIdx
namespace Go.Proofs.Ytomebbapjolnlaa
open Go.RowKit

theorem two_cells {w : World} {g : Nat} {u0 u1 : Value} {t : TypeId} (h : w.heap[g]? = some (.cells #[u0, u1] t)) : w.cell? ⟨g, 0, none⟩ = some u0 ∧ w.cell? ⟨g, 1, none⟩ = some u1 := by simp [World.cell?, h]

set_option maxRecDepth 100000 in
theorem seenBy_calls (x : Win) (ar pl : Int) (w : World) (hx : Tame x) :
    Calls Try.prog 102 #[.agg #[.int .i64 ar, .int .i64 pl], .agg #[.int .i64 x.arr, .int .i64 x.start, .int .i64 x.len, .int .i64 x.cap]] w fun e w' => e = .returned (.bool (decide (SeesP x ar pl))) ∧ Below w.heap.size w w' := by
  obtain ⟨n, s, l, c⟩ := x
  obtain ⟨x1, x2, x3, x4, _, _⟩ := hx
  dsimp only at *
  obtain ⟨g1, g2, g3, g4⟩ := enter2 w (.cells #[.int .i64 ar, .int .i64 pl] 117) (.cells #[.int .i64 n, .int .i64 s, .int .i64 l, .int .i64 c] 90)
  obtain ⟨w0, hw0⟩ : ∃ w0, (w.alloc (.cells #[.int .i64 ar, .int .i64 pl] 117)).alloc (.cells #[.int .i64 n, .int .i64 s, .int .i64 l, .int .i64 c] 90) = w0 := ⟨_, rfl⟩
  rw [hw0] at g1 g2 g3 g4
  have HB := Lib.hid g1
  have HW := Lib.hid hw0
  obtain ⟨p0, p1⟩ := two_cells g2
  obtain ⟨d0, d1, d2, d3⟩ := four_cells g3
  clear g1 g2 g3 g4 hw0
  by_cases ha : n = ar
  · subst ha
    have hbe : (n == n) = true := by simp
    by_cases h1 : s ≤ pl
    · by_cases h2 : pl < s + l
      · have HD := Lib.hid (show decide (SeesP ⟨n, s, l, c⟩ n pl) = true from decide_eq_true ⟨rfl, h1, h2⟩)
        go_enter Try.func102, Try.ntmps102
        go_wp2_with fail
        go_ret
        exact ⟨ret_bool (by rw [HD.out]; try exact decide_eq_true (by omega)), by rw [HW.out]; exact HB.out⟩
      · have HD := Lib.hid (show decide (SeesP ⟨n, s, l, c⟩ n pl) = false from decide_eq_false fun h => h2 h.2.2)
        go_enter Try.func102, Try.ntmps102
        go_wp2_with fail
        go_ret
        exact ⟨ret_bool (by rw [HD.out]; try exact decide_eq_false (by omega)), by rw [HW.out]; exact HB.out⟩
    · have HD := Lib.hid (show decide (SeesP ⟨n, s, l, c⟩ n pl) = false from decide_eq_false fun h => h1 h.2.1)
      have h1' : pl < s := by omega
      clear h1
      go_enter Try.func102, Try.ntmps102
      go_wp2_with fail
      go_ret
      exact ⟨ret_bool (by rw [HD.out]), by rw [HW.out]; exact HB.out⟩
  · have hne : (ar == n) = false := by simp; omega
    have HD := Lib.hid (show decide (SeesP ⟨n, s, l, c⟩ ar pl) = false from decide_eq_false fun h => ha h.1)
    clear ha
    go_enter Try.func102, Try.ntmps102
    go_wp2_with fail
    go_ret
    exact ⟨ret_bool HD.out.symm, by rw [HW.out]; exact HB.out⟩
end Go.Proofs.Ytomebbapjolnlaa
