/-
  The program's tests on memories and windows: IsMemory, fitsMemory, areWindows, seenBytes of impl.
-/
import Derived.Test.YtoelagfcapdfpaaWin
import Derived.Test.YtoelagfcapdfpaaArgs
namespace Go.Proofs.Ytoelagfcapdfpaa
open Go.RowKit

theorem implIsMemory_calls (A : Option Addr) (c : Nat) (m : List (List Int)) (w : World) (hr : Rd2 w w.heap.size A m) (hn : m.length ≤ maxLen) :
    Calls Try.prog 82 #[.agg #[.slice A m.length c]] w fun e w' => e = .returned (.bool (decide (MemOK m))) ∧ Below w.heap.size w w' := by
  unfold maxLen at hn
  obtain ⟨w0, hw0⟩ : ∃ w0, (w.alloc (.cells #[.slice A m.length c] 31)) = w0 := ⟨_, rfl⟩
  have hb0 : Below w.heap.size w w0 := by rw [← hw0]; exact (Below.refl _ _).alloc (Nat.le_refl _) _
  have hc0 : w0.cell? ⟨w.heap.size, 0, none⟩ = some (.slice A m.length c) := by rw [← hw0]; exact one_cell (heap_alloc_new _ _)
  have HR := Lib.hid (hr.below hb0)
  have HB := Lib.hid hb0
  have HW := Lib.hid hw0
  clear hr hb0 hw0
  by_cases h16 : m.length ≤ 16
  · go_enter Try.func82, Try.ntmps82
    go_wp2_with fail
    rw [HW.out]
    go_loop [12] (fun i => ∃ j : Nat, j ≤ m.length ∧ i = .int .i64 j ∧ ∀ r ∈ m.take j, 1 ≤ r.length ∧ r.length ≤ 64) (fun i => m.length - (intOf i).toNat)
    case atStart => exact ⟨0, Nat.zero_le _, rfl, by simp⟩
    case round =>
      obtain ⟨j, hj, rfl, hrows⟩ := hrel
      have HT := Lib.hid hrows
      clear hrows
      by_cases hlt : j < m.length
      · obtain ⟨b, off, Ai, ci, rfl, hbb, hc, hci, hcm, hri⟩ := HR.out.at_ hlt
        have hlm : m[j].length ≤ 9223372036854775807 := by unfold maxLen at hcm; omega
        by_cases hok : 1 ≤ m[j].length ∧ m[j].length ≤ 64
        · have HT2 := Lib.hid (show ∀ r ∈ m.take (j + 1), 1 ≤ r.length ∧ r.length ≤ 64 from fun r hr => by
            rw [List.take_succ_eq_append_getElem hlt, List.mem_append] at hr
            rcases hr with hr | hr
            · exact HT.out r hr
            · rw [List.mem_singleton.1 hr]; exact hok)
          obtain ⟨ho1, ho2⟩ := hok
          clear hri
          go_wp2_with fail
          go_round
          case rel => exact ⟨j + 1, by omega, by go_num, HT2.out⟩
          case measure => simp [intOf]; omega
        · have HD := Lib.hid (show decide (MemOK m) = false from decide_eq_false fun h => hok (h.2 _ (List.getElem_mem hlt)))
          clear hri
          by_cases ho1 : m[j].length < 1
          · clear hok
            go_wp2_with fail
            go_ret
            exact ⟨ret_bool HD.out.symm, HB.out⟩
          · have ho2 : 64 < m[j].length := by omega
            clear hok
            go_wp2_with fail
            go_ret
            exact ⟨ret_bool HD.out.symm, HB.out⟩
      · obtain rfl : j = m.length := by omega
        have HD := Lib.hid (show decide (MemOK m) = true from decide_eq_true ⟨h16, by have := HT.out; rwa [List.take_length] at this⟩)
        go_wp2_with fail
        go_ret
        exact ⟨ret_bool HD.out.symm, HB.out⟩
  · have HD := Lib.hid (show decide (MemOK m) = false from decide_eq_false fun h => h16 h.1)
    have h17 : 16 < m.length := by omega
    clear h16
    go_enter Try.func82, Try.ntmps82
    go_wp2_with fail
    go_ret
    exact ⟨ret_bool HD.out.symm, by rw [HW.out]; exact HB.out⟩

set_option maxHeartbeats 800000 in
theorem implFits_calls (A : Option Addr) (c : Nat) (m : List (List Int)) (x : Win) (w : World) (hr : Rd2 w w.heap.size A m) (hm : MemOK m) (h1w : WArg x) :
    Calls Try.prog 105 #[.agg #[.slice A m.length c], x.val] w fun e w' => e = .returned (.bool (decide (WinOK m x))) ∧ Below w.heap.size w w' := by
  obtain ⟨xa, xs, xl, xc⟩ := x
  unfold Win.val
  obtain ⟨w0, hw0, hb0, hz0, hmw⟩ := enterMW A m.length c xa xs xl xc w
  have c1 := one_cell hmw.mem
  obtain ⟨d0, d1, d2, d3⟩ := four_cells hmw.win
  have HB := Lib.hid hb0
  have HR := Lib.hid (hr.below hb0)
  have HW := Lib.hid hw0
  have HM := Lib.hid hm
  obtain ⟨ua, us, ul, uc⟩ := h1w
  have h16 := hm.1
  clear hr hb0 hw0 hm hmw
  obtain ⟨ua1, ua2⟩ : -9223372036854775808 ≤ xa ∧ xa ≤ 9223372036854775807 := by simpa [Lit.wf, IntKind.min, IntKind.max, IntKind.signed, IntKind.bits] using ua
  obtain ⟨us1, us2⟩ : -9223372036854775808 ≤ xs ∧ xs ≤ 9223372036854775807 := by simpa [Lit.wf, IntKind.min, IntKind.max, IntKind.signed, IntKind.bits] using us
  clear ua us ul uc
  by_cases ha : 0 ≤ xa ∧ xa < m.length
  · obtain ⟨n, rfl⟩ : ∃ n : Nat, xa = n := ⟨xa.toNat, by omega⟩
    have hlt : n < m.length := by omega
    obtain ⟨b, off, Ai, ci, rfl, hbb, hc, hci, hcm, hri⟩ := HR.out.at_ hlt
    have HD : Hid (decide (WinOK m ⟨n, xs, xl, xc⟩) = decide (0 ≤ xs ∧ 0 ≤ xl ∧ xl ≤ xc ∧ xs + xc ≤ m[n].length)) := by
      refine Lib.hid (decide_eq_decide.2 ?_)
      unfold WinOK
      simp only [Int.toNat_natCast, getD_eq hlt]
      exact ⟨fun h => h.2.2.2, fun h => ⟨HM.out, ha.1, ha.2, h⟩⟩
    have hl64 := (HM.out.2 m[n] (List.getElem_mem hlt)).2
    have e1 : ((w.alloc (.cells #[.slice (some ⟨b, off, none⟩) m.length c] 31)).alloc (.cells #[.int .i64 n, .int .i64 xs, .int .i64 xl, .int .i64 xc] 33)).cell? ⟨b, off + n, none⟩ = some (.slice Ai m[n].length ci) := by rw [HW.out]; exact hc
    have hn1 : ¬ m.length ≤ n := by omega
    have hn2 : ¬ (n : Int) < 0 := by omega
    clear hri ha
    by_cases h1 : 0 ≤ xs
    · by_cases h2 : 0 ≤ xl
      · by_cases h3 : xl ≤ xc
        · by_cases h4 : xs ≤ m[n].length
          · by_cases h5 : xc ≤ m[n].length - xs
            · go_enter Try.func105, Try.ntmps105
              go_wp2_with fail
              go_ret
              exact ⟨ret_bool (by rw [HD.out]; exact (decide_eq_true (by omega)).symm), by rw [HW.out]; exact HB.out⟩
            · go_enter Try.func105, Try.ntmps105
              go_wp2_with fail
              go_ret
              exact ⟨ret_bool (by rw [HD.out]; exact (decide_eq_false (by omega)).symm), by rw [HW.out]; exact HB.out⟩
          · go_enter Try.func105, Try.ntmps105
            go_wp2_with fail
            go_ret
            exact ⟨ret_bool (by rw [HD.out]; exact (decide_eq_false (by omega)).symm), by rw [HW.out]; exact HB.out⟩
        · go_enter Try.func105, Try.ntmps105
          go_wp2_with fail
          go_ret
          exact ⟨ret_bool (by rw [HD.out]; exact (decide_eq_false (by omega)).symm), by rw [HW.out]; exact HB.out⟩
      · go_enter Try.func105, Try.ntmps105
        go_wp2_with fail
        go_ret
        exact ⟨ret_bool (by rw [HD.out]; exact (decide_eq_false (by omega)).symm), by rw [HW.out]; exact HB.out⟩
    · go_enter Try.func105, Try.ntmps105
      go_wp2_with fail
      go_ret
      exact ⟨ret_bool (by rw [HD.out]; exact (decide_eq_false (by omega)).symm), by rw [HW.out]; exact HB.out⟩
  · have HD := Lib.hid (show decide (WinOK m ⟨xa, xs, xl, xc⟩) = false from decide_eq_false fun h => ha ⟨h.2.1, h.2.2.1⟩)
    by_cases h1 : xa < 0
    · clear ha
      go_enter Try.func105, Try.ntmps105
      go_wp2_with fail
      go_ret
      exact ⟨ret_bool HD.out.symm, by rw [HW.out]; exact HB.out⟩
    · have h2 : (m.length : Int) ≤ xa := by omega
      clear ha
      go_enter Try.func105, Try.ntmps105
      go_wp2_with fail
      go_ret
      exact ⟨ret_bool HD.out.symm, by rw [HW.out]; exact HB.out⟩
end Go.Proofs.Ytoelagfcapdfpaa
