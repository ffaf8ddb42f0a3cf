/-
  The program's tests on memories and windows: IsMemory, fitsMemory, areWindows, seenBytes of impl.
-/
import Derived.Test.YtbdaaeffbhcflacSpecC
namespace Go.Proofs.Ytbdaaeffbhcflac
open Go.RowKit

theorem implIsMemory_calls (A : Option Addr) (c : Nat) (m : List (List Int)) (w : World) (hr : Rd2 w w.heap.size A m) (hn : m.length ≤ maxLen) :
    Calls Try.prog 18 #[.agg #[.slice A m.length c]] w fun e w' => e = .returned (.bool (decide (MemOK m))) ∧ Below w.heap.size w w' := by
  unfold maxLen at hn
  obtain ⟨w0, hw0⟩ : ∃ w0, (w.alloc (.cells #[.slice A m.length c] 28)) = w0 := ⟨_, rfl⟩
  have hb0 : Below w.heap.size w w0 := by rw [← hw0]; exact (Below.refl _ _).alloc (Nat.le_refl _) _
  have hc0 : w0.cell? ⟨w.heap.size, 0, none⟩ = some (.slice A m.length c) := by rw [← hw0]; exact one_cell (heap_alloc_new _ _)
  have HR := Lib.hid (hr.below hb0)
  have HB := Lib.hid hb0
  have HW := Lib.hid hw0
  clear hr hb0 hw0
  by_cases h16 : m.length ≤ 16
  · go_enter Try.func18, Try.ntmps18
    go_wp2_with fail
    rw [HW.out]
    go_loop [12] (fun i => ∃ j : Nat, j ≤ m.length ∧ i = .int .i64 j ∧ ∀ r ∈ m.take j, 1 ≤ r.length ∧ r.length ≤ 64) (fun i => m.length - (intOf i).toNat)
    case atStart => exact ⟨0, Nat.zero_le _, rfl, by simp⟩
    case round =>
      obtain ⟨j, hj, rfl, hrows⟩ := hrel
      have HT := Lib.hid hrows
      clear hrows
      by_cases hlt : j < m.length
      · obtain ⟨b, off, Ai, ci, rfl, hbb, hc, hci, hcm, hri⟩ := HR.out.at_ hlt
        have hlm : m[j].length ≤ 9223372036854775807 := by unfold maxLen at hcm; omega
        by_cases hok : 1 ≤ m[j].length ∧ m[j].length ≤ 64
        · have HT2 := Lib.hid (show ∀ r ∈ m.take (j + 1), 1 ≤ r.length ∧ r.length ≤ 64 from fun r hr => by
            rw [List.take_succ_eq_append_getElem hlt, List.mem_append] at hr
            rcases hr with hr | hr
            · exact HT.out r hr
            · rw [List.mem_singleton.1 hr]; exact hok)
          obtain ⟨ho1, ho2⟩ := hok
          clear hri
          go_wp2_with fail
          go_round
          case rel => exact ⟨j + 1, by omega, by go_num, HT2.out⟩
          case measure => simp [intOf]; omega
        · have HD := Lib.hid (show decide (MemOK m) = false from decide_eq_false fun h => hok (h.2 _ (List.getElem_mem hlt)))
          clear hri
          by_cases ho1 : m[j].length < 1
          · clear hok
            go_wp2_with fail
            go_ret
            exact ⟨ret_bool HD.out.symm, HB.out⟩
          · have ho2 : 64 < m[j].length := by omega
            clear hok
            go_wp2_with fail
            go_ret
            exact ⟨ret_bool HD.out.symm, HB.out⟩
      · obtain rfl : j = m.length := by omega
        have HD := Lib.hid (show decide (MemOK m) = true from decide_eq_true ⟨h16, by have := HT.out; rwa [List.take_length] at this⟩)
        go_wp2_with fail
        go_ret
        exact ⟨ret_bool HD.out.symm, HB.out⟩
  · have HD := Lib.hid (show decide (MemOK m) = false from decide_eq_false fun h => h16 h.1)
    have h17 : 16 < m.length := by omega
    clear h16
    go_enter Try.func18, Try.ntmps18
    go_wp2_with fail
    go_ret
    exact ⟨ret_bool HD.out.symm, by rw [HW.out]; exact HB.out⟩
end Go.Proofs.Ytbdaaeffbhcflac
