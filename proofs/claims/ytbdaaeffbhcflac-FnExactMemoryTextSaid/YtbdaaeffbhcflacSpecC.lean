/-
  The model's tests of memories and windows: l1In, l1Least, l1Most, l2Memory, l2Window, IsMemory, IsWindow of spec.
-/
import Derived.Test.YtbdaaeffbhcflacMemoC
namespace Go.Proofs.Ytbdaaeffbhcflac
open Go.RowKit

theorem specIn_calls (x a b : Int) (w : World) :
    Calls Try.prog 29 #[.int .i64 x, .int .i64 a, .int .i64 b] w fun e w' => e = .returned (.bool (decide (a ≤ x ∧ x ≤ b))) ∧ w = w' := by
  by_cases h1 : a ≤ x
  · by_cases h2 : x ≤ b
    · rw [show decide (a ≤ x ∧ x ≤ b) = true from decide_eq_true ⟨h1, h2⟩]
      go_enter Try.func29, Try.ntmps29
      go_wp2
      go_ret
      exact ⟨rfl, rfl⟩
    · rw [show decide (a ≤ x ∧ x ≤ b) = false from decide_eq_false fun h => h2 h.2]
      go_enter Try.func29, Try.ntmps29
      go_wp2
      go_ret
      exact ⟨rfl, rfl⟩
  · rw [show decide (a ≤ x ∧ x ≤ b) = false from decide_eq_false fun h => h1 h.1]
    go_enter Try.func29, Try.ntmps29
    go_wp2
    go_ret
    exact ⟨rfl, rfl⟩
/-- Valid memories. -/
def MemOK (m : List (List Int)) : Prop := m.length ≤ 16 ∧ ∀ r ∈ m, 1 ≤ r.length ∧ r.length ≤ 64
instance (m : List (List Int)) : Decidable (MemOK m) := by unfold MemOK; exact inferInstance
theorem specMemory_calls (A : Option Addr) (c : Nat) (m : List (List Int)) (w : World) (hr : Rd2 w w.heap.size A m) (hn : m.length ≤ maxLen) :
    Calls Try.prog 15 #[.agg #[.slice A m.length c]] w fun e w' => e = .returned (.bool (decide (MemOK m))) ∧ Below w.heap.size w w' := by
  unfold maxLen at hn
  obtain ⟨w0, hw0⟩ : ∃ w0, (w.alloc (.cells #[.slice A m.length c] 28)) = w0 := ⟨_, rfl⟩
  have hb0 : Below w.heap.size w w0 := by rw [← hw0]; exact (Below.refl _ _).alloc (Nat.le_refl _) _
  have hc0 : w0.cell? ⟨w.heap.size, 0, none⟩ = some (.slice A m.length c) := by rw [← hw0]; exact one_cell (heap_alloc_new _ _)
  have HR := Lib.hid (hr.below hb0)
  have HB := Lib.hid hb0
  have HW := Lib.hid hw0
  clear hr hb0 hw0
  go_enter Try.func15, Try.ntmps15
  go_wp2_with fail
  rw [HW.out]
  go_loop [3] (fun i => ∃ j : Nat, j ≤ m.length ∧ j ≤ 17 ∧ i = .int .i64 j ∧ ∀ r ∈ m.take j, 1 ≤ r.length ∧ r.length ≤ 64) (fun i => m.length - (intOf i).toNat)
  case atStart => exact ⟨0, Nat.zero_le _, by omega, rfl, by simp⟩
  case round =>
    obtain ⟨j, hj, hj2, rfl, hrows⟩ := hrel
    have HT := Lib.hid hrows
    clear hrows
    by_cases hlt : j < m.length
    · by_cases h17 : j ≤ 16
      · obtain ⟨b, off, Ai, ci, rfl, hbb, hc, hci, hcm, hri⟩ := HR.out.at_ hlt
        have hlm : m[j].length ≤ 9223372036854775807 := by unfold maxLen at hcm; omega
        by_cases hok : 1 ≤ m[j].length ∧ m[j].length ≤ 64
        · have HC := Lib.hid (specIn_calls m[j].length 1 64 w0)
          rw [show decide ((1 : Int) ≤ (m[j].length : Int) ∧ (m[j].length : Int) ≤ 64) = true from decide_eq_true (by omega)] at HC
          have HT2 := Lib.hid (show ∀ r ∈ m.take (j + 1), 1 ≤ r.length ∧ r.length ≤ 64 from fun r hr => by
            rw [List.take_succ_eq_append_getElem hlt, List.mem_append] at hr
            rcases hr with hr | hr
            · exact HT.out r hr
            · rw [List.mem_singleton.1 hr]; exact hok)
          clear hri hok
          go_wp2_with fail
          refine HC.out.mono ?_
          rintro e w2 ⟨rfl, rfl⟩
          go_wp2_with fail
          go_round
          case rel => exact ⟨j + 1, by omega, by omega, by go_num, HT2.out⟩
          case measure => simp [intOf]; omega
        · have HC := Lib.hid (specIn_calls m[j].length 1 64 w0)
          rw [show decide ((1 : Int) ≤ (m[j].length : Int) ∧ (m[j].length : Int) ≤ 64) = false from decide_eq_false (by omega)] at HC
          have HD := Lib.hid (show decide (MemOK m) = false from decide_eq_false fun h => hok (h.2 _ (List.getElem_mem hlt)))
          clear hri hok
          go_wp2_with fail
          refine HC.out.mono ?_
          rintro e w2 ⟨rfl, rfl⟩
          go_wp2_with fail
          go_ret
          exact ⟨ret_bool HD.out.symm, HB.out⟩
      · have HD := Lib.hid (show decide (MemOK m) = false from decide_eq_false fun h => by have := h.1; omega)
        have h16 : ¬ m.length ≤ 16 := by omega
        go_wp2_with fail
        go_ret
        exact ⟨ret_bool (by rw [HD.out]; exact decide_eq_false (by omega)), HB.out⟩
    · obtain rfl : j = m.length := by omega
      by_cases h16 : m.length ≤ 16
      · have HD := Lib.hid (show decide (MemOK m) = true from decide_eq_true ⟨h16, by have := HT.out; rwa [List.take_length] at this⟩)
        go_wp2_with fail
        go_ret
        exact ⟨ret_bool (by rw [HD.out]; exact decide_eq_true (by omega)), HB.out⟩
      · have HD := Lib.hid (show decide (MemOK m) = false from decide_eq_false fun h => h16 h.1)
        go_wp2_with fail
        go_ret
        exact ⟨ret_bool (by rw [HD.out]; exact decide_eq_false (by omega)), HB.out⟩
end Go.Proofs.Ytbdaaeffbhcflac
