/-
  The model's tests of memories and windows: l1In, l1Least, l1Most, l2Memory, l2Window, IsMemory, IsWindow of spec.
-/
import Derived.Test.YtoelagfcapdfpaaMemo
namespace Go.Proofs.Ytoelagfcapdfpaa
open Go.RowKit

theorem specIn_calls (x a b : Int) (w : World) :
    Calls Try.prog 104 #[.int .i64 x, .int .i64 a, .int .i64 b] w fun e w' => e = .returned (.bool (decide (a ≤ x ∧ x ≤ b))) ∧ w = w' := by
  by_cases h1 : a ≤ x
  · by_cases h2 : x ≤ b
    · rw [show decide (a ≤ x ∧ x ≤ b) = true from decide_eq_true ⟨h1, h2⟩]
      go_enter Try.func104, Try.ntmps104
      go_wp2
      go_ret
      exact ⟨rfl, rfl⟩
    · rw [show decide (a ≤ x ∧ x ≤ b) = false from decide_eq_false fun h => h2 h.2]
      go_enter Try.func104, Try.ntmps104
      go_wp2
      go_ret
      exact ⟨rfl, rfl⟩
  · rw [show decide (a ≤ x ∧ x ≤ b) = false from decide_eq_false fun h => h1 h.1]
    go_enter Try.func104, Try.ntmps104
    go_wp2
    go_ret
    exact ⟨rfl, rfl⟩
theorem specLeast_calls (a b : Int) (w : World) :
    Calls Try.prog 118 #[.int .i64 a, .int .i64 b] w fun e w' => e = .returned (.int .i64 (if a < b then a else b)) ∧ w = w' := by
  by_cases h : a < b
  · rw [if_pos h]
    go_enter Try.func118, Try.ntmps118
    go_wp2
    go_ret
    exact ⟨rfl, rfl⟩
  · rw [if_neg h]
    go_enter Try.func118, Try.ntmps118
    go_wp2
    go_ret
    exact ⟨rfl, rfl⟩
theorem specMost_calls (a b : Int) (w : World) :
    Calls Try.prog 119 #[.int .i64 a, .int .i64 b] w fun e w' => e = .returned (.int .i64 (if b < a then a else b)) ∧ w = w' := by
  by_cases h : b < a
  · rw [if_pos h]
    go_enter Try.func119, Try.ntmps119
    go_wp2
    go_ret
    exact ⟨rfl, rfl⟩
  · rw [if_neg h]
    go_enter Try.func119, Try.ntmps119
    go_wp2
    go_ret
    exact ⟨rfl, rfl⟩

/-- Valid memories. -/
def MemOK (m : List (List Int)) : Prop := m.length ≤ 16 ∧ ∀ r ∈ m, 1 ≤ r.length ∧ r.length ≤ 64
instance (m : List (List Int)) : Decidable (MemOK m) := by unfold MemOK; exact inferInstance
theorem specMemory_calls (A : Option Addr) (c : Nat) (m : List (List Int)) (w : World) (hr : Rd2 w w.heap.size A m) (hn : m.length ≤ maxLen) :
    Calls Try.prog 78 #[.agg #[.slice A m.length c]] w fun e w' => e = .returned (.bool (decide (MemOK m))) ∧ Below w.heap.size w w' := by
  unfold maxLen at hn
  obtain ⟨w0, hw0⟩ : ∃ w0, (w.alloc (.cells #[.slice A m.length c] 31)) = w0 := ⟨_, rfl⟩
  have hb0 : Below w.heap.size w w0 := by rw [← hw0]; exact (Below.refl _ _).alloc (Nat.le_refl _) _
  have hc0 : w0.cell? ⟨w.heap.size, 0, none⟩ = some (.slice A m.length c) := by rw [← hw0]; exact one_cell (heap_alloc_new _ _)
  have HR := Lib.hid (hr.below hb0)
  have HB := Lib.hid hb0
  have HW := Lib.hid hw0
  clear hr hb0 hw0
  go_enter Try.func78, Try.ntmps78
  go_wp2_with fail
  rw [HW.out]
  go_loop [3] (fun i => ∃ j : Nat, j ≤ m.length ∧ j ≤ 17 ∧ i = .int .i64 j ∧ ∀ r ∈ m.take j, 1 ≤ r.length ∧ r.length ≤ 64) (fun i => m.length - (intOf i).toNat)
  case atStart => exact ⟨0, Nat.zero_le _, by omega, rfl, by simp⟩
  case round =>
    obtain ⟨j, hj, hj2, rfl, hrows⟩ := hrel
    have HT := Lib.hid hrows
    clear hrows
    by_cases hlt : j < m.length
    · by_cases h17 : j ≤ 16
      · obtain ⟨b, off, Ai, ci, rfl, hbb, hc, hci, hcm, hri⟩ := HR.out.at_ hlt
        have hlm : m[j].length ≤ 9223372036854775807 := by unfold maxLen at hcm; omega
        by_cases hok : 1 ≤ m[j].length ∧ m[j].length ≤ 64
        · have HC := Lib.hid (specIn_calls m[j].length 1 64 w0)
          rw [show decide ((1 : Int) ≤ (m[j].length : Int) ∧ (m[j].length : Int) ≤ 64) = true from decide_eq_true (by omega)] at HC
          have HT2 := Lib.hid (show ∀ r ∈ m.take (j + 1), 1 ≤ r.length ∧ r.length ≤ 64 from fun r hr => by
            rw [List.take_succ_eq_append_getElem hlt, List.mem_append] at hr
            rcases hr with hr | hr
            · exact HT.out r hr
            · rw [List.mem_singleton.1 hr]; exact hok)
          clear hri hok
          go_wp2_with fail
          refine HC.out.mono ?_
          rintro e w2 ⟨rfl, rfl⟩
          go_wp2_with fail
          go_round
          case rel => exact ⟨j + 1, by omega, by omega, by go_num, HT2.out⟩
          case measure => simp [intOf]; omega
        · have HC := Lib.hid (specIn_calls m[j].length 1 64 w0)
          rw [show decide ((1 : Int) ≤ (m[j].length : Int) ∧ (m[j].length : Int) ≤ 64) = false from decide_eq_false (by omega)] at HC
          have HD := Lib.hid (show decide (MemOK m) = false from decide_eq_false fun h => hok (h.2 _ (List.getElem_mem hlt)))
          clear hri hok
          go_wp2_with fail
          refine HC.out.mono ?_
          rintro e w2 ⟨rfl, rfl⟩
          go_wp2_with fail
          go_ret
          exact ⟨ret_bool HD.out.symm, HB.out⟩
      · have HD := Lib.hid (show decide (MemOK m) = false from decide_eq_false fun h => by have := h.1; omega)
        have h16 : ¬ m.length ≤ 16 := by omega
        go_wp2_with fail
        go_ret
        exact ⟨ret_bool (by rw [HD.out]; exact decide_eq_false (by omega)), HB.out⟩
    · obtain rfl : j = m.length := by omega
      by_cases h16 : m.length ≤ 16
      · have HD := Lib.hid (show decide (MemOK m) = true from decide_eq_true ⟨h16, by have := HT.out; rwa [List.take_length] at this⟩)
        go_wp2_with fail
        go_ret
        exact ⟨ret_bool (by rw [HD.out]; exact decide_eq_true (by omega)), HB.out⟩
      · have HD := Lib.hid (show decide (MemOK m) = false from decide_eq_false fun h => h16 h.1)
        go_wp2_with fail
        go_ret
        exact ⟨ret_bool (by rw [HD.out]; exact decide_eq_false (by omega)), HB.out⟩

theorem four_cells {w : World} {g : Nat} {u0 u1 u2 u3 : Value} {t : TypeId} (h : w.heap[g]? = some (.cells #[u0, u1, u2, u3] t)) :
    w.cell? ⟨g, 0, none⟩ = some u0 ∧ w.cell? ⟨g, 1, none⟩ = some u1 ∧ w.cell? ⟨g, 2, none⟩ = some u2 ∧ w.cell? ⟨g, 3, none⟩ = some u3 := by simp [World.cell?, h]
/-- Windows of a memory. -/
def WinOK (m : List (List Int)) (x : Win) : Prop :=
  MemOK m ∧ 0 ≤ x.arr ∧ x.arr < m.length ∧ 0 ≤ x.start ∧ 0 ≤ x.len ∧ x.len ≤ x.cap ∧ x.start + x.cap ≤ (m.getD x.arr.toNat []).length
instance (m : List (List Int)) (x : Win) : Decidable (WinOK m x) := by unfold WinOK; exact inferInstance
set_option maxHeartbeats 600000 in
theorem specWindow_calls (A : Option Addr) (c : Nat) (m : List (List Int)) (x : Win) (w : World) (hr : Rd2 w w.heap.size A m) (hn : m.length ≤ maxLen) :
    Calls Try.prog 86 #[.agg #[.slice A m.length c], x.val] w fun e w' => e = .returned (.bool (decide (WinOK m x))) ∧ Below w.heap.size w w' := by
  obtain ⟨xa, xs, xl, xc⟩ := x
  unfold Win.val
  obtain ⟨w0, hw0⟩ : ∃ w0, ((w.alloc (.cells #[.slice A m.length c] 31)).alloc (.cells #[.int .i64 xa, .int .i64 xs, .int .i64 xl, .int .i64 xc] 33)) = w0 := ⟨_, rfl⟩
  have hb0 : Below w.heap.size w w0 := by rw [← hw0]; exact ((Below.refl _ _).alloc (Nat.le_refl _) _).alloc (by simp) _
  have HC := Lib.hid (specMemory_calls A c m w0 ((hr.below hb0).more hb0.size) hn)
  have HB := Lib.hid hb0
  have HR := Lib.hid hr
  have HW := Lib.hid hw0
  clear hr hb0 hw0
  go_enter Try.func86, Try.ntmps86
  go_wp2_with fail
  rw [HW.out]
  refine HC.out.mono ?_
  rintro e w2 ⟨rfl, hb2⟩
  have g1 : w2.heap[w.heap.size]? = some (.cells #[.slice A m.length c] 31) := by
    refine (hb2.block _ (by rw [← HW.out]; simp; omega)).trans ?_
    rw [← HW.out]; exact alloc_old _ (heap_alloc_new _ _)
  have g2 : w2.heap[w.heap.size + 1]? = some (.cells #[.int .i64 xa, .int .i64 xs, .int .i64 xl, .int .i64 xc] 33) := by
    refine (hb2.block _ (by rw [← HW.out]; simp)).trans ?_
    rw [← HW.out]; simpa using heap_alloc_new (w.alloc _) _
  have HB2 := Lib.hid (HB.out.trans (hb2.mono HB.out.size))
  have HR2 := Lib.hid (HR.out.below HB2.out)
  have HL := Lib.hid (fun x a b => specIn_calls x a b w2)
  have c1 := one_cell g1
  obtain ⟨d0, d1, d2, d3⟩ := four_cells g2
  clear hb2 g1 g2
  by_cases hm : MemOK m
  · have hd : decide (MemOK m) = true := decide_eq_true hm
    have HM := Lib.hid hm
    clear hm
    by_cases ha : 0 ≤ xa ∧ xa < m.length
    · have HA := Lib.hid (HL.out xa 0 (m.length - 1))
      rw [show decide ((0 : Int) ≤ xa ∧ xa ≤ (m.length : Int) - 1) = true from decide_eq_true (by omega)] at HA
      obtain ⟨n, rfl⟩ : ∃ n : Nat, xa = n := ⟨xa.toNat, by omega⟩
      have hlt : n < m.length := by omega
      obtain ⟨b, off, Ai, ci, rfl, hbb, hc, hci, hcm, hri⟩ := HR2.out.at_ hlt
      have hrow : m.getD n [] = m[n] := by rw [List.getD_eq_getElem?_getD, List.getElem?_eq_getElem hlt]; rfl
      have HD : Hid (decide (WinOK m ⟨n, xs, xl, xc⟩) = decide (0 ≤ xs ∧ 0 ≤ xl ∧ xl ≤ xc ∧ xs + xc ≤ m[n].length)) := by
        refine Lib.hid (decide_eq_decide.2 ?_)
        unfold WinOK
        simp only [Int.toNat_natCast, hrow]
        exact ⟨fun h => h.2.2.2, fun h => ⟨HM.out, ha.1, ha.2, h⟩⟩
      have h16 := HM.out.1
      have hl64 := (HM.out.2 m[n] (List.getElem_mem hlt)).2
      clear hrow hri ha
      by_cases h1 : 0 ≤ xs ∧ xs ≤ m[n].length
      · have H1 := Lib.hid (HL.out xs 0 m[n].length)
        rw [show decide ((0 : Int) ≤ xs ∧ xs ≤ (m[n].length : Int)) = true from decide_eq_true h1] at H1
        by_cases h2 : 0 ≤ xc ∧ xc ≤ m[n].length - xs
        · have H2 := Lib.hid (HL.out xc 0 (m[n].length - xs))
          rw [show decide ((0 : Int) ≤ xc ∧ xc ≤ (m[n].length : Int) - xs) = true from decide_eq_true h2] at H2
          have H3 := Lib.hid (HL.out xl 0 xc)
          go_wp2_with fail
          refine HA.out.mono ?_
          rintro e w3 ⟨rfl, rfl⟩
          go_wp2_with fail
          refine H1.out.mono ?_
          rintro e w3 ⟨rfl, rfl⟩
          go_wp2_with fail
          refine H2.out.mono ?_
          rintro e w3 ⟨rfl, rfl⟩
          go_wp2_with fail
          refine H3.out.mono ?_
          rintro e w3 ⟨rfl, rfl⟩
          go_wp2_with fail
          go_ret
          exact ⟨ret_bool (by rw [HD.out, ← Bool.decide_and]; exact decide_eq_decide.2 ⟨fun h => ⟨h1.1, h.1, h.2, by omega⟩, fun h => ⟨h.2.1, h.2.2.1⟩⟩), HB2.out⟩
        · have H2 := Lib.hid (HL.out xc 0 (m[n].length - xs))
          rw [show decide ((0 : Int) ≤ xc ∧ xc ≤ (m[n].length : Int) - xs) = false from decide_eq_false h2] at H2
          have HN := Lib.hid h2
          clear h2
          go_wp2_with fail
          refine HA.out.mono ?_
          rintro e w3 ⟨rfl, rfl⟩
          go_wp2_with fail
          refine H1.out.mono ?_
          rintro e w3 ⟨rfl, rfl⟩
          go_wp2_with fail
          refine H2.out.mono ?_
          rintro e w3 ⟨rfl, rfl⟩
          go_wp2_with fail
          go_ret
          exact ⟨ret_bool (by rw [HD.out]; exact (decide_eq_false (by have := HN.out; omega)).symm), HB2.out⟩
      · have H1 := Lib.hid (HL.out xs 0 m[n].length)
        rw [show decide ((0 : Int) ≤ xs ∧ xs ≤ (m[n].length : Int)) = false from decide_eq_false h1] at H1
        have HN := Lib.hid h1
        clear h1
        go_wp2_with fail
        refine HA.out.mono ?_
        rintro e w3 ⟨rfl, rfl⟩
        go_wp2_with fail
        refine H1.out.mono ?_
        rintro e w3 ⟨rfl, rfl⟩
        go_wp2_with fail
        go_ret
        exact ⟨ret_bool (by rw [HD.out]; exact (decide_eq_false (by have := HN.out; omega)).symm), HB2.out⟩
    · have HA := Lib.hid (HL.out xa 0 (m.length - 1))
      rw [show decide ((0 : Int) ≤ xa ∧ xa ≤ (m.length : Int) - 1) = false from decide_eq_false (by omega)] at HA
      have HD := Lib.hid (show decide (WinOK m ⟨xa, xs, xl, xc⟩) = false from decide_eq_false fun h => ha ⟨h.2.1, h.2.2.1⟩)
      have h16 := HM.out.1
      clear ha
      go_wp2_with fail
      refine HA.out.mono ?_
      rintro e w3 ⟨rfl, rfl⟩
      go_wp2_with fail
      go_ret
      exact ⟨ret_bool HD.out.symm, HB2.out⟩
  · have hd : decide (MemOK m) = false := decide_eq_false hm
    have HD := Lib.hid (show decide (WinOK m ⟨xa, xs, xl, xc⟩) = false from decide_eq_false fun h => hm h.1)
    clear hm
    go_wp2_with fail
    go_ret
    exact ⟨ret_bool HD.out.symm, HB2.out⟩
end Go.Proofs.Ytoelagfcapdfpaa
