/-
  Gaps of spec and impl: l6Gap, IsGap of both.
-/
import Derived.Test.YtkclpppnjfhbpaaGpA
import Derived.Test.YtkclpppnjfhbpaaRgS
namespace Go.Proofs.Ytkclpppnjfhbpaa
open Go.RowKit

/-- A function's own variable that holds a gap. -/
theorem enterG (A : Option Addr) (n c : Nat) (g : Gp) (w : World) :
    ∃ w0, w.alloc (.cells #[.slice A n c, .int .i64 g.w.arr, .int .i64 g.w.start, .int .i64 g.w.len, .int .i64 g.w.cap, .int .i64 g.fr, .int .i64 g.up] 34) = w0 ∧ Below w.heap.size w w0 ∧ w0.heap.size = w.heap.size + 1 ∧ w0.heap[w.heap.size]? = some (.cells #[.slice A n c, .int .i64 g.w.arr, .int .i64 g.w.start, .int .i64 g.w.len, .int .i64 g.w.cap, .int .i64 g.fr, .int .i64 g.up] 34) :=
  ⟨_, rfl, (Below.refl _ _).alloc (Nat.le_refl _) _, by simp, heap_alloc_new _ _⟩

set_option maxRecDepth 100000 in
set_option maxHeartbeats 800000 in
theorem specGap_calls (A : Option Addr) (cm : Nat) (m : List (List Int)) (g : Gp) (w : World) (hr : Rd2 w w.heap.size A m) (hn : m.length ≤ maxLen) :
    Calls Try.prog 81 #[.agg #[.slice A m.length cm, .int .i64 g.w.arr, .int .i64 g.w.start, .int .i64 g.w.len, .int .i64 g.w.cap, .int .i64 g.fr, .int .i64 g.up]] w fun e w' => e = .returned (.bool (decide (GpOK m g))) ∧ Below w.heap.size w w' := by
  obtain ⟨w0, hw0, hb0, hz0, hg0⟩ := enterG A m.length cm g w
  have HC := Lib.hid (specWindow_calls A cm m g.w w0 ((hr.below hb0).more hb0.size) hn)
  have HB := Lib.hid hb0
  have HW := Lib.hid hw0
  have HG := Lib.hid hg0
  obtain ⟨c1, d0, d1, d2, d3, d4, d5⟩ := gap_cells hg0
  clear hr hb0 hg0 hw0 hz0
  go_enter Try.func81, Try.ntmps81
  go_wp2_with fail
  rw [HW.out]
  refine HC.out.mono ?_
  rintro e w2 ⟨rfl, hb2⟩
  have HB2 := Lib.hid (HB.out.trans (hb2.mono HB.out.size))
  have hg2 := (hb2.block _ (Array.getElem?_eq_some_iff.1 HG.out).1).trans HG.out
  clear d0 d1 d2 d3 d4 d5 c1
  obtain ⟨c1, d0, d1, d2, d3, d4, d5⟩ := gap_cells hg2
  clear hb2 hg2
  by_cases hm : WinOK m g.w
  · have hd : decide (WinOK m g.w) = true := decide_eq_true hm
    have HM := Lib.hid hm
    clear hm
    have H1 := Lib.hid (specIn_calls g.up 0 g.w.len w2)
    by_cases h1 : 0 ≤ g.up ∧ g.up ≤ g.w.len
    · rw [show decide ((0 : Int) ≤ g.up ∧ g.up ≤ g.w.len) = true from decide_eq_true h1] at H1
      have H2 := Lib.hid (specIn_calls g.fr 0 g.up w2)
      have HV := Lib.hid (show decide (GpOK m g) = decide ((0 : Int) ≤ g.fr ∧ g.fr ≤ g.up) from decide_eq_decide.2 ⟨fun h => ⟨h.2.1, h.2.2.1⟩, fun h => ⟨HM.out, h.1, h.2, h1.2⟩⟩)
      generalize decide ((0 : Int) ≤ g.fr ∧ g.fr ≤ g.up) = q at *
      clear h1
      go_wp2_with fail
      refine H1.out.mono ?_
      rintro e w3 ⟨rfl, rfl⟩
      go_wp2_with fail
      refine H2.out.mono ?_
      rintro e w3 ⟨rfl, rfl⟩
      go_wp2_with fail
      go_ret
      exact ⟨ret_bool HV.out.symm, HB2.out⟩
    · rw [show decide ((0 : Int) ≤ g.up ∧ g.up ≤ g.w.len) = false from decide_eq_false h1] at H1
      have HV := Lib.hid (show decide (GpOK m g) = false from decide_eq_false fun h => h1 ⟨Int.le_trans h.2.1 h.2.2.1, h.2.2.2⟩)
      clear h1
      go_wp2_with fail
      refine H1.out.mono ?_
      rintro e w3 ⟨rfl, rfl⟩
      go_wp2_with fail
      go_ret
      exact ⟨ret_bool HV.out.symm, HB2.out⟩
  · have hd : decide (WinOK m g.w) = false := decide_eq_false hm
    have HV := Lib.hid (show decide (GpOK m g) = false from decide_eq_false fun h => hm h.1)
    clear hm
    go_wp2_with fail
    go_ret
    exact ⟨ret_bool HV.out.symm, HB2.out⟩

set_option maxRecDepth 100000 in
theorem specIsGap_calls (A : Option Addr) (cm : Nat) (m : List (List Int)) (g : Gp) (w : World) (hr : Rd2 w w.heap.size A m) (hn : m.length ≤ maxLen) :
    Calls Try.prog 19 #[.agg #[.slice A m.length cm, .int .i64 g.w.arr, .int .i64 g.w.start, .int .i64 g.w.len, .int .i64 g.w.cap, .int .i64 g.fr, .int .i64 g.up]] w fun e w' => e = .returned (.bool (decide (GpOK m g))) ∧ Below w.heap.size w w' := by
  obtain ⟨w0, hw0, hb0, hz0, hg0⟩ := enterG A m.length cm g w
  have HC := Lib.hid (specGap_calls A cm m g w0 ((hr.below hb0).more hb0.size) hn)
  have HB := Lib.hid hb0
  have HW := Lib.hid hw0
  obtain ⟨c1, d0, d1, d2, d3, d4, d5⟩ := gap_cells hg0
  generalize decide (GpOK m g) = q at *
  clear hr hb0 hg0 hw0 hz0
  go_enter Try.func19, Try.ntmps19
  go_wp2_with fail
  rw [HW.out]
  refine HC.out.mono ?_
  rintro e w2 ⟨rfl, hb2⟩
  have HB2 := Lib.hid (HB.out.trans (hb2.mono HB.out.size))
  clear hb2 d0 d1 d2 d3 d4 d5 c1
  go_wp2_with fail
  go_ret
  exact ⟨rfl, HB2.out⟩

set_option maxRecDepth 100000 in
set_option maxHeartbeats 800000 in
theorem implIsGap_calls (A : Option Addr) (cm : Nat) (m : List (List Int)) (g : Gp) (w : World) (hr : Rd2 w w.heap.size A m) (hn : m.length ≤ maxLen) (hx : GArgW g) :
    Calls Try.prog 21 #[.agg #[.slice A m.length cm, .int .i64 g.w.arr, .int .i64 g.w.start, .int .i64 g.w.len, .int .i64 g.w.cap, .int .i64 g.fr, .int .i64 g.up]] w fun e w' => e = .returned (.bool (decide (GpOK m g))) ∧ Below w.heap.size w w' := by
  obtain ⟨w0, hw0, hb0, hz0, hg0⟩ := enterG A m.length cm g w
  have HC := Lib.hid (areOne_calls A cm m g.w w0 ((hr.below hb0).more hb0.size) hn hx.1 (w.heap.size + 1) (by omega))
  have HB := Lib.hid hb0
  have HW := Lib.hid hw0
  have HG := Lib.hid hg0
  have hrb := run_win1
  obtain ⟨c1, d0, d1, d2, d3, d4, d5⟩ := gap_cells hg0
  clear hr hb0 hg0 hw0 hz0
  go_enter Try.func21, Try.ntmps21
  go_wp2_with fail
  rw [HW.out]
  clear hrb
  refine HC.out.mono ?_
  rintro e w2 ⟨rfl, hb2⟩
  have HB2 := Lib.hid (HB.out.trans (hb2.mono HB.out.size))
  have hg2 := (hb2.block _ (Array.getElem?_eq_some_iff.1 HG.out).1).trans HG.out
  clear d0 d1 d2 d3 d4 d5 c1
  obtain ⟨c1, d0, d1, d2, d3, d4, d5⟩ := gap_cells hg2
  clear hb2 hg2
  by_cases hm : WinOK m g.w
  · have hd : decide (WinOK m g.w) = true := decide_eq_true hm
    have HM := Lib.hid hm
    clear hm
    by_cases h0 : 0 ≤ g.fr
    · by_cases h1 : g.fr ≤ g.up
      · have HV := Lib.hid (show decide (GpOK m g) = decide (g.up ≤ g.w.len) from decide_eq_decide.2 ⟨fun h => h.2.2.2, fun h => ⟨HM.out, h0, h1, h⟩⟩)
        go_wp2_with fail
        go_ret
        exact ⟨ret_bool HV.out.symm, HB2.out⟩
      · have HV := Lib.hid (show decide (GpOK m g) = false from decide_eq_false fun h => h1 h.2.2.1)
        go_wp2_with fail
        go_ret
        exact ⟨ret_bool HV.out.symm, HB2.out⟩
    · have HV := Lib.hid (show decide (GpOK m g) = false from decide_eq_false fun h => h0 h.2.1)
      go_wp2_with fail
      go_ret
      exact ⟨ret_bool HV.out.symm, HB2.out⟩
  · have hd : decide (WinOK m g.w) = false := decide_eq_false hm
    have HV := Lib.hid (show decide (GpOK m g) = false from decide_eq_false fun h => hm h.1)
    clear hm
    go_wp2_with fail
    go_ret
    exact ⟨ret_bool HV.out.symm, HB2.out⟩
end Go.Proofs.Ytkclpppnjfhbpaa
