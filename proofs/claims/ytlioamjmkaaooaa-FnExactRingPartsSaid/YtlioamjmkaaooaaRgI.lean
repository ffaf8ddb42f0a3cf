/-
  Rings of impl: isRing, IsRing, NewRing; IsRing, NewRing of spec.
-/
import Derived.Test.YtlioamjmkaaooaaRgS
namespace Go.Proofs.Ytlioamjmkaaooaa
open Go.RowKit

set_option maxRecDepth 100000 in
set_option maxHeartbeats 800000 in
theorem implRing_calls (A : Option Addr) (cm : Nat) (m : List (List Int)) (r : Rg) (w : World) (hr : Rd2 w w.heap.size A m) (hn : m.length ≤ maxLen) (hx : RArg r) :
    Calls Try.prog 62 #[.agg #[.slice A m.length cm], .agg #[.int .i64 r.w.arr, .int .i64 r.w.start, .int .i64 r.w.len, .int .i64 r.w.cap, .int .i64 r.first, .int .i64 r.many]] w fun e w' => e = .returned (.bool (decide (RgOK m r))) ∧ Below w.heap.size w w' := by
  obtain ⟨w0, hw0, hb0, hz0, hmr⟩ := enterMR A m.length cm r w
  have HC := Lib.hid (areOne_calls A cm m r.w w0 ((hr.below hb0).more hb0.size) hn hx.1 (w.heap.size + 1 + 1) (by omega))
  have HB := Lib.hid hb0
  have HW := Lib.hid hw0
  have HMR := Lib.hid hmr
  have hrb := run_win1
  obtain ⟨d0, d1, d2, d3, d4, d5⟩ := ring_cells hmr.ring
  have c1 := one_cell hmr.mem
  clear hr hb0 hmr hw0
  go_enter Try.func62, Try.ntmps62
  go_wp2_with fail
  rw [HW.out]
  clear hrb
  refine HC.out.mono ?_
  rintro e w2 ⟨rfl, hb2⟩
  have HB2 := Lib.hid (HB.out.trans (hb2.mono HB.out.size))
  have hmr2 := HMR.out.below hb2
  clear d0 d1 d2 d3 d4 d5 c1
  obtain ⟨d0, d1, d2, d3, d4, d5⟩ := ring_cells hmr2.ring
  clear hb2 hmr2
  by_cases hm : WinOK m r.w
  · have hd : decide (WinOK m r.w) = true := decide_eq_true hm
    have HM := Lib.hid hm
    obtain ⟨_, _, _, _, hl0, hl1, _⟩ := hm.small
    clear hm
    by_cases h0 : 0 ≤ r.first
    · by_cases h1 : r.first < r.w.len
      · by_cases h2 : 0 ≤ r.many
        · have HV := Lib.hid (show decide (RgOK m r) = decide (r.many ≤ r.w.len) from decide_eq_decide.2 ⟨fun h => h.2.2.2.2.2, fun h => ⟨HM.out, by omega, h0, by omega, h2, h⟩⟩)
          go_wp2_with fail
          go_ret
          exact ⟨ret_bool HV.out.symm, HB2.out⟩
        · have HV := Lib.hid (show decide (RgOK m r) = false from decide_eq_false fun h => h2 h.2.2.2.2.1)
          go_wp2_with fail
          go_ret
          exact ⟨ret_bool HV.out.symm, HB2.out⟩
      · have HV := Lib.hid (show decide (RgOK m r) = false from decide_eq_false fun h => h1 (by have := h.2.2.2.1; omega))
        go_wp2_with fail
        go_ret
        exact ⟨ret_bool HV.out.symm, HB2.out⟩
    · have HV := Lib.hid (show decide (RgOK m r) = false from decide_eq_false fun h => h0 h.2.2.1)
      go_wp2_with fail
      go_ret
      exact ⟨ret_bool HV.out.symm, HB2.out⟩
  · have hd : decide (WinOK m r.w) = false := decide_eq_false hm
    have HV := Lib.hid (show decide (RgOK m r) = false from decide_eq_false fun h => hm h.1)
    clear hm
    go_wp2_with fail
    go_ret
    exact ⟨ret_bool HV.out.symm, HB2.out⟩

set_option maxRecDepth 100000 in
set_option maxHeartbeats 800000 in
theorem specNewRing_calls (A : Option Addr) (cm : Nat) (m : List (List Int)) (x : Win) (w : World) (hr : Rd2 w w.heap.size A m) (hn : m.length ≤ maxLen) :
    Calls Try.prog 23 #[.agg #[.slice A m.length cm], .agg #[.int .i64 x.arr, .int .i64 x.start, .int .i64 x.len, .int .i64 x.cap]] w fun e w' => e = .returned (.tuple #[.agg #[.int .i64 (newRingR m x).1.w.arr, .int .i64 (newRingR m x).1.w.start, .int .i64 (newRingR m x).1.w.len, .int .i64 (newRingR m x).1.w.cap, .int .i64 (newRingR m x).1.first, .int .i64 (newRingR m x).1.many], .bool (newRingR m x).2]) ∧ Below w.heap.size w w' := by
  obtain ⟨w0, hw0, hb0, hz0, hmw⟩ := enterMWQ A m.length cm x.arr x.start x.len x.cap w
  have HB := Lib.hid hb0
  have HW := Lib.hid hw0
  have c1 := one_cell hmw.mw.mem
  obtain ⟨d0, d1, d2, d3⟩ := four_cells hmw.mw.win
  obtain ⟨w2, hw2⟩ : ∃ w2, w0.alloc (.cells #[.int .i64 x.arr, .int .i64 x.start, .int .i64 x.len, .int .i64 x.cap, .int .i64 0, .int .i64 0] 36) = w2 := ⟨_, rfl⟩
  have hb2 : Below w0.heap.size w0 w2 := by rw [← hw2]; exact (Below.refl _ _).alloc (Nat.le_refl _) _
  have hx2 : w2.heap[w.heap.size + 1 + 1 + 1]? = some (.cells #[.int .i64 x.arr, .int .i64 x.start, .int .i64 x.len, .int .i64 x.cap, .int .i64 0, .int .i64 0] 36) := by rw [← hw2]; exact heap_alloc_at2 (by omega)
  have HC := Lib.hid (specRing_calls A cm m ⟨x, 0, 0⟩ w2 ((hr.below (hb0.trans (hb2.mono hb0.size))).more (hb0.trans (hb2.mono hb0.size)).size) hn)
  have HMW2 := Lib.hid (hmw.below hb2)
  have HX2 := Lib.hid hx2
  have HB2 := Lib.hid (hb0.trans (hb2.mono hb0.size))
  have HW2 := Lib.hid hw2
  clear hr hb0 hmw hw0 hb2 hx2 hw2
  go_enter Try.func23, Try.ntmps23
  go_wp2_with fail
  rw [HW.out]
  rw [HW2.out]
  refine HC.out.mono ?_
  rintro e w3 ⟨rfl, hb3⟩
  have HB3 := Lib.hid (HB2.out.trans (hb3.mono HB2.out.size))
  have z3 := (hb3.block _ (Array.getElem?_eq_some_iff.1 HX2.out).1).trans HX2.out
  have y3 := (HMW2.out.below hb3).res
  obtain ⟨a0, a1, a2, a3, a4, a5⟩ := ring_cells z3
  obtain ⟨r0, r1, r2, r3, r4, r5⟩ := ring_cells y3
  obtain ⟨f0, f1, f2, f3, f4, f5⟩ := ring_frozen y3
  clear hb3 c1 d0 d1 d2 d3 z3 y3
  by_cases hm : RgOK m ⟨x, 0, 0⟩
  · have hd : decide (RgOK m ⟨x, 0, 0⟩) = true := decide_eq_true hm
    have HV : Hid (newRingR m x = (⟨x, 0, 0⟩, true)) := Lib.hid (by rw [newRingR, if_pos hm])
    clear hm
    go_wp2_with fail
    refine bodyPost_ret (v := .tuple #[.agg #[.int .i64 x.arr, .int .i64 x.start, .int .i64 x.len, .int .i64 x.cap, .int .i64 0, .int .i64 0], .bool true]) (by simp [results, Try.results23, go_sem, r0, r1, r2, r3, r4, r5]) rfl ⟨by rw [HV.out], by (repeat (first | (with_reducible exact Below.refl _ _) | (with_reducible refine Below.drew ?_) | ((with_reducible refine Below.alloc ?_ ?hB _); case hB => (first | (with_reducible exact Nat.le_refl _) | omega | (simp; done) | (simp; omega))) | ((with_reducible refine Below.setCell ?_ ?hB _); case hB => (first | (with_reducible exact Nat.le_refl _) | omega | (simp; done) | (simp; omega))))); exact HB3.out⟩
  · have hd : decide (RgOK m ⟨x, 0, 0⟩) = false := decide_eq_false hm
    have HV : Hid (newRingR m x = (zeroRg, false)) := Lib.hid (by rw [newRingR, if_neg hm])
    clear hm
    go_wp2_with fail
    refine bodyPost_ret (v := .tuple #[.agg #[.int .i64 0, .int .i64 0, .int .i64 0, .int .i64 0, .int .i64 0, .int .i64 0], .bool false]) (by simp [results, Try.results23, go_sem, r0, r1, r2, r3, r4, r5]) rfl ⟨by rw [HV.out]; rfl, by (repeat (first | (with_reducible exact Below.refl _ _) | (with_reducible refine Below.drew ?_) | ((with_reducible refine Below.alloc ?_ ?hB _); case hB => (first | (with_reducible exact Nat.le_refl _) | omega | (simp; done) | (simp; omega))) | ((with_reducible refine Below.setCell ?_ ?hB _); case hB => (first | (with_reducible exact Nat.le_refl _) | omega | (simp; done) | (simp; omega))))); exact HB3.out⟩

set_option maxRecDepth 100000 in
set_option maxHeartbeats 800000 in
theorem implNewRing_calls (A : Option Addr) (cm : Nat) (m : List (List Int)) (x : Win) (w : World) (hr : Rd2 w w.heap.size A m) (hn : m.length ≤ maxLen) (hx : WArg x) :
    Calls Try.prog 25 #[.agg #[.slice A m.length cm], .agg #[.int .i64 x.arr, .int .i64 x.start, .int .i64 x.len, .int .i64 x.cap]] w fun e w' => e = .returned (.tuple #[.agg #[.int .i64 (newRingR m x).1.w.arr, .int .i64 (newRingR m x).1.w.start, .int .i64 (newRingR m x).1.w.len, .int .i64 (newRingR m x).1.w.cap, .int .i64 (newRingR m x).1.first, .int .i64 (newRingR m x).1.many], .bool (newRingR m x).2]) ∧ Below w.heap.size w w' := by
  obtain ⟨w0, hw0, hb0, hz0, hmw⟩ := enterMWQ A m.length cm x.arr x.start x.len x.cap w
  have HB := Lib.hid hb0
  have HW := Lib.hid hw0
  have c1 := one_cell hmw.mw.mem
  obtain ⟨d0, d1, d2, d3⟩ := four_cells hmw.mw.win
  obtain ⟨w2, hw2⟩ : ∃ w2, w0.alloc (.cells #[.int .i64 x.arr, .int .i64 x.start, .int .i64 x.len, .int .i64 x.cap, .int .i64 0, .int .i64 0] 36) = w2 := ⟨_, rfl⟩
  have hb2 : Below w0.heap.size w0 w2 := by rw [← hw2]; exact (Below.refl _ _).alloc (Nat.le_refl _) _
  have hx2 : w2.heap[w.heap.size + 1 + 1 + 1]? = some (.cells #[.int .i64 x.arr, .int .i64 x.start, .int .i64 x.len, .int .i64 x.cap, .int .i64 0, .int .i64 0] 36) := by rw [← hw2]; exact heap_alloc_at2 (by omega)
  have HC := Lib.hid (implRing_calls A cm m ⟨x, 0, 0⟩ w2 ((hr.below (hb0.trans (hb2.mono hb0.size))).more (hb0.trans (hb2.mono hb0.size)).size) hn ⟨hx, rfl, rfl⟩)
  have HMW2 := Lib.hid (hmw.below hb2)
  have HX2 := Lib.hid hx2
  have HB2 := Lib.hid (hb0.trans (hb2.mono hb0.size))
  have HW2 := Lib.hid hw2
  clear hr hb0 hmw hw0 hb2 hx2 hw2
  go_enter Try.func25, Try.ntmps25
  go_wp2_with fail
  rw [HW.out]
  rw [HW2.out]
  refine HC.out.mono ?_
  rintro e w3 ⟨rfl, hb3⟩
  have HB3 := Lib.hid (HB2.out.trans (hb3.mono HB2.out.size))
  have z3 := (hb3.block _ (Array.getElem?_eq_some_iff.1 HX2.out).1).trans HX2.out
  have y3 := (HMW2.out.below hb3).res
  obtain ⟨a0, a1, a2, a3, a4, a5⟩ := ring_cells z3
  obtain ⟨r0, r1, r2, r3, r4, r5⟩ := ring_cells y3
  obtain ⟨f0, f1, f2, f3, f4, f5⟩ := ring_frozen y3
  clear hb3 c1 d0 d1 d2 d3 z3 y3
  by_cases hm : RgOK m ⟨x, 0, 0⟩
  · have hd : decide (RgOK m ⟨x, 0, 0⟩) = true := decide_eq_true hm
    have HV : Hid (newRingR m x = (⟨x, 0, 0⟩, true)) := Lib.hid (by rw [newRingR, if_pos hm])
    clear hm
    go_wp2_with fail
    refine bodyPost_ret (v := .tuple #[.agg #[.int .i64 x.arr, .int .i64 x.start, .int .i64 x.len, .int .i64 x.cap, .int .i64 0, .int .i64 0], .bool true]) (by simp [results, Try.results25, go_sem, r0, r1, r2, r3, r4, r5]) rfl ⟨by rw [HV.out], by (repeat (first | (with_reducible exact Below.refl _ _) | (with_reducible refine Below.drew ?_) | ((with_reducible refine Below.alloc ?_ ?hB _); case hB => (first | (with_reducible exact Nat.le_refl _) | omega | (simp; done) | (simp; omega))) | ((with_reducible refine Below.setCell ?_ ?hB _); case hB => (first | (with_reducible exact Nat.le_refl _) | omega | (simp; done) | (simp; omega))))); exact HB3.out⟩
  · have hd : decide (RgOK m ⟨x, 0, 0⟩) = false := decide_eq_false hm
    have HV : Hid (newRingR m x = (zeroRg, false)) := Lib.hid (by rw [newRingR, if_neg hm])
    clear hm
    go_wp2_with fail
    refine bodyPost_ret (v := .tuple #[.agg #[.int .i64 0, .int .i64 0, .int .i64 0, .int .i64 0, .int .i64 0, .int .i64 0], .bool false]) (by simp [results, Try.results25, go_sem, r0, r1, r2, r3, r4, r5]) rfl ⟨by rw [HV.out]; rfl, by (repeat (first | (with_reducible exact Below.refl _ _) | (with_reducible refine Below.drew ?_) | ((with_reducible refine Below.alloc ?_ ?hB _); case hB => (first | (with_reducible exact Nat.le_refl _) | omega | (simp; done) | (simp; omega))) | ((with_reducible refine Below.setCell ?_ ?hB _); case hB => (first | (with_reducible exact Nat.le_refl _) | omega | (simp; done) | (simp; omega))))); exact HB3.out⟩

/-- What IsRing answers. -/
theorem ring_mem {m : List (List Int)} {r : Rg} (h : RgOK m r) : MemOK m := h.1.1
set_option maxRecDepth 100000 in
set_option maxHeartbeats 800000 in
theorem specIsRing_calls (A : Option Addr) (cm : Nat) (m : List (List Int)) (r : Rg) (w : World) (hr : Rd2 w w.heap.size A m) (hn : m.length ≤ maxLen) :
    Calls Try.prog 18 #[.agg #[.slice A m.length cm], .agg #[.int .i64 r.w.arr, .int .i64 r.w.start, .int .i64 r.w.len, .int .i64 r.w.cap, .int .i64 r.first, .int .i64 r.many]] w fun e w' => e = .returned (.tuple #[.bool (isRingR m r).1, .bool (isRingR m r).2]) ∧ Below w.heap.size w w' := by
  obtain ⟨w0, hw0, hb0, hz0, hmr⟩ := enterMR A m.length cm r w
  have HC := Lib.hid (specMemory_calls A cm m w0 ((hr.below hb0).more hb0.size) hn)
  have HR := Lib.hid hr
  have HB := Lib.hid hb0
  have HW := Lib.hid hw0
  have HMR := Lib.hid hmr
  obtain ⟨d0, d1, d2, d3, d4, d5⟩ := ring_cells hmr.ring
  have c1 := one_cell hmr.mem
  clear hr hb0 hmr hw0
  go_enter Try.func18, Try.ntmps18
  go_wp2_with fail
  rw [HW.out]
  refine HC.out.mono ?_
  rintro e w2 ⟨rfl, hb2⟩
  have HB2 := Lib.hid (HB.out.trans (hb2.mono HB.out.size))
  have hmr2 := HMR.out.below hb2
  clear d0 d1 d2 d3 d4 d5 c1
  obtain ⟨d0, d1, d2, d3, d4, d5⟩ := ring_cells hmr2.ring
  have c1 := one_cell hmr2.mem
  clear hb2 hmr2
  by_cases hm : MemOK m
  · have hd : decide (MemOK m) = true := decide_eq_true hm
    have HC2 := Lib.hid (specRing_calls A cm m r w2 ((HR.out.below HB2.out).more HB2.out.size) hn)
    have HV := Lib.hid (show isRingR m r = (decide (RgOK m r), true) by rw [isRingR, hd])
    generalize decide (RgOK m r) = q at *
    clear hm
    go_wp2_with fail
    refine HC2.out.mono ?_
    rintro e w3 ⟨rfl, hb3⟩
    have HB3 := Lib.hid (HB2.out.trans (hb3.mono HB2.out.size))
    clear hb3
    go_wp2_with fail
    refine bodyPost_ret (v := .tuple #[.bool q, .bool true]) (by simp [results, Try.results18, go_sem]) rfl ⟨by rw [HV.out], HB3.out⟩
  · have hd : decide (MemOK m) = false := decide_eq_false hm
    have HV := Lib.hid (show isRingR m r = (false, false) by rw [isRingR, hd, decide_eq_false fun h => hm (ring_mem h)])
    clear hm
    go_wp2_with fail
    refine bodyPost_ret (v := .tuple #[.bool false, .bool false]) (by simp [results, Try.results18, go_sem]) rfl ⟨by rw [HV.out], HB2.out⟩
end Go.Proofs.Ytlioamjmkaaooaa
