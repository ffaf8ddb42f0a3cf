/-
  SplitArena of spec and impl.
-/
import Derived.Test.YtadmllfcnjekcaaArP
namespace Go.Proofs.Ytadmllfcnjekcaa
open Go.RowKit

def givenW (a : An) : Win := ⟨a.w.arr, a.w.start, a.us, a.us⟩
def splitA2R (m : List (List Int)) (a : An) : Win × Win × Bool := if ArOK m a then (givenW a, freeW a, true) else (⟨0, 0, 0, 0⟩, ⟨0, 0, 0, 0⟩, false)

set_option maxRecDepth 100000 in
set_option maxHeartbeats 3200000 in
theorem specSplitArena_calls (A B : Option Addr) (cm d : Nat) (m : List (List Int)) (g : An) (w : World) (hr : RdA w w.heap.size A B m g.ms) (hn : m.length ≤ maxLen) (hkl : g.ms.length ≤ maxLen) :
    Calls Try.prog 66 #[.agg #[.slice A m.length cm, .int .i64 g.w.arr, .int .i64 g.w.start, .int .i64 g.w.len, .int .i64 g.w.cap, .int .i64 g.us, .slice B g.ms.length d]] w fun e w' => e = .returned (.tuple #[.agg #[.int .i64 (splitA2R m g).1.arr, .int .i64 (splitA2R m g).1.start, .int .i64 (splitA2R m g).1.len, .int .i64 (splitA2R m g).1.cap], .agg #[.int .i64 (splitA2R m g).2.1.arr, .int .i64 (splitA2R m g).2.1.start, .int .i64 (splitA2R m g).2.1.len, .int .i64 (splitA2R m g).2.1.cap], .bool (splitA2R m g).2.2]) ∧ Below w.heap.size w w' := by
  obtain ⟨hb0, g1, g2, g3, hz⟩ := enter3 w (.cells #[.slice A m.length cm, .int .i64 g.w.arr, .int .i64 g.w.start, .int .i64 g.w.len, .int .i64 g.w.cap, .int .i64 g.us, .slice B g.ms.length d] 35) (.cells #[.int .i64 0, .int .i64 0, .int .i64 0, .int .i64 0] 33) (.cells #[.int .i64 0, .int .i64 0, .int .i64 0, .int .i64 0] 33)
  obtain ⟨w0, hw0⟩ : ∃ w0, ((w.alloc (.cells #[.slice A m.length cm, .int .i64 g.w.arr, .int .i64 g.w.start, .int .i64 g.w.len, .int .i64 g.w.cap, .int .i64 g.us, .slice B g.ms.length d] 35)).alloc (.cells #[.int .i64 0, .int .i64 0, .int .i64 0, .int .i64 0] 33)).alloc (.cells #[.int .i64 0, .int .i64 0, .int .i64 0, .int .i64 0] 33) = w0 := ⟨_, rfl⟩
  rw [hw0] at hb0 g1 g2 g3 hz
  have HC := Lib.hid (specArena_calls A B cm d m g w0 (hr.on hb0) hn hkl)
  have HB := Lib.hid hb0
  have HW := Lib.hid hw0
  have HG := Lib.hid (And.intro g1 (And.intro g2 g3))
  obtain ⟨c0, d0, d1, d2, d3, d4, d5⟩ := ar_cells g1
  clear hb0 hw0 g1 g2 g3 hz hr
  go_enter Try.func66, Try.ntmps66
  go_wp2_with fail
  rw [HW.out]
  refine HC.out.mono ?_
  rintro e w2 ⟨rfl, hb2⟩
  have HB2 := Lib.hid (HB.out.trans (hb2.mono HB.out.size))
  have HP2 := Lib.hid ((hb2.block _ (Array.getElem?_eq_some_iff.1 HG.out.1).1).trans HG.out.1)
  have HR2 := Lib.hid ((hb2.block _ (Array.getElem?_eq_some_iff.1 HG.out.2.1).1).trans HG.out.2.1)
  have HS2 := Lib.hid ((hb2.block _ (Array.getElem?_eq_some_iff.1 HG.out.2.2).1).trans HG.out.2.2)
  clear hb2 c0 d0 d1 d2 d3 d4 d5
  by_cases hok : ArOK m g
  · have hd : decide (ArOK m g) = true := decide_eq_true hok
    have HV : Hid (splitA2R m g = (givenW g, freeW g, true)) := Lib.hid (by rw [splitA2R, if_pos hok])
    obtain ⟨b0, b1, b2, b3, b4⟩ := hok.bounds
    obtain ⟨n0, n1, n2, n3, n4, n5, n6⟩ := hok.nat
    have HSl : Hid (∀ W, Calls Try.prog 94 #[.agg #[.int .i64 g.w.arr, .int .i64 g.w.start, .int .i64 g.w.len, .int .i64 g.w.cap], .int .i64 0, .int .i64 g.us, .int .i64 g.us] W fun e w' => e = .returned (.agg #[.int .i64 g.w.arr, .int .i64 g.w.start, .int .i64 g.us, .int .i64 g.us]) ∧ Below W.heap.size W w') := Lib.hid (fun W => by
      have h := specSlice_calls g.w.arr g.w.start g.w.len g.w.cap 0 g.us g.us W ⟨by omega, by omega⟩ ⟨by omega, by omega⟩ ⟨by omega, by omega⟩ ⟨by omega, by omega⟩
      simp only [Int.add_zero, Int.sub_zero] at h
      exact h)
    have HF := Lib.hid (fun W => specFree_calls A B cm d m g W hok)
    have HL := Lib.hid (fun (W : World) (hb : W.heap[w.heap.size]? = some (.cells #[.slice A m.length cm, .int .i64 g.w.arr, .int .i64 g.w.start, .int .i64 g.w.len, .int .i64 g.w.cap, .int .i64 g.us, .slice B g.ms.length d] 35)) => ar_cells hb)
    generalize freeW g = x at *
    obtain ⟨c0, d0, d1, d2, d3, d4, d5⟩ := HL.out w2.drew HP2.out
    have hc0 : Below w2.heap.size w2 w2.drew := (Below.refl _ _).drew
    clear hok b0 b1 b2 b3 b4 n0 n1 n2 n3 n4 n5 n6
    go_upto_region 3 with fail
    go_region_held3 (fun W => W.cell? ⟨w.heap.size, 0, none⟩ = some (.slice A m.length cm) ∧ W.cell? ⟨w.heap.size, 1, none⟩ = some (.int .i64 g.w.arr) ∧ W.cell? ⟨w.heap.size, 2, none⟩ = some (.int .i64 g.w.start) ∧ W.cell? ⟨w.heap.size, 3, none⟩ = some (.int .i64 g.w.len) ∧ W.cell? ⟨w.heap.size, 4, none⟩ = some (.int .i64 g.w.cap) ∧ W.cell? ⟨w.heap.size, 5, none⟩ = some (.int .i64 g.us) ∧ W.cell? ⟨w.heap.size, 6, none⟩ = some (.slice B g.ms.length d))
      (first | (with_reducible exact ⟨c0, d0, d1, d2, d3, d4, d5⟩) | (with_reducible exact HL.out _ hp4) | (with_reducible exact HL.out _ hp3) | (with_reducible exact HL.out _ (keep_set4 (keep_set4 hp4 (by omega)) (by omega))) | (with_reducible exact HL.out _ (keep_set4 hp4 (by omega))) | fail)
      (first | (go_at_call 94; refine (HSl.out _).mono ?_; rintro e w3 ⟨rfl, hb3⟩; have hc3 : Below w2.heap.size w2 w3 := hc0.trans hb3; have hp3 := (hc3.block _ (Array.getElem?_eq_some_iff.1 HP2.out).1).trans HP2.out) | (go_at_call 108; refine (HF.out _).mono ?_; rintro e w4 ⟨rfl, hb4⟩; have hc4 : Below w2.heap.size w2 w4 := hc3.trans (hb4.mono hc3.size); have hp4 := (hc4.block _ (Array.getElem?_eq_some_iff.1 HP2.out).1).trans HP2.out; obtain ⟨r0, r1, r2, r3⟩ := four_cells ((hc4.block _ (Array.getElem?_eq_some_iff.1 HR2.out).1).trans HR2.out); obtain ⟨f0, f1, f2, f3⟩ := four_frozen ((hc4.block _ (Array.getElem?_eq_some_iff.1 HR2.out).1).trans HR2.out); obtain ⟨s0, s1, s2, s3⟩ := four_cells ((hc4.block _ (Array.getElem?_eq_some_iff.1 HS2.out).1).trans HS2.out); obtain ⟨e0, e1, e2, e3⟩ := four_frozen ((hc4.block _ (Array.getElem?_eq_some_iff.1 HS2.out).1).trans HS2.out)))
    all_goals (go_wp2_with fail)
    all_goals refine bodyPost_ret (v := .tuple #[.agg #[.int .i64 g.w.arr, .int .i64 g.w.start, .int .i64 g.us, .int .i64 g.us], .agg #[.int .i64 x.arr, .int .i64 x.start, .int .i64 x.len, .int .i64 x.cap], .bool true]) (by simp [results, Try.results66, go_sem, r0, r1, r2, r3, s0, s1, s2, s3]) rfl ⟨by rw [HV.out]; rfl, by (repeat (first | (with_reducible exact Below.refl _ _) | (with_reducible refine Below.drew ?_) | ((with_reducible refine Below.alloc ?_ ?hB _); case hB => (first | (with_reducible exact Nat.le_refl _) | omega | (simp; done) | (simp; omega))) | ((with_reducible refine Below.setCell ?_ ?hB _); case hB => (first | (with_reducible exact Nat.le_refl _) | omega | (simp; done) | (simp; omega))))); exact HB2.out.trans (hc4.mono HB2.out.size)⟩
  · have hd : decide (ArOK m g) = false := decide_eq_false hok
    have HV : Hid (splitA2R m g = (⟨0, 0, 0, 0⟩, ⟨0, 0, 0, 0⟩, false)) := Lib.hid (by rw [splitA2R, if_neg hok])
    clear hok
    obtain ⟨r0, r1, r2, r3⟩ := four_cells HR2.out
    obtain ⟨f0, f1, f2, f3⟩ := four_frozen HR2.out
    obtain ⟨s0, s1, s2, s3⟩ := four_cells HS2.out
    obtain ⟨e0, e1, e2, e3⟩ := four_frozen HS2.out
    go_wp2_with fail
    refine bodyPost_ret (v := .tuple #[.agg #[.int .i64 0, .int .i64 0, .int .i64 0, .int .i64 0], .agg #[.int .i64 0, .int .i64 0, .int .i64 0, .int .i64 0], .bool false]) (by simp [results, Try.results66, go_sem, r0, r1, r2, r3, s0, s1, s2, s3]) rfl ⟨by rw [HV.out], by (repeat (first | (with_reducible exact Below.refl _ _) | (with_reducible refine Below.drew ?_) | ((with_reducible refine Below.alloc ?_ ?hB _); case hB => (first | (with_reducible exact Nat.le_refl _) | omega | (simp; done) | (simp; omega))) | ((with_reducible refine Below.setCell ?_ ?hB _); case hB => (first | (with_reducible exact Nat.le_refl _) | omega | (simp; done) | (simp; omega))))); exact HB2.out⟩

set_option maxRecDepth 100000 in
set_option maxHeartbeats 3200000 in
theorem implSplitArena_calls (A B : Option Addr) (cm d : Nat) (m : List (List Int)) (g : An) (w : World) (hr : RdA w w.heap.size A B m g.ms) (hn : m.length ≤ maxLen) (hkl : g.ms.length ≤ maxLen) (hx : AArgW g) :
    Calls Try.prog 67 #[.agg #[.slice A m.length cm, .int .i64 g.w.arr, .int .i64 g.w.start, .int .i64 g.w.len, .int .i64 g.w.cap, .int .i64 g.us, .slice B g.ms.length d]] w fun e w' => e = .returned (.tuple #[.agg #[.int .i64 (splitA2R m g).1.arr, .int .i64 (splitA2R m g).1.start, .int .i64 (splitA2R m g).1.len, .int .i64 (splitA2R m g).1.cap], .agg #[.int .i64 (splitA2R m g).2.1.arr, .int .i64 (splitA2R m g).2.1.start, .int .i64 (splitA2R m g).2.1.len, .int .i64 (splitA2R m g).2.1.cap], .bool (splitA2R m g).2.2]) ∧ Below w.heap.size w w' := by
  obtain ⟨hb0, g1, g2, g3, hz⟩ := enter3 w (.cells #[.slice A m.length cm, .int .i64 g.w.arr, .int .i64 g.w.start, .int .i64 g.w.len, .int .i64 g.w.cap, .int .i64 g.us, .slice B g.ms.length d] 35) (.cells #[.int .i64 0, .int .i64 0, .int .i64 0, .int .i64 0] 33) (.cells #[.int .i64 0, .int .i64 0, .int .i64 0, .int .i64 0] 33)
  obtain ⟨w0, hw0⟩ : ∃ w0, ((w.alloc (.cells #[.slice A m.length cm, .int .i64 g.w.arr, .int .i64 g.w.start, .int .i64 g.w.len, .int .i64 g.w.cap, .int .i64 g.us, .slice B g.ms.length d] 35)).alloc (.cells #[.int .i64 0, .int .i64 0, .int .i64 0, .int .i64 0] 33)).alloc (.cells #[.int .i64 0, .int .i64 0, .int .i64 0, .int .i64 0] 33) = w0 := ⟨_, rfl⟩
  rw [hw0] at hb0 g1 g2 g3 hz
  have HC := Lib.hid (implIsArena_calls A B cm d m g w0 (hr.on hb0) hn hkl hx)
  have HR := Lib.hid hr
  have HX := Lib.hid hx.1
  have HB := Lib.hid hb0
  have HW := Lib.hid hw0
  have HG := Lib.hid (And.intro g1 (And.intro g2 g3))
  obtain ⟨c0, d0, d1, d2, d3, d4, d5⟩ := ar_cells g1
  clear hb0 hw0 g1 g2 g3 hz hr
  go_enter Try.func67, Try.ntmps67
  go_wp2_with fail
  rw [HW.out]
  refine HC.out.mono ?_
  rintro e w2 ⟨rfl, hb2⟩
  have HB2 := Lib.hid (HB.out.trans (hb2.mono HB.out.size))
  have HP2 := Lib.hid ((hb2.block _ (Array.getElem?_eq_some_iff.1 HG.out.1).1).trans HG.out.1)
  have HR2 := Lib.hid ((hb2.block _ (Array.getElem?_eq_some_iff.1 HG.out.2.1).1).trans HG.out.2.1)
  have HS2 := Lib.hid ((hb2.block _ (Array.getElem?_eq_some_iff.1 HG.out.2.2).1).trans HG.out.2.2)
  clear hb2 c0 d0 d1 d2 d3 d4 d5
  by_cases hok : ArOK m g
  · have hd : isArenaR m g = true := decide_eq_true hok
    have HV : Hid (splitA2R m g = (givenW g, freeW g, true)) := Lib.hid (by rw [splitA2R, if_pos hok])
    have HSl : Hid (Calls Try.prog 112 #[.agg #[.slice A m.length cm], .agg #[.int .i64 g.w.arr, .int .i64 g.w.start, .int .i64 g.w.len, .int .i64 g.w.cap], .int .i64 0, .int .i64 g.us, .int .i64 g.us] w2 fun e w' => e = .returned (.tuple #[.agg #[.int .i64 g.w.arr, .int .i64 g.w.start, .int .i64 g.us, .int .i64 g.us], .bool true]) ∧ Below w2.heap.size w2 w') := Lib.hid (by
      have h := implSliceThree_calls A cm m g.w 0 g.us g.us w2 (HR.out.on HB2.out).1 hn hx.1
      rw [sliceV_given hok] at h
      simp only [Int.add_zero, Int.sub_zero] at h
      exact h)
    have HF := Lib.hid (fun (W : World) (hb : Below w2.heap.size w2 W) => freeIn_calls w.heap.size A B cm d m g W ((hb.block _ (Array.getElem?_eq_some_iff.1 HP2.out).1).trans HP2.out) (HR.out.on (HB2.out.trans (hb.mono HB2.out.size))).1 hn HX.out hok)
    obtain ⟨c0, d0, d1, d2, d3, d4, d5⟩ := ar_cells HP2.out
    generalize freeW g = x at *
    clear hok
    go_wp2_with fail
    refine HSl.out.mono ?_
    rintro e w3 ⟨rfl, hb3⟩
    have HB3 := Lib.hid hb3
    obtain ⟨w4, hw4⟩ : ∃ w4, w3.alloc (.cells #[.int .i64 g.w.arr, .int .i64 g.w.start, .int .i64 g.us, .int .i64 g.us] 33) = w4 := ⟨_, rfl⟩
    have hb4 : Below w3.heap.size w3 w4 := by rw [← hw4]; exact (Below.refl _ _).alloc (Nat.le_refl _) _
    have hx4 : w4.heap[w3.heap.size]? = some (.cells #[.int .i64 g.w.arr, .int .i64 g.w.start, .int .i64 g.us, .int .i64 g.us] 33) := by rw [← hw4]; exact heap_alloc_new _ _
    have HW4 := Lib.hid hw4
    have HB4 := Lib.hid (hb3.trans (hb4.mono hb3.size))
    have HX4 := Lib.hid hx4
    have hs3 := hb3.size
    have hs4 := (Array.getElem?_eq_some_iff.1 hx4).1
    clear hb3 hb4 hw4 hx4 c0 d0 d1 d2 d3 d4 d5
    go_upto_region 4 with fail
    rw [HW4.out]
    have hc0 : Below w4.heap.size w4 w4.drew := (Below.refl _ _).drew
    have HL := Lib.hid (fun (W : World) (hb : W.heap[w3.heap.size]? = some (.cells #[.int .i64 g.w.arr, .int .i64 g.w.start, .int .i64 g.us, .int .i64 g.us] 33)) => four_cells hb)
    obtain ⟨c0, c1, c2, c3⟩ := HL.out w4.drew HX4.out
    have hlt : w.heap.size + 1 + 1 < w2.heap.size := (Array.getElem?_eq_some_iff.1 HS2.out).1
    go_region_held3 (fun W => W.cell? ⟨w3.heap.size, 0, none⟩ = some (.int .i64 g.w.arr) ∧ W.cell? ⟨w3.heap.size, 1, none⟩ = some (.int .i64 g.w.start) ∧ W.cell? ⟨w3.heap.size, 2, none⟩ = some (.int .i64 g.us) ∧ W.cell? ⟨w3.heap.size, 3, none⟩ = some (.int .i64 g.us))
      (first | (with_reducible exact ⟨c0, c1, c2, c3⟩) | (with_reducible exact HL.out _ hp5) | (with_reducible exact HL.out _ (keep_set4 (keep_set4 hp5 (by omega)) (by omega))) | (with_reducible exact HL.out _ (keep_set4 hp5 (by omega))) | (with_reducible exact HL.out _ (keep_set4 HX4.out (by omega))) | fail)
      (first | (go_at_call 110; refine (HF.out _ (HB4.out.trans (hc0.mono HB4.out.size))).mono ?_; rintro e w5 ⟨rfl, hb5⟩; have hc5 : Below w4.heap.size w4 w5 := hc0.trans hb5; have hc25 := HB4.out.trans (hc5.mono HB4.out.size); have hp5 := (hc5.block _ (Array.getElem?_eq_some_iff.1 HX4.out).1).trans HX4.out; obtain ⟨r0, r1, r2, r3⟩ := four_cells ((hc25.block _ (Array.getElem?_eq_some_iff.1 HR2.out).1).trans HR2.out); obtain ⟨f0, f1, f2, f3⟩ := four_frozen ((hc25.block _ (Array.getElem?_eq_some_iff.1 HR2.out).1).trans HR2.out); obtain ⟨s0, s1, s2, s3⟩ := four_cells ((hc25.block _ (Array.getElem?_eq_some_iff.1 HS2.out).1).trans HS2.out); obtain ⟨e0, e1, e2, e3⟩ := four_frozen ((hc25.block _ (Array.getElem?_eq_some_iff.1 HS2.out).1).trans HS2.out)))
    all_goals (go_wp2_with fail)
    all_goals refine bodyPost_ret (v := .tuple #[.agg #[.int .i64 g.w.arr, .int .i64 g.w.start, .int .i64 g.us, .int .i64 g.us], .agg #[.int .i64 x.arr, .int .i64 x.start, .int .i64 x.len, .int .i64 x.cap], .bool true]) (by simp [results, Try.results67, go_sem, r0, r1, r2, r3, s0, s1, s2, s3]) rfl ⟨by rw [HV.out]; rfl, by (repeat (first | (with_reducible exact Below.refl _ _) | (with_reducible refine Below.drew ?_) | ((with_reducible refine Below.alloc ?_ ?hB _); case hB => (first | (with_reducible exact Nat.le_refl _) | omega | (simp; done) | (simp; omega))) | ((with_reducible refine Below.setCell ?_ ?hB _); case hB => (first | (with_reducible exact Nat.le_refl _) | omega | (simp; done) | (simp; omega))))); exact HB2.out.trans (hc25.mono HB2.out.size)⟩
  · have hd : isArenaR m g = false := decide_eq_false hok
    have HV : Hid (splitA2R m g = (⟨0, 0, 0, 0⟩, ⟨0, 0, 0, 0⟩, false)) := Lib.hid (by rw [splitA2R, if_neg hok])
    clear hok
    obtain ⟨r0, r1, r2, r3⟩ := four_cells HR2.out
    obtain ⟨f0, f1, f2, f3⟩ := four_frozen HR2.out
    obtain ⟨s0, s1, s2, s3⟩ := four_cells HS2.out
    obtain ⟨e0, e1, e2, e3⟩ := four_frozen HS2.out
    go_wp2_with fail
    refine bodyPost_ret (v := .tuple #[.agg #[.int .i64 0, .int .i64 0, .int .i64 0, .int .i64 0], .agg #[.int .i64 0, .int .i64 0, .int .i64 0, .int .i64 0], .bool false]) (by simp [results, Try.results67, go_sem, r0, r1, r2, r3, s0, s1, s2, s3]) rfl ⟨by rw [HV.out], by (repeat (first | (with_reducible exact Below.refl _ _) | (with_reducible refine Below.drew ?_) | ((with_reducible refine Below.alloc ?_ ?hB _); case hB => (first | (with_reducible exact Nat.le_refl _) | omega | (simp; done) | (simp; omega))) | ((with_reducible refine Below.setCell ?_ ?hB _); case hB => (first | (with_reducible exact Nat.le_refl _) | omega | (simp; done) | (simp; omega))))); exact HB2.out⟩
end Go.Proofs.Ytadmllfcnjekcaa
