/-
  PopFront, PopBack of spec.
-/
import Derived.Test.YtlioamjmkaaooaaRgP
namespace Go.Proofs.Ytlioamjmkaaooaa
open Go.RowKit

set_option maxRecDepth 100000 in
set_option maxHeartbeats 3200000 in
theorem specPopFront_calls (A : Option Addr) (cm : Nat) (m : List (List Int)) (r : Rg) (w : World) (hr : Rd2 w w.heap.size A m) (hn : m.length ≤ maxLen) :
    Calls Try.prog 38 #[.agg #[.slice A m.length cm], .agg #[.int .i64 r.w.arr, .int .i64 r.w.start, .int .i64 r.w.len, .int .i64 r.w.cap, .int .i64 r.first, .int .i64 r.many]] w fun e w' => e = .returned (.tuple #[.int .u8 (popFrontR m r).1, .agg #[.int .i64 (popFrontR m r).2.1.w.arr, .int .i64 (popFrontR m r).2.1.w.start, .int .i64 (popFrontR m r).2.1.w.len, .int .i64 (popFrontR m r).2.1.w.cap, .int .i64 (popFrontR m r).2.1.first, .int .i64 (popFrontR m r).2.1.many], .bool (popFrontR m r).2.2]) ∧ Below w.heap.size w w' := by
  obtain ⟨w0, hw0, hb0, hz0, hmr⟩ := enterMRR A m.length cm r w
  have HC := Lib.hid (specRing_calls A cm m r w0 ((hr.below hb0).more hb0.size) hn)
  have HR := Lib.hid hr
  have HB := Lib.hid hb0
  have HW := Lib.hid hw0
  have HMR := Lib.hid hmr
  have c0 := one_cell hmr.mr.mem
  obtain ⟨a0, a1, a2, a3, a4, a5⟩ := ring_cells hmr.mr.ring
  clear hr hb0 hmr hw0
  go_enter Try.func38, Try.ntmps38
  go_wp2_with fail
  rw [HW.out]
  refine HC.out.mono ?_
  rintro e w2 ⟨rfl, hb2⟩
  have HB2 := Lib.hid (HB.out.trans (hb2.mono HB.out.size))
  have HM2 := Lib.hid (HMR.out.below hb2)
  clear hb2 c0 a0 a1 a2 a3 a4 a5
  obtain ⟨r0, r1, r2, r3, r4, r5⟩ := ring_cells HM2.out.res
  obtain ⟨f0, f1, f2, f3, f4, f5⟩ := ring_frozen HM2.out.res
  have c0 := one_cell HM2.out.mr.mem
  obtain ⟨a0, a1, a2, a3, a4, a5⟩ := ring_cells HM2.out.mr.ring
  by_cases hok : RgOK m r
  · have hd : decide (RgOK m r) = true := decide_eq_true hok
    have HOK := Lib.hid hok
    obtain ⟨_, _, _, _, hl0, hl1, _⟩ := hok.1.small
    obtain ⟨hwin, h1, h2, h3, h4, h5⟩ := hok
    have HWIN := Lib.hid hwin
    clear hwin
    by_cases hz : r.many = 0
    · have HV : Hid (popFrontR m r = (0, zeroRg, false)) := Lib.hid (by rw [popFrontR, if_neg (fun h => by omega)])
      have hzz : (r.many == 0) = true := by simp [hz]
      go_wp2_with fail
      refine bodyPost_ret (v := .tuple #[.int .u8 0, .agg #[.int .i64 0, .int .i64 0, .int .i64 0, .int .i64 0, .int .i64 0, .int .i64 0], .bool false]) (by simp [results, Try.results38, go_sem, r0, r1, r2, r3, r4, r5]) rfl ⟨by rw [HV.out]; rfl, by (repeat (first | (with_reducible exact Below.refl _ _) | (with_reducible refine Below.drew ?_) | ((with_reducible refine Below.alloc ?_ ?hB _); case hB => (first | (with_reducible exact Nat.le_refl _) | omega | (simp; done) | (simp; omega))) | ((with_reducible refine Below.setCell ?_ ?hB _); case hB => (first | (with_reducible exact Nat.le_refl _) | omega | (simp; done) | (simp; omega))))); exact HB2.out⟩
    · have hzz : (r.many == 0) = false := by simp [hz]
      have HV : Hid (popFrontR m r = (atW m r.w r.first, ⟨r.w, slotR r 1, r.many - 1⟩, true)) := Lib.hid (by rw [popFrontR, if_pos ⟨HOK.out, by omega⟩, elR_at, slot0 HOK.out])
      have HA := Lib.hid (fun W (hb : Below w2.heap.size w2 W) => specAtW_calls A cm m r.w r.first W ((HR.out.below (HB2.out.trans (hb.mono HB2.out.size))).more (HB2.out.trans (hb.mono HB2.out.size)).size) HWIN.out h2 (by omega))
      have HP := Lib.hid (fun W => specPop_calls m r W HOK.out)
      generalize atW m r.w r.first = qb at *
      generalize slotR r 1 = q at *
      have HK : Hid (∀ W, Below w2.heap.size w2 W → W.cell? ⟨w.heap.size, 0, none⟩ = some (.slice A m.length cm) ∧ W.cell? ⟨w.heap.size + 1, 0, none⟩ = some (.int .i64 r.w.arr) ∧ W.cell? ⟨w.heap.size + 1, 1, none⟩ = some (.int .i64 r.w.start) ∧ W.cell? ⟨w.heap.size + 1, 2, none⟩ = some (.int .i64 r.w.len) ∧ W.cell? ⟨w.heap.size + 1, 3, none⟩ = some (.int .i64 r.w.cap) ∧ W.cell? ⟨w.heap.size + 1, 4, none⟩ = some (.int .i64 r.first) ∧ W.cell? ⟨w.heap.size + 1, 5, none⟩ = some (.int .i64 r.many)) := Lib.hid fun W h => ⟨one_cell (HM2.out.below h).mr.mem, ring_cells (HM2.out.below h).mr.ring⟩
      have HL : Hid (∀ W : World, W.heap[w.heap.size]? = some (.cells #[.slice A m.length cm] 32) → W.heap[w.heap.size + 1]? = some (.cells #[.int .i64 r.w.arr, .int .i64 r.w.start, .int .i64 r.w.len, .int .i64 r.w.cap, .int .i64 r.first, .int .i64 r.many] 36) → W.cell? ⟨w.heap.size, 0, none⟩ = some (.slice A m.length cm) ∧ W.cell? ⟨w.heap.size + 1, 0, none⟩ = some (.int .i64 r.w.arr) ∧ W.cell? ⟨w.heap.size + 1, 1, none⟩ = some (.int .i64 r.w.start) ∧ W.cell? ⟨w.heap.size + 1, 2, none⟩ = some (.int .i64 r.w.len) ∧ W.cell? ⟨w.heap.size + 1, 3, none⟩ = some (.int .i64 r.w.cap) ∧ W.cell? ⟨w.heap.size + 1, 4, none⟩ = some (.int .i64 r.first) ∧ W.cell? ⟨w.heap.size + 1, 5, none⟩ = some (.int .i64 r.many)) := Lib.hid fun W h h' => ⟨one_cell h, ring_cells h'⟩
      go_wp2_with fail
      clear c0 a0 a1 a2 a3 a4 a5 r0 r1 r2 r3 r4 r5 f0 f1 f2 f3 f4 f5
      obtain ⟨c0, a0, a1, a2, a3, a4, a5⟩ := HK.out w2.drew (Below.refl _ _).drew
      go_region_held3 (fun W => W.cell? ⟨w.heap.size, 0, none⟩ = some (.slice A m.length cm) ∧ W.cell? ⟨w.heap.size + 1, 0, none⟩ = some (.int .i64 r.w.arr) ∧ W.cell? ⟨w.heap.size + 1, 1, none⟩ = some (.int .i64 r.w.start) ∧ W.cell? ⟨w.heap.size + 1, 2, none⟩ = some (.int .i64 r.w.len) ∧ W.cell? ⟨w.heap.size + 1, 3, none⟩ = some (.int .i64 r.w.cap) ∧ W.cell? ⟨w.heap.size + 1, 4, none⟩ = some (.int .i64 r.first) ∧ W.cell? ⟨w.heap.size + 1, 5, none⟩ = some (.int .i64 r.many))
        (first | (with_reducible exact ⟨c0, a0, a1, a2, a3, a4, a5⟩) | (with_reducible exact HK.out _ hc4) | (with_reducible exact HK.out _ hc3) | exact HL.out _ (ring_keep (HM2.out.below hc4).mr.mem (by omega)) (ring_keep (HM2.out.below hc4).mr.ring (by omega)))
        (first | (go_at_call 76; (with_reducible refine (HA.out w2.drew (Below.refl _ _).drew).mono ?_); rintro e w3 ⟨rfl, hb3⟩; have hc3 : Below w2.heap.size w2 w3 := (Below.refl _ _).drew.trans hb3) | (go_at_call 77; (with_reducible refine (HP.out w3).mono ?_); rintro e w4 ⟨rfl, hb4⟩; have hc4 : Below w2.heap.size w2 w4 := hc3.trans (hb4.mono hc3.size); obtain ⟨r0, r1, r2, r3, r4, r5⟩ := ring_cells (HM2.out.below hc4).res; obtain ⟨f0, f1, f2, f3, f4, f5⟩ := ring_frozen (HM2.out.below hc4).res))
      go_wp2_with fail
      refine bodyPost_ret (v := .tuple #[.int .u8 qb, .agg #[.int .i64 r.w.arr, .int .i64 r.w.start, .int .i64 r.w.len, .int .i64 r.w.cap, .int .i64 q, .int .i64 (r.many - 1)], .bool true]) (by simp [results, Try.results38, go_sem, r0, r1, r2, r3, r4, r5]) rfl ⟨by rw [HV.out], by (repeat (first | (with_reducible exact Below.refl _ _) | (with_reducible refine Below.drew ?_) | ((with_reducible refine Below.alloc ?_ ?hB _); case hB => (first | (with_reducible exact Nat.le_refl _) | omega | (simp; done) | (simp; omega))) | ((with_reducible refine Below.setCell ?_ ?hB _); case hB => (first | (with_reducible exact Nat.le_refl _) | omega | (simp; done) | (simp; omega))))); exact HB2.out.trans (hc4.mono HB2.out.size)⟩
  · have hd : decide (RgOK m r) = false := decide_eq_false hok
    have HV : Hid (popFrontR m r = (0, zeroRg, false)) := Lib.hid (by rw [popFrontR, if_neg (fun h => hok h.1)])
    clear hok
    go_wp2_with fail
    refine bodyPost_ret (v := .tuple #[.int .u8 0, .agg #[.int .i64 0, .int .i64 0, .int .i64 0, .int .i64 0, .int .i64 0, .int .i64 0], .bool false]) (by simp [results, Try.results38, go_sem, r0, r1, r2, r3, r4, r5]) rfl ⟨by rw [HV.out]; rfl, by (repeat (first | (with_reducible exact Below.refl _ _) | (with_reducible refine Below.drew ?_) | ((with_reducible refine Below.alloc ?_ ?hB _); case hB => (first | (with_reducible exact Nat.le_refl _) | omega | (simp; done) | (simp; omega))) | ((with_reducible refine Below.setCell ?_ ?hB _); case hB => (first | (with_reducible exact Nat.le_refl _) | omega | (simp; done) | (simp; omega))))); exact HB2.out⟩

set_option maxRecDepth 100000 in
set_option maxHeartbeats 3200000 in
theorem specPopBack_calls (A : Option Addr) (cm : Nat) (m : List (List Int)) (r : Rg) (w : World) (hr : Rd2 w w.heap.size A m) (hn : m.length ≤ maxLen) :
    Calls Try.prog 40 #[.agg #[.slice A m.length cm], .agg #[.int .i64 r.w.arr, .int .i64 r.w.start, .int .i64 r.w.len, .int .i64 r.w.cap, .int .i64 r.first, .int .i64 r.many]] w fun e w' => e = .returned (.tuple #[.int .u8 (popBackR m r).1, .agg #[.int .i64 (popBackR m r).2.1.w.arr, .int .i64 (popBackR m r).2.1.w.start, .int .i64 (popBackR m r).2.1.w.len, .int .i64 (popBackR m r).2.1.w.cap, .int .i64 (popBackR m r).2.1.first, .int .i64 (popBackR m r).2.1.many], .bool (popBackR m r).2.2]) ∧ Below w.heap.size w w' := by
  obtain ⟨w0, hw0, hb0, hz0, hmr⟩ := enterMRR A m.length cm r w
  have HC := Lib.hid (specRing_calls A cm m r w0 ((hr.below hb0).more hb0.size) hn)
  have HR := Lib.hid hr
  have HB := Lib.hid hb0
  have HW := Lib.hid hw0
  have HMR := Lib.hid hmr
  have c0 := one_cell hmr.mr.mem
  obtain ⟨a0, a1, a2, a3, a4, a5⟩ := ring_cells hmr.mr.ring
  clear hr hb0 hmr hw0
  go_enter Try.func40, Try.ntmps40
  go_wp2_with fail
  rw [HW.out]
  refine HC.out.mono ?_
  rintro e w2 ⟨rfl, hb2⟩
  have HB2 := Lib.hid (HB.out.trans (hb2.mono HB.out.size))
  have HM2 := Lib.hid (HMR.out.below hb2)
  clear hb2 c0 a0 a1 a2 a3 a4 a5
  obtain ⟨r0, r1, r2, r3, r4, r5⟩ := ring_cells HM2.out.res
  obtain ⟨f0, f1, f2, f3, f4, f5⟩ := ring_frozen HM2.out.res
  have c0 := one_cell HM2.out.mr.mem
  obtain ⟨a0, a1, a2, a3, a4, a5⟩ := ring_cells HM2.out.mr.ring
  by_cases hok : RgOK m r
  · have hd : decide (RgOK m r) = true := decide_eq_true hok
    have HOK := Lib.hid hok
    obtain ⟨_, _, _, _, hl0, hl1, _⟩ := hok.1.small
    obtain ⟨hwin, h1, h2, h3, h4, h5⟩ := hok
    have HWIN := Lib.hid hwin
    clear hwin
    by_cases hz : r.many = 0
    · have HV : Hid (popBackR m r = (0, zeroRg, false)) := Lib.hid (by rw [popBackR, if_neg (fun h => by omega)])
      have hzz : (r.many == 0) = true := by simp [hz]
      go_wp2_with fail
      refine bodyPost_ret (v := .tuple #[.int .u8 0, .agg #[.int .i64 0, .int .i64 0, .int .i64 0, .int .i64 0, .int .i64 0, .int .i64 0], .bool false]) (by simp [results, Try.results40, go_sem, r0, r1, r2, r3, r4, r5]) rfl ⟨by rw [HV.out]; rfl, by (repeat (first | (with_reducible exact Below.refl _ _) | (with_reducible refine Below.drew ?_) | ((with_reducible refine Below.alloc ?_ ?hB _); case hB => (first | (with_reducible exact Nat.le_refl _) | omega | (simp; done) | (simp; omega))) | ((with_reducible refine Below.setCell ?_ ?hB _); case hB => (first | (with_reducible exact Nat.le_refl _) | omega | (simp; done) | (simp; omega))))); exact HB2.out⟩
    · have hzz : (r.many == 0) = false := by simp [hz]
      have HV : Hid (popBackR m r = (atW m r.w (slotR r (r.many - 1)), ⟨r.w, r.first, r.many - 1⟩, true)) := Lib.hid (by rw [popBackR, if_pos ⟨HOK.out, by omega⟩, elR_at])
      have hq := slotR_lt HOK.out (show 0 ≤ r.many - 1 by omega)
      have HSL := Lib.hid (specSlot_calls r (r.many - 1) w2 (by omega) (by omega) (by omega))
      have hwm : IntKind.i64.wrap (r.many - 1) = r.many - 1 := by simp [IntKind.wrap, IntKind.bits, IntKind.signed]; omega
      generalize slotR r (r.many - 1) = q at *
      go_wp2_with fail
      refine HSL.out.mono ?_
      rintro e w2b ⟨rfl, hb2b⟩
      replace HB2 := Lib.hid (HB2.out.trans (hb2b.mono HB2.out.size))
      replace HM2 := Lib.hid (HM2.out.below hb2b)
      have HA := Lib.hid (fun W (hb : Below w2b.heap.size w2b W) => specAtW_calls A cm m r.w q W ((HR.out.below (HB2.out.trans (hb.mono HB2.out.size))).more (HB2.out.trans (hb.mono HB2.out.size)).size) HWIN.out hq.1 hq.2)
      generalize atW m r.w q = qb at *
      clear hb2b
      have HK : Hid (∀ W, Below w2b.heap.size w2b W → W.cell? ⟨w.heap.size, 0, none⟩ = some (.slice A m.length cm) ∧ W.cell? ⟨w.heap.size + 1, 0, none⟩ = some (.int .i64 r.w.arr) ∧ W.cell? ⟨w.heap.size + 1, 1, none⟩ = some (.int .i64 r.w.start) ∧ W.cell? ⟨w.heap.size + 1, 2, none⟩ = some (.int .i64 r.w.len) ∧ W.cell? ⟨w.heap.size + 1, 3, none⟩ = some (.int .i64 r.w.cap) ∧ W.cell? ⟨w.heap.size + 1, 4, none⟩ = some (.int .i64 r.first) ∧ W.cell? ⟨w.heap.size + 1, 5, none⟩ = some (.int .i64 r.many)) := Lib.hid fun W h => ⟨one_cell (HM2.out.below h).mr.mem, ring_cells (HM2.out.below h).mr.ring⟩
      have HL : Hid (∀ W : World, W.heap[w.heap.size]? = some (.cells #[.slice A m.length cm] 32) → W.heap[w.heap.size + 1]? = some (.cells #[.int .i64 r.w.arr, .int .i64 r.w.start, .int .i64 r.w.len, .int .i64 r.w.cap, .int .i64 r.first, .int .i64 r.many] 36) → W.cell? ⟨w.heap.size, 0, none⟩ = some (.slice A m.length cm) ∧ W.cell? ⟨w.heap.size + 1, 0, none⟩ = some (.int .i64 r.w.arr) ∧ W.cell? ⟨w.heap.size + 1, 1, none⟩ = some (.int .i64 r.w.start) ∧ W.cell? ⟨w.heap.size + 1, 2, none⟩ = some (.int .i64 r.w.len) ∧ W.cell? ⟨w.heap.size + 1, 3, none⟩ = some (.int .i64 r.w.cap) ∧ W.cell? ⟨w.heap.size + 1, 4, none⟩ = some (.int .i64 r.first) ∧ W.cell? ⟨w.heap.size + 1, 5, none⟩ = some (.int .i64 r.many)) := Lib.hid fun W h h' => ⟨one_cell h, ring_cells h'⟩
      go_wp2_with fail
      clear c0 a0 a1 a2 a3 a4 a5 r0 r1 r2 r3 r4 r5 f0 f1 f2 f3 f4 f5
      obtain ⟨c0, a0, a1, a2, a3, a4, a5⟩ := HK.out w2b.drew (Below.refl _ _).drew
      go_region_held3 (fun W => W.cell? ⟨w.heap.size, 0, none⟩ = some (.slice A m.length cm) ∧ W.cell? ⟨w.heap.size + 1, 0, none⟩ = some (.int .i64 r.w.arr) ∧ W.cell? ⟨w.heap.size + 1, 1, none⟩ = some (.int .i64 r.w.start) ∧ W.cell? ⟨w.heap.size + 1, 2, none⟩ = some (.int .i64 r.w.len) ∧ W.cell? ⟨w.heap.size + 1, 3, none⟩ = some (.int .i64 r.w.cap) ∧ W.cell? ⟨w.heap.size + 1, 4, none⟩ = some (.int .i64 r.first) ∧ W.cell? ⟨w.heap.size + 1, 5, none⟩ = some (.int .i64 r.many))
        (first | (with_reducible exact ⟨c0, a0, a1, a2, a3, a4, a5⟩) | (with_reducible exact HK.out _ hc3) | exact HL.out _ (ring_keep (HM2.out.below hc3).mr.mem (by omega)) (ring_keep (HM2.out.below hc3).mr.ring (by omega)))
        (first | (go_at_call 76; (with_reducible refine (HA.out w2b.drew (Below.refl _ _).drew).mono ?_); rintro e w3 ⟨rfl, hb3⟩; have hc3 : Below w2b.heap.size w2b w3 := (Below.refl _ _).drew.trans hb3; obtain ⟨r0, r1, r2, r3, r4, r5⟩ := ring_cells (HM2.out.below hc3).res; obtain ⟨f0, f1, f2, f3, f4, f5⟩ := ring_frozen (HM2.out.below hc3).res))
      go_wp2_with fail
      refine bodyPost_ret (v := .tuple #[.int .u8 qb, .agg #[.int .i64 r.w.arr, .int .i64 r.w.start, .int .i64 r.w.len, .int .i64 r.w.cap, .int .i64 r.first, .int .i64 (r.many - 1)], .bool true]) (by simp [results, Try.results40, go_sem, r0, r1, r2, r3, r4, r5]) rfl ⟨by rw [HV.out], by (repeat (first | (with_reducible exact Below.refl _ _) | (with_reducible refine Below.drew ?_) | ((with_reducible refine Below.alloc ?_ ?hB _); case hB => (first | (with_reducible exact Nat.le_refl _) | omega | (simp; done) | (simp; omega))) | ((with_reducible refine Below.setCell ?_ ?hB _); case hB => (first | (with_reducible exact Nat.le_refl _) | omega | (simp; done) | (simp; omega))))); exact HB2.out.trans (hc3.mono HB2.out.size)⟩
  · have hd : decide (RgOK m r) = false := decide_eq_false hok
    have HV : Hid (popBackR m r = (0, zeroRg, false)) := Lib.hid (by rw [popBackR, if_neg (fun h => hok h.1)])
    clear hok
    go_wp2_with fail
    refine bodyPost_ret (v := .tuple #[.int .u8 0, .agg #[.int .i64 0, .int .i64 0, .int .i64 0, .int .i64 0, .int .i64 0, .int .i64 0], .bool false]) (by simp [results, Try.results40, go_sem, r0, r1, r2, r3, r4, r5]) rfl ⟨by rw [HV.out]; rfl, by (repeat (first | (with_reducible exact Below.refl _ _) | (with_reducible refine Below.drew ?_) | ((with_reducible refine Below.alloc ?_ ?hB _); case hB => (first | (with_reducible exact Nat.le_refl _) | omega | (simp; done) | (simp; omega))) | ((with_reducible refine Below.setCell ?_ ?hB _); case hB => (first | (with_reducible exact Nat.le_refl _) | omega | (simp; done) | (simp; omega))))); exact HB2.out⟩
end Go.Proofs.Ytlioamjmkaaooaa
