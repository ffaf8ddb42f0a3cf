/-
  PopFront, PopBack of impl.
-/
import Derived.Test.YtlioamjmkaaooaaRgK
import Derived.Test.YtlioamjmkaaooaaRgQ
import Derived.Test.YtlioamjmkaaooaaWinI
namespace Go.Proofs.Ytlioamjmkaaooaa
open Go.RowKit

/-- What pop answers, the step leading to q and telling the slot j. -/
def popR (m : List (List Int)) (r q : Rg) (j : Int) : Int × Rg × Bool := if RgOK m r ∧ 0 < r.many then (atW m r.w j, q, true) else (0, zeroRg, false)
theorem readV_at {m : List (List Int)} {x : Win} {j : Int} (h : WinOK m x) (h0 : 0 ≤ j) (h1 : j < x.len) : readV m x j = .tuple #[.int .u8 (atW m x j), .bool true] := by
  have hs := h.small
  rw [readV, if_pos ⟨h, h0, h1⟩, atW, show (x.start + j).toNat = x.start.toNat + j.toNat by omega]
set_option maxRecDepth 100000 in
set_option maxHeartbeats 3200000 in
theorem implPopF_calls (q : Rg) (j : Int) (A : Option Addr) (cm : Nat) (m : List (List Int)) (r : Rg) (w : World) (hr : Rd2 w w.heap.size A m) (hn : m.length ≤ maxLen) (hx : RArg r)
    (hf : RgOK m r → 0 < r.many → (∀ W, Calls Try.prog 79 #[.agg #[.int .i64 r.w.arr, .int .i64 r.w.start, .int .i64 r.w.len, .int .i64 r.w.cap, .int .i64 r.first, .int .i64 r.many]] W fun e w' => e = .returned (.tuple #[.agg #[.int .i64 q.w.arr, .int .i64 q.w.start, .int .i64 q.w.len, .int .i64 q.w.cap, .int .i64 q.first, .int .i64 q.many], .int .i64 j]) ∧ Below W.heap.size W w') ∧ 0 ≤ j ∧ j < r.w.len) :
    Calls Try.prog 78 #[.agg #[.slice A m.length cm], .agg #[.int .i64 r.w.arr, .int .i64 r.w.start, .int .i64 r.w.len, .int .i64 r.w.cap, .int .i64 r.first, .int .i64 r.many], .func (.func 79) #[] #[]] w fun e w' => e = .returned (.tuple #[.int .u8 (popR m r q j).1, .agg #[.int .i64 (popR m r q j).2.1.w.arr, .int .i64 (popR m r q j).2.1.w.start, .int .i64 (popR m r q j).2.1.w.len, .int .i64 (popR m r q j).2.1.w.cap, .int .i64 (popR m r q j).2.1.first, .int .i64 (popR m r q j).2.1.many], .bool (popR m r q j).2.2]) ∧ Below w.heap.size w w' := by
  obtain ⟨w0, hw0, hb0, hz0, hmr⟩ := enterMRR A m.length cm r w
  have HC := Lib.hid (implRing_calls A cm m r w0 ((hr.below hb0).more hb0.size) hn hx)
  have HR := Lib.hid hr
  have HB := Lib.hid hb0
  have HW := Lib.hid hw0
  have HMR := Lib.hid hmr
  have HFF := Lib.hid hf
  have c0 := one_cell hmr.mr.mem
  obtain ⟨a0, a1, a2, a3, a4, a5⟩ := ring_cells hmr.mr.ring
  clear hr hb0 hmr hw0 hf
  go_enter Try.func78, Try.ntmps78
  go_wp2_with fail
  rw [HW.out]
  refine HC.out.mono ?_
  rintro e w2 ⟨rfl, hb2⟩
  have HB2 := Lib.hid (HB.out.trans (hb2.mono HB.out.size))
  have HM2 := Lib.hid (HMR.out.below hb2)
  clear hb2 c0 a0 a1 a2 a3 a4 a5
  obtain ⟨r0, r1, r2, r3, r4, r5⟩ := ring_cells HM2.out.res
  obtain ⟨f0, f1, f2, f3, f4, f5⟩ := ring_frozen HM2.out.res
  have c0 := one_cell HM2.out.mr.mem
  obtain ⟨a0, a1, a2, a3, a4, a5⟩ := ring_cells HM2.out.mr.ring
  by_cases hok : RgOK m r
  · have hd : decide (RgOK m r) = true := decide_eq_true hok
    have HOK := Lib.hid hok
    obtain ⟨_, h1, h2, h3, h4, h5⟩ := hok
    by_cases hz : r.many = 0
    · have HV : Hid (popR m r q j = (0, zeroRg, false)) := Lib.hid (by rw [popR, if_neg (fun h => by omega)])
      have hzz : (r.many == 0) = true := by simp [hz]
      go_wp2_with fail
      refine bodyPost_ret (v := .tuple #[.int .u8 0, .agg #[.int .i64 0, .int .i64 0, .int .i64 0, .int .i64 0, .int .i64 0, .int .i64 0], .bool false]) (by simp [results, Try.results78, go_sem, r0, r1, r2, r3, r4, r5]) rfl ⟨by rw [HV.out]; rfl, by (repeat (first | (with_reducible exact Below.refl _ _) | (with_reducible refine Below.drew ?_) | ((with_reducible refine Below.alloc ?_ ?hB _); case hB => (first | (with_reducible exact Nat.le_refl _) | omega | (simp; done) | (simp; omega))) | ((with_reducible refine Below.setCell ?_ ?hB _); case hB => (first | (with_reducible exact Nat.le_refl _) | omega | (simp; done) | (simp; omega))))); exact HB2.out⟩
    · have hzz : (r.many == 0) = false := by simp [hz]
      obtain ⟨hf, hj0, hj1⟩ := HFF.out HOK.out (by omega)
      have HF := Lib.hid hf
      have HV : Hid (popR m r q j = (atW m r.w j, q, true)) := Lib.hid (by rw [popR, if_pos ⟨HOK.out, by omega⟩])
      have HRV := Lib.hid (readV_at HOK.out.1 hj0 hj1)
      clear hf
      go_wp2_with fail
      refine (HF.out w2).mono ?_
      rintro e w3 ⟨rfl, hb3⟩
      have HB3 := Lib.hid (HB2.out.trans (hb3.mono HB2.out.size))
      have HM3 := Lib.hid (HM2.out.below hb3)
      obtain ⟨w4, hw4⟩ : ∃ w4, w3.alloc (.cells #[.int .i64 q.w.arr, .int .i64 q.w.start, .int .i64 q.w.len, .int .i64 q.w.cap, .int .i64 q.first, .int .i64 q.many] 36) = w4 := ⟨_, rfl⟩
      have hb4 : Below w3.heap.size w3 w4 := by rw [← hw4]; exact (Below.refl _ _).alloc (Nat.le_refl _) _
      have HX4 := Lib.hid (show w4.heap[w3.heap.size]? = some (.cells #[.int .i64 q.w.arr, .int .i64 q.w.start, .int .i64 q.w.len, .int .i64 q.w.cap, .int .i64 q.first, .int .i64 q.many] 36) by rw [← hw4]; exact heap_alloc_new _ _)
      have HB4 := Lib.hid (HB3.out.trans (hb4.mono HB3.out.size))
      have HM4 := Lib.hid (HM3.out.below hb4)
      have HW4 := Lib.hid hw4
      have HRD := Lib.hid (implReadAt_calls A cm m r.w j w4 ((HR.out.below HB4.out).more HB4.out.size) hn hx.1)
      clear hb3 hb4 hw4 c0 a0 a1 a2 a3 a4 a5 r0 r1 r2 r3 r4 r5 f0 f1 f2 f3 f4 f5
      have c0 := one_cell HM4.out.mr.mem
      obtain ⟨a0, a1, a2, a3, a4, a5⟩ := ring_cells HM4.out.mr.ring
      go_upto_region 4 with fail
      rw [HW4.out]
      go_wp2_with fail
      refine HRD.out.mono ?_
      rintro e w5 ⟨rfl, hb5⟩
      rw [HRV.out]
      have HB5 := Lib.hid (HB4.out.trans (hb5.mono HB4.out.size))
      have HM5 := Lib.hid (HM4.out.below hb5)
      have HX5 := Lib.hid ((hb5.block _ (Array.getElem?_eq_some_iff.1 HX4.out).1).trans HX4.out)
      have hlt := (Array.getElem?_eq_some_iff.1 HM3.out.res).1
      generalize atW m r.w j = qb at *
      clear hb5 c0 a0 a1 a2 a3 a4 a5
      have HL : Hid (∀ W : World, W.heap[w3.heap.size]? = some (.cells #[.int .i64 q.w.arr, .int .i64 q.w.start, .int .i64 q.w.len, .int .i64 q.w.cap, .int .i64 q.first, .int .i64 q.many] 36) → W.cell? ⟨w3.heap.size, 0, none⟩ = some (.int .i64 q.w.arr) ∧ W.cell? ⟨w3.heap.size, 1, none⟩ = some (.int .i64 q.w.start) ∧ W.cell? ⟨w3.heap.size, 2, none⟩ = some (.int .i64 q.w.len) ∧ W.cell? ⟨w3.heap.size, 3, none⟩ = some (.int .i64 q.w.cap) ∧ W.cell? ⟨w3.heap.size, 4, none⟩ = some (.int .i64 q.first) ∧ W.cell? ⟨w3.heap.size, 5, none⟩ = some (.int .i64 q.many)) := Lib.hid fun W h => ring_cells h
      have HS := Lib.hid (HL.out _ (drew_block (ring_keep (q := w.heap.size + 1 + 1) (v0 := .int .i64 q.w.arr) (v1 := .int .i64 q.w.start) (v2 := .int .i64 q.w.len) (v3 := .int .i64 q.w.cap) (v4 := .int .i64 q.first) (v5 := .int .i64 q.many) HX5.out (by omega))))
      obtain ⟨k0, k1, k2, k3, k4, k5⟩ := HL.out w5.drew (drew_block HX5.out)
      obtain ⟨r0, r1, r2, r3, r4, r5⟩ := ring_cells HM5.out.res
      obtain ⟨f0, f1, f2, f3, f4, f5⟩ := ring_frozen HM5.out.res
      go_wp2_with fail
      go_region_held3 (fun W => W.cell? ⟨w3.heap.size, 0, none⟩ = some (.int .i64 q.w.arr) ∧ W.cell? ⟨w3.heap.size, 1, none⟩ = some (.int .i64 q.w.start) ∧ W.cell? ⟨w3.heap.size, 2, none⟩ = some (.int .i64 q.w.len) ∧ W.cell? ⟨w3.heap.size, 3, none⟩ = some (.int .i64 q.w.cap) ∧ W.cell? ⟨w3.heap.size, 4, none⟩ = some (.int .i64 q.first) ∧ W.cell? ⟨w3.heap.size, 5, none⟩ = some (.int .i64 q.many))
        (first | (with_reducible exact ⟨k0, k1, k2, k3, k4, k5⟩) | (with_reducible exact HS.out))
        (fail)
      all_goals (go_wp2_with fail)
      all_goals (refine bodyPost_ret (v := .tuple #[.int .u8 qb, .agg #[.int .i64 q.w.arr, .int .i64 q.w.start, .int .i64 q.w.len, .int .i64 q.w.cap, .int .i64 q.first, .int .i64 q.many], .bool true]) (by simp [results, Try.results78, go_sem, r0, r1, r2, r3, r4, r5]) rfl ⟨by rw [HV.out], ?_⟩)
      all_goals (repeat (first | (with_reducible exact Below.refl _ _) | (with_reducible refine Below.drew ?_) | ((with_reducible refine Below.alloc ?_ ?hB _); case hB => (first | (with_reducible exact Nat.le_refl _) | omega | (simp; done) | (simp; omega))) | ((with_reducible refine Below.setCell ?_ ?hB _); case hB => (first | (with_reducible exact Nat.le_refl _) | omega | (simp; done) | (simp; omega)))))
      all_goals exact HB5.out
  · have hd : decide (RgOK m r) = false := decide_eq_false hok
    have HV : Hid (popR m r q j = (0, zeroRg, false)) := Lib.hid (by rw [popR, if_neg (fun h => hok h.1)])
    clear hok
    go_wp2_with fail
    refine bodyPost_ret (v := .tuple #[.int .u8 0, .agg #[.int .i64 0, .int .i64 0, .int .i64 0, .int .i64 0, .int .i64 0, .int .i64 0], .bool false]) (by simp [results, Try.results78, go_sem, r0, r1, r2, r3, r4, r5]) rfl ⟨by rw [HV.out]; rfl, by (repeat (first | (with_reducible exact Below.refl _ _) | (with_reducible refine Below.drew ?_) | ((with_reducible refine Below.alloc ?_ ?hB _); case hB => (first | (with_reducible exact Nat.le_refl _) | omega | (simp; done) | (simp; omega))) | ((with_reducible refine Below.setCell ?_ ?hB _); case hB => (first | (with_reducible exact Nat.le_refl _) | omega | (simp; done) | (simp; omega))))); exact HB2.out⟩

set_option maxRecDepth 100000 in
set_option maxHeartbeats 3200000 in
theorem implPopB_calls (q : Rg) (j : Int) (A : Option Addr) (cm : Nat) (m : List (List Int)) (r : Rg) (w : World) (hr : Rd2 w w.heap.size A m) (hn : m.length ≤ maxLen) (hx : RArg r)
    (hf : RgOK m r → 0 < r.many → (∀ W, Calls Try.prog 80 #[.agg #[.int .i64 r.w.arr, .int .i64 r.w.start, .int .i64 r.w.len, .int .i64 r.w.cap, .int .i64 r.first, .int .i64 r.many]] W fun e w' => e = .returned (.tuple #[.agg #[.int .i64 q.w.arr, .int .i64 q.w.start, .int .i64 q.w.len, .int .i64 q.w.cap, .int .i64 q.first, .int .i64 q.many], .int .i64 j]) ∧ Below W.heap.size W w') ∧ 0 ≤ j ∧ j < r.w.len) :
    Calls Try.prog 78 #[.agg #[.slice A m.length cm], .agg #[.int .i64 r.w.arr, .int .i64 r.w.start, .int .i64 r.w.len, .int .i64 r.w.cap, .int .i64 r.first, .int .i64 r.many], .func (.func 80) #[] #[]] w fun e w' => e = .returned (.tuple #[.int .u8 (popR m r q j).1, .agg #[.int .i64 (popR m r q j).2.1.w.arr, .int .i64 (popR m r q j).2.1.w.start, .int .i64 (popR m r q j).2.1.w.len, .int .i64 (popR m r q j).2.1.w.cap, .int .i64 (popR m r q j).2.1.first, .int .i64 (popR m r q j).2.1.many], .bool (popR m r q j).2.2]) ∧ Below w.heap.size w w' := by
  obtain ⟨w0, hw0, hb0, hz0, hmr⟩ := enterMRR A m.length cm r w
  have HC := Lib.hid (implRing_calls A cm m r w0 ((hr.below hb0).more hb0.size) hn hx)
  have HR := Lib.hid hr
  have HB := Lib.hid hb0
  have HW := Lib.hid hw0
  have HMR := Lib.hid hmr
  have HFF := Lib.hid hf
  have c0 := one_cell hmr.mr.mem
  obtain ⟨a0, a1, a2, a3, a4, a5⟩ := ring_cells hmr.mr.ring
  clear hr hb0 hmr hw0 hf
  go_enter Try.func78, Try.ntmps78
  go_wp2_with fail
  rw [HW.out]
  refine HC.out.mono ?_
  rintro e w2 ⟨rfl, hb2⟩
  have HB2 := Lib.hid (HB.out.trans (hb2.mono HB.out.size))
  have HM2 := Lib.hid (HMR.out.below hb2)
  clear hb2 c0 a0 a1 a2 a3 a4 a5
  obtain ⟨r0, r1, r2, r3, r4, r5⟩ := ring_cells HM2.out.res
  obtain ⟨f0, f1, f2, f3, f4, f5⟩ := ring_frozen HM2.out.res
  have c0 := one_cell HM2.out.mr.mem
  obtain ⟨a0, a1, a2, a3, a4, a5⟩ := ring_cells HM2.out.mr.ring
  by_cases hok : RgOK m r
  · have hd : decide (RgOK m r) = true := decide_eq_true hok
    have HOK := Lib.hid hok
    obtain ⟨_, h1, h2, h3, h4, h5⟩ := hok
    by_cases hz : r.many = 0
    · have HV : Hid (popR m r q j = (0, zeroRg, false)) := Lib.hid (by rw [popR, if_neg (fun h => by omega)])
      have hzz : (r.many == 0) = true := by simp [hz]
      go_wp2_with fail
      refine bodyPost_ret (v := .tuple #[.int .u8 0, .agg #[.int .i64 0, .int .i64 0, .int .i64 0, .int .i64 0, .int .i64 0, .int .i64 0], .bool false]) (by simp [results, Try.results78, go_sem, r0, r1, r2, r3, r4, r5]) rfl ⟨by rw [HV.out]; rfl, by (repeat (first | (with_reducible exact Below.refl _ _) | (with_reducible refine Below.drew ?_) | ((with_reducible refine Below.alloc ?_ ?hB _); case hB => (first | (with_reducible exact Nat.le_refl _) | omega | (simp; done) | (simp; omega))) | ((with_reducible refine Below.setCell ?_ ?hB _); case hB => (first | (with_reducible exact Nat.le_refl _) | omega | (simp; done) | (simp; omega))))); exact HB2.out⟩
    · have hzz : (r.many == 0) = false := by simp [hz]
      obtain ⟨hf, hj0, hj1⟩ := HFF.out HOK.out (by omega)
      have HF := Lib.hid hf
      have HV : Hid (popR m r q j = (atW m r.w j, q, true)) := Lib.hid (by rw [popR, if_pos ⟨HOK.out, by omega⟩])
      have HRV := Lib.hid (readV_at HOK.out.1 hj0 hj1)
      clear hf
      go_wp2_with fail
      refine (HF.out w2).mono ?_
      rintro e w3 ⟨rfl, hb3⟩
      have HB3 := Lib.hid (HB2.out.trans (hb3.mono HB2.out.size))
      have HM3 := Lib.hid (HM2.out.below hb3)
      obtain ⟨w4, hw4⟩ : ∃ w4, w3.alloc (.cells #[.int .i64 q.w.arr, .int .i64 q.w.start, .int .i64 q.w.len, .int .i64 q.w.cap, .int .i64 q.first, .int .i64 q.many] 36) = w4 := ⟨_, rfl⟩
      have hb4 : Below w3.heap.size w3 w4 := by rw [← hw4]; exact (Below.refl _ _).alloc (Nat.le_refl _) _
      have HX4 := Lib.hid (show w4.heap[w3.heap.size]? = some (.cells #[.int .i64 q.w.arr, .int .i64 q.w.start, .int .i64 q.w.len, .int .i64 q.w.cap, .int .i64 q.first, .int .i64 q.many] 36) by rw [← hw4]; exact heap_alloc_new _ _)
      have HB4 := Lib.hid (HB3.out.trans (hb4.mono HB3.out.size))
      have HM4 := Lib.hid (HM3.out.below hb4)
      have HW4 := Lib.hid hw4
      have HRD := Lib.hid (implReadAt_calls A cm m r.w j w4 ((HR.out.below HB4.out).more HB4.out.size) hn hx.1)
      clear hb3 hb4 hw4 c0 a0 a1 a2 a3 a4 a5 r0 r1 r2 r3 r4 r5 f0 f1 f2 f3 f4 f5
      have c0 := one_cell HM4.out.mr.mem
      obtain ⟨a0, a1, a2, a3, a4, a5⟩ := ring_cells HM4.out.mr.ring
      go_upto_region 4 with fail
      rw [HW4.out]
      go_wp2_with fail
      refine HRD.out.mono ?_
      rintro e w5 ⟨rfl, hb5⟩
      rw [HRV.out]
      have HB5 := Lib.hid (HB4.out.trans (hb5.mono HB4.out.size))
      have HM5 := Lib.hid (HM4.out.below hb5)
      have HX5 := Lib.hid ((hb5.block _ (Array.getElem?_eq_some_iff.1 HX4.out).1).trans HX4.out)
      have hlt := (Array.getElem?_eq_some_iff.1 HM3.out.res).1
      generalize atW m r.w j = qb at *
      clear hb5 c0 a0 a1 a2 a3 a4 a5
      have HL : Hid (∀ W : World, W.heap[w3.heap.size]? = some (.cells #[.int .i64 q.w.arr, .int .i64 q.w.start, .int .i64 q.w.len, .int .i64 q.w.cap, .int .i64 q.first, .int .i64 q.many] 36) → W.cell? ⟨w3.heap.size, 0, none⟩ = some (.int .i64 q.w.arr) ∧ W.cell? ⟨w3.heap.size, 1, none⟩ = some (.int .i64 q.w.start) ∧ W.cell? ⟨w3.heap.size, 2, none⟩ = some (.int .i64 q.w.len) ∧ W.cell? ⟨w3.heap.size, 3, none⟩ = some (.int .i64 q.w.cap) ∧ W.cell? ⟨w3.heap.size, 4, none⟩ = some (.int .i64 q.first) ∧ W.cell? ⟨w3.heap.size, 5, none⟩ = some (.int .i64 q.many)) := Lib.hid fun W h => ring_cells h
      have HS := Lib.hid (HL.out _ (drew_block (ring_keep (q := w.heap.size + 1 + 1) (v0 := .int .i64 q.w.arr) (v1 := .int .i64 q.w.start) (v2 := .int .i64 q.w.len) (v3 := .int .i64 q.w.cap) (v4 := .int .i64 q.first) (v5 := .int .i64 q.many) HX5.out (by omega))))
      obtain ⟨k0, k1, k2, k3, k4, k5⟩ := HL.out w5.drew (drew_block HX5.out)
      obtain ⟨r0, r1, r2, r3, r4, r5⟩ := ring_cells HM5.out.res
      obtain ⟨f0, f1, f2, f3, f4, f5⟩ := ring_frozen HM5.out.res
      go_wp2_with fail
      go_region_held3 (fun W => W.cell? ⟨w3.heap.size, 0, none⟩ = some (.int .i64 q.w.arr) ∧ W.cell? ⟨w3.heap.size, 1, none⟩ = some (.int .i64 q.w.start) ∧ W.cell? ⟨w3.heap.size, 2, none⟩ = some (.int .i64 q.w.len) ∧ W.cell? ⟨w3.heap.size, 3, none⟩ = some (.int .i64 q.w.cap) ∧ W.cell? ⟨w3.heap.size, 4, none⟩ = some (.int .i64 q.first) ∧ W.cell? ⟨w3.heap.size, 5, none⟩ = some (.int .i64 q.many))
        (first | (with_reducible exact ⟨k0, k1, k2, k3, k4, k5⟩) | (with_reducible exact HS.out))
        (fail)
      all_goals (go_wp2_with fail)
      all_goals (refine bodyPost_ret (v := .tuple #[.int .u8 qb, .agg #[.int .i64 q.w.arr, .int .i64 q.w.start, .int .i64 q.w.len, .int .i64 q.w.cap, .int .i64 q.first, .int .i64 q.many], .bool true]) (by simp [results, Try.results78, go_sem, r0, r1, r2, r3, r4, r5]) rfl ⟨by rw [HV.out], ?_⟩)
      all_goals (repeat (first | (with_reducible exact Below.refl _ _) | (with_reducible refine Below.drew ?_) | ((with_reducible refine Below.alloc ?_ ?hB _); case hB => (first | (with_reducible exact Nat.le_refl _) | omega | (simp; done) | (simp; omega))) | ((with_reducible refine Below.setCell ?_ ?hB _); case hB => (first | (with_reducible exact Nat.le_refl _) | omega | (simp; done) | (simp; omega)))))
      all_goals exact HB5.out
  · have hd : decide (RgOK m r) = false := decide_eq_false hok
    have HV : Hid (popR m r q j = (0, zeroRg, false)) := Lib.hid (by rw [popR, if_neg (fun h => hok h.1)])
    clear hok
    go_wp2_with fail
    refine bodyPost_ret (v := .tuple #[.int .u8 0, .agg #[.int .i64 0, .int .i64 0, .int .i64 0, .int .i64 0, .int .i64 0, .int .i64 0], .bool false]) (by simp [results, Try.results78, go_sem, r0, r1, r2, r3, r4, r5]) rfl ⟨by rw [HV.out]; rfl, by (repeat (first | (with_reducible exact Below.refl _ _) | (with_reducible refine Below.drew ?_) | ((with_reducible refine Below.alloc ?_ ?hB _); case hB => (first | (with_reducible exact Nat.le_refl _) | omega | (simp; done) | (simp; omega))) | ((with_reducible refine Below.setCell ?_ ?hB _); case hB => (first | (with_reducible exact Nat.le_refl _) | omega | (simp; done) | (simp; omega))))); exact HB2.out⟩

set_option maxRecDepth 100000 in
set_option maxHeartbeats 1600000 in
theorem implPopFront_calls (A : Option Addr) (cm : Nat) (m : List (List Int)) (r : Rg) (w : World) (hr : Rd2 w w.heap.size A m) (hn : m.length ≤ maxLen) (hx : RArg r) :
    Calls Try.prog 39 #[.agg #[.slice A m.length cm], .agg #[.int .i64 r.w.arr, .int .i64 r.w.start, .int .i64 r.w.len, .int .i64 r.w.cap, .int .i64 r.first, .int .i64 r.many]] w fun e w' => e = .returned (.tuple #[.int .u8 (popFrontR m r).1, .agg #[.int .i64 (popFrontR m r).2.1.w.arr, .int .i64 (popFrontR m r).2.1.w.start, .int .i64 (popFrontR m r).2.1.w.len, .int .i64 (popFrontR m r).2.1.w.cap, .int .i64 (popFrontR m r).2.1.first, .int .i64 (popFrontR m r).2.1.many], .bool (popFrontR m r).2.2]) ∧ Below w.heap.size w w' := by
  obtain ⟨w0, hw0, hb0, hz0, hmr⟩ := enterMRR A m.length cm r w
  have hv : popFrontR m r = popR m r ⟨r.w, slotR r 1, r.many - 1⟩ (r.first) := by
    unfold popFrontR popR
    by_cases h : RgOK m r ∧ 0 < r.many
    · rw [if_pos h, if_pos h, elR_at, slot0 h.1]
    · rw [if_neg h, if_neg h]
  have HC := Lib.hid (implPopF_calls ⟨r.w, slotR r 1, r.many - 1⟩ (r.first) A cm m r w0 ((hr.below hb0).more hb0.size) hn hx (fun ho hp => ⟨fun W => poppedFront_calls m r W ho, ho.2.2.1, by have := ho.2.2.2.1; omega⟩))
  rw [← hv] at HC
  have HB := Lib.hid hb0
  have HW := Lib.hid hw0
  have HMR := Lib.hid hmr
  obtain ⟨z, q, p, hform⟩ : ∃ z q p, popFrontR m r = (z, q, p) := ⟨_, _, _, rfl⟩
  rw [hform] at HC ⊢
  have c0 := one_cell hmr.mr.mem
  obtain ⟨a0, a1, a2, a3, a4, a5⟩ := ring_cells hmr.mr.ring
  clear hr hb0 hmr hw0 hv hform
  go_enter Try.func39, Try.ntmps39
  go_wp2_with fail
  rw [HW.out]
  refine HC.out.mono ?_
  rintro e w2 ⟨rfl, hb2⟩
  have HB2 := Lib.hid (HB.out.trans (hb2.mono HB.out.size))
  obtain ⟨r0, r1, r2, r3, r4, r5⟩ := ring_cells (HMR.out.below hb2).res
  obtain ⟨f0, f1, f2, f3, f4, f5⟩ := ring_frozen (HMR.out.below hb2).res
  clear hb2 c0 a0 a1 a2 a3 a4 a5
  go_wp2_with fail
  refine bodyPost_ret (v := .tuple #[.int .u8 z, .agg #[.int .i64 q.w.arr, .int .i64 q.w.start, .int .i64 q.w.len, .int .i64 q.w.cap, .int .i64 q.first, .int .i64 q.many], .bool p]) (by simp [results, Try.results39, go_sem, r0, r1, r2, r3, r4, r5]) rfl ⟨rfl, ?_⟩
  (repeat (first | (with_reducible exact Below.refl _ _) | (with_reducible refine Below.drew ?_) | ((with_reducible refine Below.alloc ?_ ?hB _); case hB => (first | (with_reducible exact Nat.le_refl _) | omega | (simp; done) | (simp; omega))) | ((with_reducible refine Below.setCell ?_ ?hB _); case hB => (first | (with_reducible exact Nat.le_refl _) | omega | (simp; done) | (simp; omega)))))
  exact HB2.out

set_option maxRecDepth 100000 in
set_option maxHeartbeats 1600000 in
theorem implPopBack_calls (A : Option Addr) (cm : Nat) (m : List (List Int)) (r : Rg) (w : World) (hr : Rd2 w w.heap.size A m) (hn : m.length ≤ maxLen) (hx : RArg r) :
    Calls Try.prog 41 #[.agg #[.slice A m.length cm], .agg #[.int .i64 r.w.arr, .int .i64 r.w.start, .int .i64 r.w.len, .int .i64 r.w.cap, .int .i64 r.first, .int .i64 r.many]] w fun e w' => e = .returned (.tuple #[.int .u8 (popBackR m r).1, .agg #[.int .i64 (popBackR m r).2.1.w.arr, .int .i64 (popBackR m r).2.1.w.start, .int .i64 (popBackR m r).2.1.w.len, .int .i64 (popBackR m r).2.1.w.cap, .int .i64 (popBackR m r).2.1.first, .int .i64 (popBackR m r).2.1.many], .bool (popBackR m r).2.2]) ∧ Below w.heap.size w w' := by
  obtain ⟨w0, hw0, hb0, hz0, hmr⟩ := enterMRR A m.length cm r w
  have hv : popBackR m r = popR m r ⟨r.w, r.first, r.many - 1⟩ (slotR r (r.many - 1)) := by
    unfold popBackR popR
    by_cases h : RgOK m r ∧ 0 < r.many
    · rw [if_pos h, if_pos h, elR_at]
    · rw [if_neg h, if_neg h]
  have HC := Lib.hid (implPopB_calls ⟨r.w, r.first, r.many - 1⟩ (slotR r (r.many - 1)) A cm m r w0 ((hr.below hb0).more hb0.size) hn hx (fun ho hp => ⟨fun W => poppedBack_calls m r W ho hp, slotR_lt ho (by omega)⟩))
  rw [← hv] at HC
  have HB := Lib.hid hb0
  have HW := Lib.hid hw0
  have HMR := Lib.hid hmr
  obtain ⟨z, q, p, hform⟩ : ∃ z q p, popBackR m r = (z, q, p) := ⟨_, _, _, rfl⟩
  rw [hform] at HC ⊢
  have c0 := one_cell hmr.mr.mem
  obtain ⟨a0, a1, a2, a3, a4, a5⟩ := ring_cells hmr.mr.ring
  clear hr hb0 hmr hw0 hv hform
  go_enter Try.func41, Try.ntmps41
  go_wp2_with fail
  rw [HW.out]
  refine HC.out.mono ?_
  rintro e w2 ⟨rfl, hb2⟩
  have HB2 := Lib.hid (HB.out.trans (hb2.mono HB.out.size))
  obtain ⟨r0, r1, r2, r3, r4, r5⟩ := ring_cells (HMR.out.below hb2).res
  obtain ⟨f0, f1, f2, f3, f4, f5⟩ := ring_frozen (HMR.out.below hb2).res
  clear hb2 c0 a0 a1 a2 a3 a4 a5
  go_wp2_with fail
  refine bodyPost_ret (v := .tuple #[.int .u8 z, .agg #[.int .i64 q.w.arr, .int .i64 q.w.start, .int .i64 q.w.len, .int .i64 q.w.cap, .int .i64 q.first, .int .i64 q.many], .bool p]) (by simp [results, Try.results41, go_sem, r0, r1, r2, r3, r4, r5]) rfl ⟨rfl, ?_⟩
  (repeat (first | (with_reducible exact Below.refl _ _) | (with_reducible refine Below.drew ?_) | ((with_reducible refine Below.alloc ?_ ?hB _); case hB => (first | (with_reducible exact Nat.le_refl _) | omega | (simp; done) | (simp; omega))) | ((with_reducible refine Below.setCell ?_ ?hB _); case hB => (first | (with_reducible exact Nat.le_refl _) | omega | (simp; done) | (simp; omega)))))
  exact HB2.out
end Go.Proofs.Ytlioamjmkaaooaa
