/-
  RingParts of spec and impl.
-/
import Derived.Test.YtlioamjmkaaooaaRgK
import Derived.Deep.DeepCutAuto
namespace Go.Proofs.Ytlioamjmkaaooaa
open Go.RowKit

/-- A memory, a ring and the answer's two blocks, windows that are zero as yet. -/
structure MRV (W : World) (g : Nat) (A : Option Addr) (n c : Nat) (r : Rg) : Prop where
  mr : MR W g A n c r
  res : W.heap[g + 1 + 1]? = some (.cells #[.int .i64 0, .int .i64 0, .int .i64 0, .int .i64 0] 34)
  res2 : W.heap[g + 1 + 1 + 1]? = some (.cells #[.int .i64 0, .int .i64 0, .int .i64 0, .int .i64 0] 34)
theorem MRV.below {W W' : World} {g : Nat} {A : Option Addr} {n c : Nat} {r : Rg} (h : MRV W g A n c r) (hb : Below W.heap.size W W') : MRV W' g A n c r :=
  ⟨h.mr.below hb, (hb.block _ (Array.getElem?_eq_some_iff.1 h.res).1).trans h.res, (hb.block _ (Array.getElem?_eq_some_iff.1 h.res2).1).trans h.res2⟩
theorem enterMRV (A : Option Addr) (n c : Nat) (r : Rg) (w : World) :
    ∃ w0, (((w.alloc (.cells #[.slice A n c] 32)).alloc (.cells #[.int .i64 r.w.arr, .int .i64 r.w.start, .int .i64 r.w.len, .int .i64 r.w.cap, .int .i64 r.first, .int .i64 r.many] 36)).alloc (.cells #[.int .i64 0, .int .i64 0, .int .i64 0, .int .i64 0] 34)).alloc (.cells #[.int .i64 0, .int .i64 0, .int .i64 0, .int .i64 0] 34) = w0 ∧ Below w.heap.size w w0 ∧ w0.heap.size = w.heap.size + 4 ∧ MRV w0 w.heap.size A n c r := by
  obtain ⟨h1, h2, h3, h4, h5⟩ := enter3 w (.cells #[.slice A n c] 32) (.cells #[.int .i64 r.w.arr, .int .i64 r.w.start, .int .i64 r.w.len, .int .i64 r.w.cap, .int .i64 r.first, .int .i64 r.many] 36) (.cells #[.int .i64 0, .int .i64 0, .int .i64 0, .int .i64 0] 34)
  exact ⟨_, rfl, h1.alloc (by omega) _, by rw [World.size_alloc, h5], ⟨alloc_old _ h2, alloc_old _ h3⟩, alloc_old _ h4, heap_alloc_at2 (by omega)⟩
theorem win_put4 {wx : World} {q : Nat} {u0 u1 u2 u3 v0 v1 v2 v3 : Value} {t : TypeId} (h : wx.heap[q]? = some (.cells #[u0, u1, u2, u3] t)) :
    ((((wx.setCell ⟨q, 0, none⟩ v0).setCell ⟨q, 1, none⟩ v1).setCell ⟨q, 2, none⟩ v2).setCell ⟨q, 3, none⟩ v3).heap[q]? = some (.cells #[v0, v1, v2, v3] t) := by
  have h5 := ring_put (i := 3) (v := v3) (ring_put (i := 2) (v := v2) (ring_put (i := 1) (v := v1) (ring_put (i := 0) (v := v0) h)))
  simpa using h5
theorem win_keep {wx : World} {q j : Nat} {o : Obj} {v0 v1 v2 v3 : Value} (h : wx.heap[j]? = some o) (hj : j ≠ q) : ((((wx.setCell ⟨q, 0, none⟩ v0).setCell ⟨q, 1, none⟩ v1).setCell ⟨q, 2, none⟩ v2).setCell ⟨q, 3, none⟩ v3).heap[j]? = some o := by
  rw [Below.heap_setCell _ _ _ _ hj, Below.heap_setCell _ _ _ _ hj, Below.heap_setCell _ _ _ _ hj, Below.heap_setCell _ _ _ _ hj]; exact h
theorem least_calls (a b : Int) (w : World) : Calls Try.prog 81 #[.int .i64 a, .int .i64 b] w fun e w' => e = .returned (.int .i64 (min a b)) ∧ w' = w := by
  by_cases h : a < b
  · go_enter Try.func81, Try.ntmps81
    go_wp2_with fail
    go_ret
    exact ⟨by rw [show min a b = a by omega]; rfl, rfl⟩
  · go_enter Try.func81, Try.ntmps81
    go_wp2_with fail
    go_ret
    exact ⟨by rw [show min a b = b by omega]; rfl, rfl⟩

set_option maxRecDepth 100000 in
set_option maxHeartbeats 3200000 in
theorem specRingParts_calls (A : Option Addr) (cm : Nat) (m : List (List Int)) (r : Rg) (w : World) (hr : Rd2 w w.heap.size A m) (hn : m.length ≤ maxLen) :
    Calls Try.prog 42 #[.agg #[.slice A m.length cm], .agg #[.int .i64 r.w.arr, .int .i64 r.w.start, .int .i64 r.w.len, .int .i64 r.w.cap, .int .i64 r.first, .int .i64 r.many]] w fun e w' => e = .returned (.tuple #[.agg #[.int .i64 (partsR m r).1.arr, .int .i64 (partsR m r).1.start, .int .i64 (partsR m r).1.len, .int .i64 (partsR m r).1.cap], .agg #[.int .i64 (partsR m r).2.1.arr, .int .i64 (partsR m r).2.1.start, .int .i64 (partsR m r).2.1.len, .int .i64 (partsR m r).2.1.cap], .bool (partsR m r).2.2]) ∧ Below w.heap.size w w' := by
  obtain ⟨w0, hw0, hb0, hz0, hmr⟩ := enterMRV A m.length cm r w
  have HC := Lib.hid (specRing_calls A cm m r w0 ((hr.below hb0).more hb0.size) hn)
  have HR := Lib.hid hr
  have HB := Lib.hid hb0
  have HW := Lib.hid hw0
  have HMR := Lib.hid hmr
  have c0 := one_cell hmr.mr.mem
  obtain ⟨a0, a1, a2, a3, a4, a5⟩ := ring_cells hmr.mr.ring
  clear hr hb0 hmr hw0
  go_enter Try.func42, Try.ntmps42
  go_wp2_with fail
  rw [HW.out]
  refine HC.out.mono ?_
  rintro e w2 ⟨rfl, hb2⟩
  have HB2 := Lib.hid (HB.out.trans (hb2.mono HB.out.size))
  have HM2 := Lib.hid (HMR.out.below hb2)
  clear hb2 c0 a0 a1 a2 a3 a4 a5
  obtain ⟨r0, r1, r2, r3⟩ := four_cells HM2.out.res
  obtain ⟨f0, f1, f2, f3⟩ := four_frozen HM2.out.res
  obtain ⟨q0, q1, q2, q3⟩ := four_cells HM2.out.res2
  obtain ⟨g0, g1, g2, g3⟩ := four_frozen HM2.out.res2
  have c0 := one_cell HM2.out.mr.mem
  obtain ⟨a0, a1, a2, a3, a4, a5⟩ := ring_cells HM2.out.mr.ring
  by_cases hok : RgOK m r
  · have hd : decide (RgOK m r) = true := decide_eq_true hok
    have HOK := Lib.hid hok
    obtain ⟨_, _, hs0, hs1, hl0, hl1, hc0, hc1, hlc, _⟩ := hok.1.small
    obtain ⟨_, h1, h2, h3, h4, h5⟩ := hok
    have hkk : 0 ≤ min r.many (r.w.len - r.first) ∧ min r.many (r.w.len - r.first) ≤ r.many ∧ min r.many (r.w.len - r.first) ≤ r.w.len - r.first := by omega
    have HV : Hid (partsR m r = (⟨r.w.arr, r.w.start + r.first, min r.many (r.w.len - r.first), min r.many (r.w.len - r.first)⟩, ⟨r.w.arr, r.w.start, r.many - min r.many (r.w.len - r.first), r.many - min r.many (r.w.len - r.first)⟩, true)) := Lib.hid (by rw [partsR, if_pos HOK.out])
    have HLE := Lib.hid (least_calls r.many (r.w.len - r.first) w2)
    generalize min r.many (r.w.len - r.first) = k at *
    have HS1 := Lib.hid (specSlice_calls r.w.arr r.w.start r.w.len r.w.cap r.first (r.first + k) (r.first + k) w2 (by omega) (by omega) (by omega) (by omega))
    rw [show r.first + k - r.first = k by omega] at HS1
    go_wp2_with fail
    refine HLE.out.mono ?_
    rintro e w2b ⟨rfl, rfl⟩
    go_wp2_with fail
    refine HS1.out.mono ?_
    rintro e w3 ⟨rfl, hb3⟩
    have HM3 := Lib.hid (HM2.out.below hb3)
    have HB3 := Lib.hid (HB2.out.trans (hb3.mono HB2.out.size))
    obtain ⟨w4, hw4⟩ : ∃ w4, w3.alloc (.cells #[.int .i64 r.w.arr, .int .i64 (r.w.start + r.first), .int .i64 k, .int .i64 k] 34) = w4 := ⟨_, rfl⟩
    have hb4 : Below w3.heap.size w3 w4 := by rw [← hw4]; exact (Below.refl _ _).alloc (Nat.le_refl _) _
    have HX4 := Lib.hid (show w4.heap[w3.heap.size]? = some (.cells #[.int .i64 r.w.arr, .int .i64 (r.w.start + r.first), .int .i64 k, .int .i64 k] 34) by rw [← hw4]; exact heap_alloc_new _ _)
    have HB4 := Lib.hid (HB3.out.trans (hb4.mono HB3.out.size))
    have HM4 := Lib.hid (HM3.out.below hb4)
    have HW4 := Lib.hid hw4
    have HS2 := Lib.hid (fun W => specSlice_calls r.w.arr r.w.start r.w.len r.w.cap 0 (r.many - k) (r.many - k) W (by omega) (by omega) (by omega) (by omega))
    rw [show r.w.start + 0 = r.w.start by omega, show r.many - k - 0 = r.many - k by omega] at HS2
    have hlt := (Array.getElem?_eq_some_iff.1 HM3.out.res2).1
    clear hb3 hb4 hw4 c0 a0 a1 a2 a3 a4 a5 r0 r1 r2 r3 f0 f1 f2 f3 q0 q1 q2 q3 g0 g1 g2 g3
    have hwk : IntKind.i64.wrap (r.many - k) = r.many - k := by simp [IntKind.wrap, IntKind.bits, IntKind.signed]; omega
    have HK : Hid (∀ W, Below w4.heap.size w4 W → (W.cell? ⟨w3.heap.size, 0, none⟩ = some (.int .i64 r.w.arr) ∧ W.cell? ⟨w3.heap.size, 1, none⟩ = some (.int .i64 (r.w.start + r.first)) ∧ W.cell? ⟨w3.heap.size, 2, none⟩ = some (.int .i64 k) ∧ W.cell? ⟨w3.heap.size, 3, none⟩ = some (.int .i64 k)) ∧ W.cell? ⟨w.heap.size + 1, 0, none⟩ = some (.int .i64 r.w.arr) ∧ W.cell? ⟨w.heap.size + 1, 1, none⟩ = some (.int .i64 r.w.start) ∧ W.cell? ⟨w.heap.size + 1, 2, none⟩ = some (.int .i64 r.w.len) ∧ W.cell? ⟨w.heap.size + 1, 3, none⟩ = some (.int .i64 r.w.cap) ∧ W.cell? ⟨w.heap.size + 1, 4, none⟩ = some (.int .i64 r.first) ∧ W.cell? ⟨w.heap.size + 1, 5, none⟩ = some (.int .i64 r.many)) := Lib.hid fun W h => ⟨four_cells ((h.block _ (Array.getElem?_eq_some_iff.1 HX4.out).1).trans HX4.out), ring_cells (HM4.out.below h).mr.ring⟩
    have HL : Hid (∀ W : World, W.heap[w3.heap.size]? = some (.cells #[.int .i64 r.w.arr, .int .i64 (r.w.start + r.first), .int .i64 k, .int .i64 k] 34) → W.heap[w.heap.size + 1]? = some (.cells #[.int .i64 r.w.arr, .int .i64 r.w.start, .int .i64 r.w.len, .int .i64 r.w.cap, .int .i64 r.first, .int .i64 r.many] 36) → (W.cell? ⟨w3.heap.size, 0, none⟩ = some (.int .i64 r.w.arr) ∧ W.cell? ⟨w3.heap.size, 1, none⟩ = some (.int .i64 (r.w.start + r.first)) ∧ W.cell? ⟨w3.heap.size, 2, none⟩ = some (.int .i64 k) ∧ W.cell? ⟨w3.heap.size, 3, none⟩ = some (.int .i64 k)) ∧ W.cell? ⟨w.heap.size + 1, 0, none⟩ = some (.int .i64 r.w.arr) ∧ W.cell? ⟨w.heap.size + 1, 1, none⟩ = some (.int .i64 r.w.start) ∧ W.cell? ⟨w.heap.size + 1, 2, none⟩ = some (.int .i64 r.w.len) ∧ W.cell? ⟨w.heap.size + 1, 3, none⟩ = some (.int .i64 r.w.cap) ∧ W.cell? ⟨w.heap.size + 1, 4, none⟩ = some (.int .i64 r.first) ∧ W.cell? ⟨w.heap.size + 1, 5, none⟩ = some (.int .i64 r.many)) := Lib.hid fun W h h' => ⟨four_cells h, ring_cells h'⟩
    have HY4 : Hid (∀ W, Below w4.heap.size w4 W → W.heap[w3.heap.size]? = some (.cells #[.int .i64 r.w.arr, .int .i64 (r.w.start + r.first), .int .i64 k, .int .i64 k] 34)) := Lib.hid fun W h => (h.block _ (Array.getElem?_eq_some_iff.1 HX4.out).1).trans HX4.out
    go_upto_region 5 with fail
    rw [HW4.out]
    obtain ⟨⟨k0, k1, k2, k3⟩, a0, a1, a2, a3, a4, a5⟩ := HK.out w4.drew (Below.refl _ _).drew
    go_region_held3 (fun W => (W.cell? ⟨w3.heap.size, 0, none⟩ = some (.int .i64 r.w.arr) ∧ W.cell? ⟨w3.heap.size, 1, none⟩ = some (.int .i64 (r.w.start + r.first)) ∧ W.cell? ⟨w3.heap.size, 2, none⟩ = some (.int .i64 k) ∧ W.cell? ⟨w3.heap.size, 3, none⟩ = some (.int .i64 k)) ∧ W.cell? ⟨w.heap.size + 1, 0, none⟩ = some (.int .i64 r.w.arr) ∧ W.cell? ⟨w.heap.size + 1, 1, none⟩ = some (.int .i64 r.w.start) ∧ W.cell? ⟨w.heap.size + 1, 2, none⟩ = some (.int .i64 r.w.len) ∧ W.cell? ⟨w.heap.size + 1, 3, none⟩ = some (.int .i64 r.w.cap) ∧ W.cell? ⟨w.heap.size + 1, 4, none⟩ = some (.int .i64 r.first) ∧ W.cell? ⟨w.heap.size + 1, 5, none⟩ = some (.int .i64 r.many))
      (first | (with_reducible exact ⟨⟨k0, k1, k2, k3⟩, a0, a1, a2, a3, a4, a5⟩) | (with_reducible exact HK.out _ hc5) | exact HL.out _ (win_keep (HY4.out _ hc5) (by omega)) (win_keep (HM4.out.below hc5).mr.ring (by omega)) | exact HL.out _ (win_keep (win_keep (HY4.out _ hc5) (by omega)) (by omega)) (win_keep (win_keep (HM4.out.below hc5).mr.ring (by omega)) (by omega)))
      (first | (go_at_call 82; (with_reducible refine (HS2.out w4.drew).mono ?_); rintro e w5 ⟨rfl, hb5⟩; have hc5 : Below w4.heap.size w4 w5 := (Below.refl _ _).drew.trans hb5; obtain ⟨r0, r1, r2, r3⟩ := four_cells (HM4.out.below hc5).res; obtain ⟨f0, f1, f2, f3⟩ := four_frozen (HM4.out.below hc5).res; obtain ⟨q0, q1, q2, q3⟩ := four_cells (HM4.out.below hc5).res2; obtain ⟨g0, g1, g2, g3⟩ := four_frozen (HM4.out.below hc5).res2))
    all_goals (go_wp2_with fail)
    all_goals (refine bodyPost_ret (v := .tuple #[.agg #[.int .i64 r.w.arr, .int .i64 (r.w.start + r.first), .int .i64 k, .int .i64 k], .agg #[.int .i64 r.w.arr, .int .i64 r.w.start, .int .i64 (r.many - k), .int .i64 (r.many - k)], .bool true]) (by simp [results, Try.results42, go_sem, r0, r1, r2, r3, q0, q1, q2, q3]) rfl ⟨by rw [HV.out], ?_⟩)
    all_goals (repeat (first | (with_reducible exact Below.refl _ _) | (with_reducible refine Below.drew ?_) | ((with_reducible refine Below.alloc ?_ ?hB _); case hB => (first | (with_reducible exact Nat.le_refl _) | omega | (simp; done) | (simp; omega))) | ((with_reducible refine Below.setCell ?_ ?hB _); case hB => (first | (with_reducible exact Nat.le_refl _) | omega | (simp; done) | (simp; omega)))))
    all_goals exact HB4.out.trans (hc5.mono HB4.out.size)
  · have hd : decide (RgOK m r) = false := decide_eq_false hok
    have HV : Hid (partsR m r = (⟨0, 0, 0, 0⟩, ⟨0, 0, 0, 0⟩, false)) := Lib.hid (by rw [partsR, if_neg hok])
    clear hok
    go_wp2_with fail
    refine bodyPost_ret (v := .tuple #[.agg #[.int .i64 0, .int .i64 0, .int .i64 0, .int .i64 0], .agg #[.int .i64 0, .int .i64 0, .int .i64 0, .int .i64 0], .bool false]) (by simp [results, Try.results42, go_sem, r0, r1, r2, r3, q0, q1, q2, q3]) rfl ⟨by rw [HV.out], by (repeat (first | (with_reducible exact Below.refl _ _) | (with_reducible refine Below.drew ?_) | ((with_reducible refine Below.alloc ?_ ?hB _); case hB => (first | (with_reducible exact Nat.le_refl _) | omega | (simp; done) | (simp; omega))) | ((with_reducible refine Below.setCell ?_ ?hB _); case hB => (first | (with_reducible exact Nat.le_refl _) | omega | (simp; done) | (simp; omega))))); exact HB2.out⟩

set_option maxRecDepth 100000 in
set_option maxHeartbeats 3200000 in
theorem implRingParts_calls (A : Option Addr) (cm : Nat) (m : List (List Int)) (r : Rg) (w : World) (hr : Rd2 w w.heap.size A m) (hn : m.length ≤ maxLen) (hx : RArg r) :
    Calls Try.prog 43 #[.agg #[.slice A m.length cm], .agg #[.int .i64 r.w.arr, .int .i64 r.w.start, .int .i64 r.w.len, .int .i64 r.w.cap, .int .i64 r.first, .int .i64 r.many]] w fun e w' => e = .returned (.tuple #[.agg #[.int .i64 (partsR m r).1.arr, .int .i64 (partsR m r).1.start, .int .i64 (partsR m r).1.len, .int .i64 (partsR m r).1.cap], .agg #[.int .i64 (partsR m r).2.1.arr, .int .i64 (partsR m r).2.1.start, .int .i64 (partsR m r).2.1.len, .int .i64 (partsR m r).2.1.cap], .bool (partsR m r).2.2]) ∧ Below w.heap.size w w' := by
  obtain ⟨w0, hw0, hb0, hz0, hmr⟩ := enterMRV A m.length cm r w
  have HC := Lib.hid (implRing_calls A cm m r w0 ((hr.below hb0).more hb0.size) hn hx)
  have HR := Lib.hid hr
  have HB := Lib.hid hb0
  have HW := Lib.hid hw0
  have HMR := Lib.hid hmr
  have c0 := one_cell hmr.mr.mem
  obtain ⟨a0, a1, a2, a3, a4, a5⟩ := ring_cells hmr.mr.ring
  clear hr hb0 hmr hw0
  go_enter Try.func43, Try.ntmps43
  go_wp2_with fail
  rw [HW.out]
  refine HC.out.mono ?_
  rintro e w2 ⟨rfl, hb2⟩
  have HB2 := Lib.hid (HB.out.trans (hb2.mono HB.out.size))
  have HM2 := Lib.hid (HMR.out.below hb2)
  clear hb2 c0 a0 a1 a2 a3 a4 a5
  obtain ⟨r0, r1, r2, r3⟩ := four_cells HM2.out.res
  obtain ⟨f0, f1, f2, f3⟩ := four_frozen HM2.out.res
  obtain ⟨q0, q1, q2, q3⟩ := four_cells HM2.out.res2
  obtain ⟨g0, g1, g2, g3⟩ := four_frozen HM2.out.res2
  have c0 := one_cell HM2.out.mr.mem
  obtain ⟨a0, a1, a2, a3, a4, a5⟩ := ring_cells HM2.out.mr.ring
  by_cases hok : RgOK m r
  · have hd : decide (RgOK m r) = true := decide_eq_true hok
    have HOK := Lib.hid hok
    obtain ⟨_, _, hs0, hs1, hl0, hl1, hc0, hc1, hlc, _⟩ := hok.1.small
    obtain ⟨_, h1, h2, h3, h4, h5⟩ := hok
    have hkk : 0 ≤ min r.many (r.w.len - r.first) ∧ min r.many (r.w.len - r.first) ≤ r.many ∧ min r.many (r.w.len - r.first) ≤ r.w.len - r.first := by omega
    have HV : Hid (partsR m r = (⟨r.w.arr, r.w.start + r.first, min r.many (r.w.len - r.first), min r.many (r.w.len - r.first)⟩, ⟨r.w.arr, r.w.start, r.many - min r.many (r.w.len - r.first), r.many - min r.many (r.w.len - r.first)⟩, true)) := Lib.hid (by rw [partsR, if_pos HOK.out])
    obtain ⟨k, hk⟩ : ∃ k, k = min r.many (r.w.len - r.first) := ⟨_, rfl⟩
    rw [← hk] at HV hkk
    have HKE := Lib.hid hk
    have HSV1 : Hid (∀ E, E - r.first = k → sliceV m r.w r.first E E = .tuple #[.agg #[.int .i64 r.w.arr, .int .i64 (r.w.start + r.first), .int .i64 k, .int .i64 k], .bool true]) := Lib.hid fun E hE => by
      rw [sliceV, if_pos ⟨HOK.out.1, by omega, by omega, by omega, by omega⟩, hE]
    have HSV2 : Hid (∀ X, X = r.many - k → sliceV m r.w 0 X X = .tuple #[.agg #[.int .i64 r.w.arr, .int .i64 r.w.start, .int .i64 (r.many - k), .int .i64 (r.many - k)], .bool true]) := Lib.hid fun X hX => by
      rw [sliceV, if_pos ⟨HOK.out.1, by omega, by omega, by omega, by omega⟩, show r.w.start + 0 = r.w.start by omega, show X - 0 = X by omega, hX]
    have HSC : Hid (∀ W, Below w.heap.size w W → ∀ i j l, Calls Try.prog 83 #[.agg #[.slice A m.length cm], .agg #[.int .i64 r.w.arr, .int .i64 r.w.start, .int .i64 r.w.len, .int .i64 r.w.cap], .int .i64 i, .int .i64 j, .int .i64 l] W fun e w' => e = .returned (sliceV m r.w i j l) ∧ Below W.heap.size W w') := Lib.hid fun W hb i j l => implSliceThree_calls A cm m r.w i j l W ((HR.out.below hb).more hb.size) hn hx.1
    clear hk
    go_wp2_with fail
    all_goals
      (refine (HSC.out w2 HB2.out _ _ _).mono ?_
       rintro e w3 ⟨rfl, hb3⟩
       rw [HSV1.out _ (by have := HKE.out; omega)]
       have HM3 := Lib.hid (HM2.out.below hb3)
       have HB3 := Lib.hid (HB2.out.trans (hb3.mono HB2.out.size))
       obtain ⟨w4, hw4⟩ : ∃ w4, w3.alloc (.cells #[.int .i64 r.w.arr, .int .i64 (r.w.start + r.first), .int .i64 k, .int .i64 k] 34) = w4 := ⟨_, rfl⟩
       have hb4 : Below w3.heap.size w3 w4 := by rw [← hw4]; exact (Below.refl _ _).alloc (Nat.le_refl _) _
       have HX4 := Lib.hid (show w4.heap[w3.heap.size]? = some (.cells #[.int .i64 r.w.arr, .int .i64 (r.w.start + r.first), .int .i64 k, .int .i64 k] 34) by rw [← hw4]; exact heap_alloc_new _ _)
       have HB4 := Lib.hid (HB3.out.trans (hb4.mono HB3.out.size))
       have HM4 := Lib.hid (HM3.out.below hb4)
       have HW4 := Lib.hid hw4
       have hlt := (Array.getElem?_eq_some_iff.1 HM3.out.res2).1
       clear hb3 hb4 hw4 c0 a0 a1 a2 a3 a4 a5 r0 r1 r2 r3 f0 f1 f2 f3 q0 q1 q2 q3 g0 g1 g2 g3
       have c0 := one_cell HM4.out.mr.mem
       obtain ⟨a0, a1, a2, a3, a4, a5⟩ := ring_cells HM4.out.mr.ring
       go_upto_region 6 with fail
       rw [HW4.out]
       go_wp2_with fail
       refine (HSC.out w4 HB4.out _ _ _).mono ?_
       rintro e w5 ⟨rfl, hb5⟩
       rw [HSV2.out _ (by have := HKE.out; omega)]
       have HM5 := Lib.hid (HM4.out.below hb5)
       have HB5 := Lib.hid (HB4.out.trans (hb5.mono HB4.out.size))
       have HX5 := Lib.hid ((hb5.block _ (Array.getElem?_eq_some_iff.1 HX4.out).1).trans HX4.out)
       obtain ⟨w6, hw6⟩ : ∃ w6, w5.alloc (.cells #[.int .i64 r.w.arr, .int .i64 r.w.start, .int .i64 (r.many - k), .int .i64 (r.many - k)] 34) = w6 := ⟨_, rfl⟩
       have hb6 : Below w5.heap.size w5 w6 := by rw [← hw6]; exact (Below.refl _ _).alloc (Nat.le_refl _) _
       have HY6 := Lib.hid (show w6.heap[w5.heap.size]? = some (.cells #[.int .i64 r.w.arr, .int .i64 r.w.start, .int .i64 (r.many - k), .int .i64 (r.many - k)] 34) by rw [← hw6]; exact heap_alloc_new _ _)
       have HX6 := Lib.hid ((hb6.block _ (Array.getElem?_eq_some_iff.1 HX5.out).1).trans HX5.out)
       have HB6 := Lib.hid (HB5.out.trans (hb6.mono HB5.out.size))
       have HM6 := Lib.hid (HM5.out.below hb6)
       have HW6 := Lib.hid hw6
       have hlt2 := (Array.getElem?_eq_some_iff.1 HM5.out.res2).1
       clear hb5 hb6 hw6 c0 a0 a1 a2 a3 a4 a5
       have HL : Hid (∀ W : World, W.heap[w3.heap.size]? = some (.cells #[.int .i64 r.w.arr, .int .i64 (r.w.start + r.first), .int .i64 k, .int .i64 k] 34) → W.heap[w5.heap.size]? = some (.cells #[.int .i64 r.w.arr, .int .i64 r.w.start, .int .i64 (r.many - k), .int .i64 (r.many - k)] 34) → (W.cell? ⟨w3.heap.size, 0, none⟩ = some (.int .i64 r.w.arr) ∧ W.cell? ⟨w3.heap.size, 1, none⟩ = some (.int .i64 (r.w.start + r.first)) ∧ W.cell? ⟨w3.heap.size, 2, none⟩ = some (.int .i64 k) ∧ W.cell? ⟨w3.heap.size, 3, none⟩ = some (.int .i64 k)) ∧ (W.cell? ⟨w5.heap.size, 0, none⟩ = some (.int .i64 r.w.arr) ∧ W.cell? ⟨w5.heap.size, 1, none⟩ = some (.int .i64 r.w.start) ∧ W.cell? ⟨w5.heap.size, 2, none⟩ = some (.int .i64 (r.many - k)) ∧ W.cell? ⟨w5.heap.size, 3, none⟩ = some (.int .i64 (r.many - k)))) := Lib.hid fun W h h' => ⟨four_cells h, four_cells h'⟩
       have s1a := win_keep (q := w.heap.size + 1 + 1) (v0 := .int .i64 r.w.arr) (v1 := .int .i64 (r.w.start + r.first)) (v2 := .int .i64 k) (v3 := .int .i64 k) HX6.out (by omega)
       have s1b := win_keep (q := w.heap.size + 1 + 1) (v0 := .int .i64 r.w.arr) (v1 := .int .i64 (r.w.start + r.first)) (v2 := .int .i64 k) (v3 := .int .i64 k) HY6.out (by omega)
       have s2a := win_keep (q := w.heap.size + 1 + 1 + 1) (v0 := .int .i64 r.w.arr) (v1 := .int .i64 r.w.start) (v2 := .int .i64 (r.many - k)) (v3 := .int .i64 (r.many - k)) s1a (by omega)
       have s2b := win_keep (q := w.heap.size + 1 + 1 + 1) (v0 := .int .i64 r.w.arr) (v1 := .int .i64 r.w.start) (v2 := .int .i64 (r.many - k)) (v3 := .int .i64 (r.many - k)) s1b (by omega)
       have HS1 := Lib.hid (HL.out _ (drew_block s1a) (drew_block s1b))
       have HS2 := Lib.hid (HL.out _ (drew_block s2a) (drew_block s2b))
       obtain ⟨⟨k0, k1, k2, k3⟩, l0, l1, l2, l3⟩ := HL.out w6.drew (drew_block HX6.out) (drew_block HY6.out)
       obtain ⟨r0, r1, r2, r3⟩ := four_cells HM6.out.res
       obtain ⟨f0, f1, f2, f3⟩ := four_frozen HM6.out.res
       obtain ⟨q0, q1, q2, q3⟩ := four_cells HM6.out.res2
       obtain ⟨g0, g1, g2, g3⟩ := four_frozen HM6.out.res2
       clear s1a s1b s2a s2b
       go_upto_region 7 with fail
       rw [HW6.out]
       go_region_held3 (fun W => (W.cell? ⟨w3.heap.size, 0, none⟩ = some (.int .i64 r.w.arr) ∧ W.cell? ⟨w3.heap.size, 1, none⟩ = some (.int .i64 (r.w.start + r.first)) ∧ W.cell? ⟨w3.heap.size, 2, none⟩ = some (.int .i64 k) ∧ W.cell? ⟨w3.heap.size, 3, none⟩ = some (.int .i64 k)) ∧ (W.cell? ⟨w5.heap.size, 0, none⟩ = some (.int .i64 r.w.arr) ∧ W.cell? ⟨w5.heap.size, 1, none⟩ = some (.int .i64 r.w.start) ∧ W.cell? ⟨w5.heap.size, 2, none⟩ = some (.int .i64 (r.many - k)) ∧ W.cell? ⟨w5.heap.size, 3, none⟩ = some (.int .i64 (r.many - k))))
         (first | (with_reducible exact ⟨⟨k0, k1, k2, k3⟩, l0, l1, l2, l3⟩) | (with_reducible exact HS1.out) | (with_reducible exact HS2.out))
         (fail)
       all_goals (go_wp2_with fail)
       all_goals (refine bodyPost_ret (v := .tuple #[.agg #[.int .i64 r.w.arr, .int .i64 (r.w.start + r.first), .int .i64 k, .int .i64 k], .agg #[.int .i64 r.w.arr, .int .i64 r.w.start, .int .i64 (r.many - k), .int .i64 (r.many - k)], .bool true]) (by simp [results, Try.results43, go_sem, r0, r1, r2, r3, q0, q1, q2, q3]) rfl ⟨by rw [HV.out], ?_⟩)
       all_goals (repeat (first | (with_reducible exact Below.refl _ _) | (with_reducible refine Below.drew ?_) | ((with_reducible refine Below.alloc ?_ ?hB _); case hB => (first | (with_reducible exact Nat.le_refl _) | omega | (simp; done) | (simp; omega))) | ((with_reducible refine Below.setCell ?_ ?hB _); case hB => (first | (with_reducible exact Nat.le_refl _) | omega | (simp; done) | (simp; omega)))))
       all_goals exact HB6.out)
  · have hd : decide (RgOK m r) = false := decide_eq_false hok
    have HV : Hid (partsR m r = (⟨0, 0, 0, 0⟩, ⟨0, 0, 0, 0⟩, false)) := Lib.hid (by rw [partsR, if_neg hok])
    clear hok
    go_wp2_with fail
    refine bodyPost_ret (v := .tuple #[.agg #[.int .i64 0, .int .i64 0, .int .i64 0, .int .i64 0], .agg #[.int .i64 0, .int .i64 0, .int .i64 0, .int .i64 0], .bool false]) (by simp [results, Try.results43, go_sem, r0, r1, r2, r3, q0, q1, q2, q3]) rfl ⟨by rw [HV.out], by (repeat (first | (with_reducible exact Below.refl _ _) | (with_reducible refine Below.drew ?_) | ((with_reducible refine Below.alloc ?_ ?hB _); case hB => (first | (with_reducible exact Nat.le_refl _) | omega | (simp; done) | (simp; omega))) | ((with_reducible refine Below.setCell ?_ ?hB _); case hB => (first | (with_reducible exact Nat.le_refl _) | omega | (simp; done) | (simp; omega))))); exact HB2.out⟩
end Go.Proofs.Ytlioamjmkaaooaa
