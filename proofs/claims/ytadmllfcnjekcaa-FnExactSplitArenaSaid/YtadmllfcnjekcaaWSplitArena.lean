/-
  FnExactSplitArena: the walk.
-/
import Derived.Test.YtadmllfcnjekcaaArH
import Derived.Deep.DeepCutAuto
import Derived.Test.YtadmllfcnjekcaaArQ
import Derived.Test.YtadmllfcnjekcaaWinsL
namespace Go.Proofs.Ytadmllfcnjekcaa
open Go.RowKit

set_option maxRecDepth 100000 in
set_option maxHeartbeats 12800000 in
theorem fnExactSplitArena_walk (A : Option Addr) (len cap : Nat) (m : List (List Int)) (B : Option Addr) (kl kc : Nat) (g : An)    (w : World) (h : AArg w A len cap m B kl kc g)    :
    Calls Try.prog 15 #[.agg #[.slice A len cap, .int .i64 g.w.arr, .int .i64 g.w.start, .int .i64 g.w.len, .int .i64 g.w.cap, .int .i64 g.us, .slice B kl kc]] w fun e w' => e = .returned (.bool true) ∧ Below w.heap.size w w' := by
  obtain ⟨⟨rfl, h1, h2, hr0, hzz⟩, ⟨rfl, hk1, hk2, hrk, hkz⟩, hgw, hgu⟩ := h
  have hr : RdA w w.heap.size A B m g.ms := ⟨hr0, hrk⟩
  have hkl : g.ms.length ≤ maxLen := by omega
  have hg : AArgW g := ⟨hgw, hgu, hkl, hkz⟩
  clear hr0 hrk hgw hgu hkz
  obtain ⟨q0, q1, p2, hform⟩ : ∃ (q0 : Win) (q1 : Win) (p2 : Bool), splitA2R m g = (q0, q1, p2) := ⟨_, _, _, rfl⟩
  obtain ⟨w0, hw0⟩ : ∃ w0, (w.alloc (.cells #[.slice A m.length cap, .int .i64 g.w.arr, .int .i64 g.w.start, .int .i64 g.w.len, .int .i64 g.w.cap, .int .i64 g.us, .slice B g.ms.length kc] 29)) = w0 := ⟨_, rfl⟩
  have hb0 : Below w.heap.size w w0 := by rw [← hw0]; (repeat (first | (with_reducible exact Below.refl _ _) | (with_reducible refine Below.drew ?_) | ((with_reducible refine Below.alloc ?_ ?hB _); case hB => (first | (with_reducible exact Nat.le_refl _) | omega | (simp; done) | (simp; omega))) | ((with_reducible refine Below.setCell ?_ ?hB _); case hB => (first | (with_reducible exact Nat.le_refl _) | omega | (simp; done) | (simp; omega)))))
  have hg0 : w0.heap[w.heap.size]? = some (.cells #[.slice A m.length cap, .int .i64 g.w.arr, .int .i64 g.w.start, .int .i64 g.w.len, .int .i64 g.w.cap, .int .i64 g.us, .slice B g.ms.length kc] 29) := by rw [← hw0]; exact heap_alloc_new _ _
  have hlen : m.length ≤ maxLen := by omega
  have HS := Lib.hid (szArena_calls A B cap kc m g w0 1048576 (hr.on hb0).1 hlen hkl (by omega) (by omega))
  have HB := Lib.hid hb0
  have HW := Lib.hid hw0
  have HR := Lib.hid hr
  have HG := Lib.hid hg
  obtain ⟨c0, c1, c2, c3, c4, c5, c6⟩ := ar_cells hg0
  have HA : Hid (∀ W, Below w0.heap.size w0 W → W.cell? ⟨w.heap.size, 0, none⟩ = some (.slice A m.length cap) ∧ W.cell? ⟨w.heap.size, 1, none⟩ = some (.int .i64 g.w.arr) ∧ W.cell? ⟨w.heap.size, 2, none⟩ = some (.int .i64 g.w.start) ∧ W.cell? ⟨w.heap.size, 3, none⟩ = some (.int .i64 g.w.len) ∧ W.cell? ⟨w.heap.size, 4, none⟩ = some (.int .i64 g.w.cap) ∧ W.cell? ⟨w.heap.size, 5, none⟩ = some (.int .i64 g.us) ∧ W.cell? ⟨w.heap.size, 6, none⟩ = some (.slice B g.ms.length kc)) := Lib.hid fun W hb => by
    obtain ⟨c0, c1, c2, c3, c4, c5, c6⟩ := ar_cells ((hb.block _ (Array.getElem?_eq_some_iff.1 hg0).1).trans hg0)
    exact ⟨c0, c1, c2, c3, c4, c5, c6⟩
  clear hr hb0 hw0 hzz  hg  hg0 
  go_enter Try.func15, Try.ntmps15
  go_wp2_with fail
  rw [HW.out]
  refine HS.out.mono ?_
  rintro e w1 ⟨⟨r, rfl, hr⟩, hb1⟩
  have HR1 := Lib.hid hr
  have HBw := Lib.hid hb1
  clear hb1 c0 c1 c2 c3 c4 c5 c6
  by_cases hneg : r < 0
  · clear hr
    go_wp2_with fail
    go_ret
    exact ⟨rfl, HB.out.trans (HBw.out.mono HB.out.size)⟩
  · have hsz : m.length ≤ 1048576 ∧ total m ≤ 1048576 ∧ g.ms.length ≤ 1048576 := by omega
    have hro : ∀ q ∈ m, q.length ≤ 1048576 := fun q hq => Nat.le_trans (row_le m q hq) hsz.2.1
    have HSZ := Lib.hid (show m.length ≤ 2097152 ∧ total m ≤ 2097152 ∧ g.ms.length ≤ 2097152 by omega)
    have hk20 := HSZ.out.2.2
    have HT := Lib.hid (fun W (hb : Below w0.heap.size w0 W) => toArena_calls A B cap kc m g W (HR.out.on (HB.out.trans (hb.mono HB.out.size))) hsz.1 hro hsz.2.2)
    have HSP : Hid (∀ W X k Y j, RdA W W.heap.size X Y m g.ms →  Calls Try.prog 66 #[.agg #[.slice X m.length k, .int .i64 g.w.arr, .int .i64 g.w.start, .int .i64 g.w.len, .int .i64 g.w.cap, .int .i64 g.us, .slice Y g.ms.length j]] W (fun e w' => e = .returned (.tuple #[.agg #[.int .i64 q0.arr, .int .i64 q0.start, .int .i64 q0.len, .int .i64 q0.cap], .agg #[.int .i64 q1.arr, .int .i64 q1.start, .int .i64 q1.len, .int .i64 q1.cap], .bool p2]) ∧ Below W.heap.size W w')) := Lib.hid (fun W X k Y j (hx : RdA W W.heap.size X Y m g.ms) => by have hq := specSplitArena_calls X Y k j m g W hx hlen hkl; rw [hform] at hq; exact hq)
    have HIP : Hid (∀ W X k Y j, RdA W W.heap.size X Y m g.ms →  Calls Try.prog 67 #[.agg #[.slice X m.length k, .int .i64 g.w.arr, .int .i64 g.w.start, .int .i64 g.w.len, .int .i64 g.w.cap, .int .i64 g.us, .slice Y g.ms.length j]] W (fun e w' => e = .returned (.tuple #[.agg #[.int .i64 q0.arr, .int .i64 q0.start, .int .i64 q0.len, .int .i64 q0.cap], .agg #[.int .i64 q1.arr, .int .i64 q1.start, .int .i64 q1.len, .int .i64 q1.cap], .bool p2]) ∧ Below W.heap.size W w')) := Lib.hid (fun W X k Y j (hx : RdA W W.heap.size X Y m g.ms) => by have hq := implSplitArena_calls X Y k j m g W hx hlen hkl HG.out; rw [hform] at hq; exact hq)
    have HE := Lib.hid (fun W X1 Y1 X2 Y2 cx dx cy dy (hx : RdA W W.heap.size X1 Y1 m g.ms) (hy : RdA W W.heap.size X2 Y2 m g.ms) => eqArena_same X1 Y1 X2 Y2 cx dx cy dy m g W hx hy hlen hk20)
    have hself2 : (p2 != p2) = false := by simp
    clear hr hsz hro hform  
    obtain ⟨d0, d1, d2, d3, d4, d5, d6⟩ := HA.out w1 HBw.out
    go_wp2_with fail
    refine (HT.out _ HBw.out).mono ?_
    rintro e w21 ⟨va, ua, rfl, hoa, hbn⟩
    obtain ⟨Aa, ka, Ba, ja, rfl, rfl, hka⟩ := hoa.form
    have HRa := Lib.hid hoa.reads
    replace HBw := Lib.hid (HBw.out.trans (hbn.mono HBw.out.size))
    clear hbn hoa hka
    clear d0 d1 d2 d3 d4 d5 d6
    go_wp2_with fail
    refine (HSP.out w21 Aa ka Ba ja HRa.out).mono ?_
    rintro e w22 ⟨rfl, hbn⟩
    replace HBw := Lib.hid (HBw.out.trans (hbn.mono HBw.out.size))
    obtain ⟨w23, hww23⟩ : ∃ w23, ((w22.alloc (.cells #[.int .i64 q0.arr, .int .i64 q0.start, .int .i64 q0.len, .int .i64 q0.cap] 33)).alloc (.cells #[.int .i64 q1.arr, .int .i64 q1.start, .int .i64 q1.len, .int .i64 q1.cap] 33)) = w23 := ⟨_, rfl⟩
    have hbw23 : Below w22.heap.size w22 w23 := by rw [← hww23]; (repeat (first | (with_reducible exact Below.refl _ _) | (with_reducible refine Below.drew ?_) | ((with_reducible refine Below.alloc ?_ ?hB _); case hB => (first | (with_reducible exact Nat.le_refl _) | omega | (simp; done) | (simp; omega))) | ((with_reducible refine Below.setCell ?_ ?hB _); case hB => (first | (with_reducible exact Nat.le_refl _) | omega | (simp; done) | (simp; omega)))))
    have hxP0 : w23.heap[w22.heap.size]? = some (.cells #[.int .i64 q0.arr, .int .i64 q0.start, .int .i64 q0.len, .int .i64 q0.cap] 33) := by rw [← hww23]; exact alloc_old _ ((by simpa using heap_alloc_new w22 (.cells #[.int .i64 q0.arr, .int .i64 q0.start, .int .i64 q0.len, .int .i64 q0.cap] 33)))
    have HMP0 := Lib.hid (WBox.mk' (b := w21.heap.size) hxP0 (by have := hbn.size; omega))
    have hxP1 : w23.heap[w22.heap.size + 1]? = some (.cells #[.int .i64 q1.arr, .int .i64 q1.start, .int .i64 q1.len, .int .i64 q1.cap] 33) := by rw [← hww23]; exact (by simpa using heap_alloc_new (w22.alloc (.cells #[.int .i64 q0.arr, .int .i64 q0.start, .int .i64 q0.len, .int .i64 q0.cap] 33)) (.cells #[.int .i64 q1.arr, .int .i64 q1.start, .int .i64 q1.len, .int .i64 q1.cap] 33))
    have HMP1 := Lib.hid (WBox.mk' (b := w21.heap.size) hxP1 (by have := hbn.size; omega))
    replace HBw := Lib.hid (HBw.out.trans (hbw23.mono HBw.out.size))
    have HWw23 := Lib.hid hww23
    clear hbn   hbw23 hww23 hxP0 hxP1
    go_upto_region 6 with fail
    rw [HWw23.out]
    have hgP0 := HMP0.out.gW
    have hgP1 := HMP1.out.gW
    have hsP := HBw.out.size
    clear HRa
    obtain ⟨d0, d1, d2, d3, d4, d5, d6⟩ := HA.out w23 HBw.out
    go_wp2_with fail
    refine (HT.out _ HBw.out).mono ?_
    rintro e w5 ⟨v5, u5, rfl, ho5, hb5⟩
    obtain ⟨A5, k5, B5, j5, rfl, rfl, hk5⟩ := ho5.form
    obtain ⟨w6, hw6⟩ : ∃ w6, w5.alloc (.cells #[.slice A5 m.length k5, .int .i64 g.w.arr, .int .i64 g.w.start, .int .i64 g.w.len, .int .i64 g.w.cap, .int .i64 g.us, .slice B5 g.ms.length j5] 35) = w6 := ⟨_, rfl⟩
    have hb6 : Below w5.heap.size w5 w6 := by rw [← hw6]; exact (Below.refl _ _).alloc (Nat.le_refl _) _
    have hx6 : w6.heap[w5.heap.size]? = some (.cells #[.slice A5 m.length k5, .int .i64 g.w.arr, .int .i64 g.w.start, .int .i64 g.w.len, .int .i64 g.w.cap, .int .i64 g.us, .slice B5 g.ms.length j5] 35) := by rw [← hw6]; exact heap_alloc_new _ _
    have HMX := Lib.hid (ABox.mk' (q := g) (mk := g.ms) (b := w23.heap.size) hx6 (ho5.below hb6) hb5.size (Nat.le_refl _) hb6.size (Nat.le_trans hb5.size hb6.size) (.inr (Nat.le_refl _)))
    have hz45 : w23.heap.size ≤ w5.heap.size := hb5.size
    replace HMP0 := Lib.hid (HMP0.out.below hb5)
    replace HMP1 := Lib.hid (HMP1.out.below hb5)
    replace HBw := Lib.hid (HBw.out.trans (hb5.mono HBw.out.size))
    replace HMP0 := Lib.hid (HMP0.out.below hb6)
    replace HMP1 := Lib.hid (HMP1.out.below hb6)
    replace HBw := Lib.hid (HBw.out.trans (hb6.mono HBw.out.size))
    have HW6 := Lib.hid hw6
    have hz56 : w5.heap.size < w6.heap.size := (Array.getElem?_eq_some_iff.1 hx6).1
    clear d0 d1 d2 d3 d4 d5 d6 ho5 hb5 hb6 hw6 hx6 hk5
    go_upto_region 7 with fail
    rw [HW6.out]
    obtain ⟨x0, x1, x2, x3, x4, x5, x6⟩ := HMX.out.cells
    go_wp2_with fail
    refine (HIP.out w6 A5 k5 B5 j5 HMX.out.own.reads).mono ?_
    rintro e w25 ⟨rfl, hbn⟩
    replace HMP0 := Lib.hid (HMP0.out.below hbn)
    replace HMP1 := Lib.hid (HMP1.out.below hbn)
    replace HMX := Lib.hid (HMX.out.below hbn)
    replace HBw := Lib.hid (HBw.out.trans (hbn.mono HBw.out.size))
    obtain ⟨w26, hww26⟩ : ∃ w26, ((w25.alloc (.cells #[.int .i64 q0.arr, .int .i64 q0.start, .int .i64 q0.len, .int .i64 q0.cap] 33)).alloc (.cells #[.int .i64 q1.arr, .int .i64 q1.start, .int .i64 q1.len, .int .i64 q1.cap] 33)) = w26 := ⟨_, rfl⟩
    have hbw26 : Below w25.heap.size w25 w26 := by rw [← hww26]; (repeat (first | (with_reducible exact Below.refl _ _) | (with_reducible refine Below.drew ?_) | ((with_reducible refine Below.alloc ?_ ?hB _); case hB => (first | (with_reducible exact Nat.le_refl _) | omega | (simp; done) | (simp; omega))) | ((with_reducible refine Below.setCell ?_ ?hB _); case hB => (first | (with_reducible exact Nat.le_refl _) | omega | (simp; done) | (simp; omega)))))
    have hxQ0 : w26.heap[w25.heap.size]? = some (.cells #[.int .i64 q0.arr, .int .i64 q0.start, .int .i64 q0.len, .int .i64 q0.cap] 33) := by rw [← hww26]; exact alloc_old _ ((by simpa using heap_alloc_new w25 (.cells #[.int .i64 q0.arr, .int .i64 q0.start, .int .i64 q0.len, .int .i64 q0.cap] 33)))
    have HMQ0 := Lib.hid (WBox.mk' (b := w6.heap.size) hxQ0 (by have := hbn.size; omega))
    have hxQ1 : w26.heap[w25.heap.size + 1]? = some (.cells #[.int .i64 q1.arr, .int .i64 q1.start, .int .i64 q1.len, .int .i64 q1.cap] 33) := by rw [← hww26]; exact (by simpa using heap_alloc_new (w25.alloc (.cells #[.int .i64 q0.arr, .int .i64 q0.start, .int .i64 q0.len, .int .i64 q0.cap] 33)) (.cells #[.int .i64 q1.arr, .int .i64 q1.start, .int .i64 q1.len, .int .i64 q1.cap] 33))
    have HMQ1 := Lib.hid (WBox.mk' (b := w6.heap.size) hxQ1 (by have := hbn.size; omega))
    replace HMP0 := Lib.hid (HMP0.out.below hbw26)
    replace HMP1 := Lib.hid (HMP1.out.below hbw26)
    replace HMX := Lib.hid (HMX.out.below hbw26)
    replace HBw := Lib.hid (HBw.out.trans (hbw26.mono HBw.out.size))
    have HWw26 := Lib.hid hww26
    clear hbn   hbw26 hww26 hxQ0 hxQ1
    go_upto_region 8 with fail
    rw [HWw26.out]
    clear x0 x1 x2 x3 x4 x5 x6
    have hgQ0 := HMQ0.out.bg
    have hgQ1 := HMQ1.out.bg
    obtain ⟨s0, s1, s2, s3⟩ := HMQ0.out.cells
    obtain ⟨t0, t1, t2, t3⟩ := HMP0.out.cells
    go_wp2_with fail
    refine (eqWinSame_calls q0 w26).mono ?_
    rintro e w27 ⟨rfl, hbn⟩
    replace HMP0 := Lib.hid (HMP0.out.below hbn)
    replace HMP1 := Lib.hid (HMP1.out.below hbn)
    replace HMX := Lib.hid (HMX.out.below hbn)
    replace HMQ0 := Lib.hid (HMQ0.out.below hbn)
    replace HMQ1 := Lib.hid (HMQ1.out.below hbn)
    replace HBw := Lib.hid (HBw.out.trans (hbn.mono HBw.out.size))
    clear hbn s0 s1 s2 s3 t0 t1 t2 t3
    obtain ⟨s0, s1, s2, s3⟩ := HMQ1.out.cells
    obtain ⟨t0, t1, t2, t3⟩ := HMP1.out.cells
    go_wp2_with fail
    refine (eqWinSame_calls q1 w27).mono ?_
    rintro e w28 ⟨rfl, hbn⟩
    replace HMP0 := Lib.hid (HMP0.out.below hbn)
    replace HMP1 := Lib.hid (HMP1.out.below hbn)
    replace HMX := Lib.hid (HMX.out.below hbn)
    replace HMQ0 := Lib.hid (HMQ0.out.below hbn)
    replace HMQ1 := Lib.hid (HMQ1.out.below hbn)
    replace HBw := Lib.hid (HBw.out.trans (hbn.mono HBw.out.size))
    clear hbn s0 s1 s2 s3 t0 t1 t2 t3
    have HD9 := Lib.hid ((Below.refl w28.heap.size w28).drew)
    have HY : Hid (∀ W, Below w28.heap.size w28 W → W.cell? ⟨w.heap.size, 0, none⟩ = some (.slice A m.length cap) ∧ W.cell? ⟨w.heap.size, 1, none⟩ = some (.int .i64 g.w.arr) ∧ W.cell? ⟨w.heap.size, 2, none⟩ = some (.int .i64 g.w.start) ∧ W.cell? ⟨w.heap.size, 3, none⟩ = some (.int .i64 g.w.len) ∧ W.cell? ⟨w.heap.size, 4, none⟩ = some (.int .i64 g.w.cap) ∧ W.cell? ⟨w.heap.size, 5, none⟩ = some (.int .i64 g.us) ∧ W.cell? ⟨w.heap.size, 6, none⟩ = some (.slice B g.ms.length kc) ∧ W.cell? ⟨w5.heap.size, 0, none⟩ = some (.slice A5 m.length k5) ∧ W.cell? ⟨w5.heap.size, 1, none⟩ = some (.int .i64 g.w.arr) ∧ W.cell? ⟨w5.heap.size, 2, none⟩ = some (.int .i64 g.w.start) ∧ W.cell? ⟨w5.heap.size, 3, none⟩ = some (.int .i64 g.w.len) ∧ W.cell? ⟨w5.heap.size, 4, none⟩ = some (.int .i64 g.w.cap) ∧ W.cell? ⟨w5.heap.size, 5, none⟩ = some (.int .i64 g.us) ∧ W.cell? ⟨w5.heap.size, 6, none⟩ = some (.slice B5 g.ms.length j5)) := Lib.hid fun W hb => by
      obtain ⟨a0, a1, a2, a3, a4, a5, a6⟩ := HA.out W (HBw.out.trans (hb.mono HBw.out.size))
      obtain ⟨b0, b1, b2, b3, b4, b5, b6⟩ := (HMX.out.below hb).cells
      exact ⟨a0, a1, a2, a3, a4, a5, a6, b0, b1, b2, b3, b4, b5, b6⟩
    obtain ⟨y0, y1, y2, y3, y4, y5, y6, z0, z1, z2, z3, z4, z5, z6⟩ := HY.out w28.drew HD9.out
    go_wp2_with fail
    go_region_held3 (fun W => W.cell? ⟨w.heap.size, 0, none⟩ = some (.slice A m.length cap) ∧ W.cell? ⟨w.heap.size, 1, none⟩ = some (.int .i64 g.w.arr) ∧ W.cell? ⟨w.heap.size, 2, none⟩ = some (.int .i64 g.w.start) ∧ W.cell? ⟨w.heap.size, 3, none⟩ = some (.int .i64 g.w.len) ∧ W.cell? ⟨w.heap.size, 4, none⟩ = some (.int .i64 g.w.cap) ∧ W.cell? ⟨w.heap.size, 5, none⟩ = some (.int .i64 g.us) ∧ W.cell? ⟨w.heap.size, 6, none⟩ = some (.slice B g.ms.length kc) ∧ W.cell? ⟨w5.heap.size, 0, none⟩ = some (.slice A5 m.length k5) ∧ W.cell? ⟨w5.heap.size, 1, none⟩ = some (.int .i64 g.w.arr) ∧ W.cell? ⟨w5.heap.size, 2, none⟩ = some (.int .i64 g.w.start) ∧ W.cell? ⟨w5.heap.size, 3, none⟩ = some (.int .i64 g.w.len) ∧ W.cell? ⟨w5.heap.size, 4, none⟩ = some (.int .i64 g.w.cap) ∧ W.cell? ⟨w5.heap.size, 5, none⟩ = some (.int .i64 g.us) ∧ W.cell? ⟨w5.heap.size, 6, none⟩ = some (.slice B5 g.ms.length j5))
      (first | (with_reducible exact ⟨y0, y1, y2, y3, y4, y5, y6, z0, z1, z2, z3, z4, z5, z6⟩) | exact HY.out _ hc9 | exact HY.out _ hc10)
      (first | (go_at_call 20; refine (HT.out _ HBw.out.drew).mono ?_; rintro e w10 ⟨v9, u9, rfl, ho9, hb9⟩; obtain ⟨A9, k9, B9, j9, rfl, rfl, hk9⟩ := ho9.form; have hc9 := HD9.out.trans hb9) | (go_at_call 22; refine (HE.out w10 A5 B5 A9 B9 k5 j5 k9 j9 (HMX.out.below hc9).own.reads ho9.reads).mono ?_; rintro e w29 ⟨rfl, hb10⟩; have hc10 := hc9.trans (hb10.mono hc9.size)))
    replace HMP0 := Lib.hid (HMP0.out.below hc10)
    replace HMP1 := Lib.hid (HMP1.out.below hc10)
    replace HMX := Lib.hid (HMX.out.below hc10)
    replace HMQ0 := Lib.hid (HMQ0.out.below hc10)
    replace HMQ1 := Lib.hid (HMQ1.out.below hc10)
    replace HBw := Lib.hid (HBw.out.trans (hc10.mono HBw.out.size))
    clear hb9 hb10 hc9 hc10 ho9 hk9 HY HD9 y0 y1 y2 y3 y4 y5 y6 z0 z1 z2 z3 z4 z5 z6
    go_wp2_with fail
    go_ret
    exact ⟨rfl, HB.out.trans (HBw.out.mono HB.out.size)⟩
end Go.Proofs.Ytadmllfcnjekcaa
