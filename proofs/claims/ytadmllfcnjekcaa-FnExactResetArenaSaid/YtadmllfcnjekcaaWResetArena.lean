/-
  FnExactResetArena: the walk.
-/
import Derived.Test.YtadmllfcnjekcaaArH
import Derived.Deep.DeepCutAuto
import Derived.Test.YtadmllfcnjekcaaArR
namespace Go.Proofs.Ytadmllfcnjekcaa
open Go.RowKit

set_option maxRecDepth 100000 in
set_option maxHeartbeats 12800000 in
theorem fnExactResetArena_walk (A : Option Addr) (len cap : Nat) (m : List (List Int)) (B : Option Addr) (kl kc : Nat) (g : An)    (w : World) (h : AArg w A len cap m B kl kc g)    :
    Calls Try.prog 9 #[.agg #[.slice A len cap, .int .i64 g.w.arr, .int .i64 g.w.start, .int .i64 g.w.len, .int .i64 g.w.cap, .int .i64 g.us, .slice B kl kc]] w fun e w' => e = .returned (.bool true) ∧ Below w.heap.size w w' := by
  obtain ⟨⟨rfl, h1, h2, hr0, hzz⟩, ⟨rfl, hk1, hk2, hrk, hkz⟩, hgw, hgu⟩ := h
  have hr : RdA w w.heap.size A B m g.ms := ⟨hr0, hrk⟩
  have hkl : g.ms.length ≤ maxLen := by omega
  have hg : AArgW g := ⟨hgw, hgu, hkl, hkz⟩
  clear hr0 hrk hgw hgu hkz
  have hsm := resetArR_small m g
  obtain ⟨R, q0, p1, hform⟩ : ∃ (R : List (List Int)) (q0 : An) (p1 : Bool), resetArR m g = (R, q0, p1) := ⟨_, _, _, rfl⟩
  rw [hform] at hsm
  obtain ⟨hR1, hR2, hR3⟩ := hsm.1.tot
  have hR4 := hsm.2
  obtain ⟨w0, hw0⟩ : ∃ w0, (w.alloc (.cells #[.slice A m.length cap, .int .i64 g.w.arr, .int .i64 g.w.start, .int .i64 g.w.len, .int .i64 g.w.cap, .int .i64 g.us, .slice B g.ms.length kc] 29)) = w0 := ⟨_, rfl⟩
  have hb0 : Below w.heap.size w w0 := by rw [← hw0]; (repeat (first | (with_reducible exact Below.refl _ _) | (with_reducible refine Below.drew ?_) | ((with_reducible refine Below.alloc ?_ ?hB _); case hB => (first | (with_reducible exact Nat.le_refl _) | omega | (simp; done) | (simp; omega))) | ((with_reducible refine Below.setCell ?_ ?hB _); case hB => (first | (with_reducible exact Nat.le_refl _) | omega | (simp; done) | (simp; omega)))))
  have hg0 : w0.heap[w.heap.size]? = some (.cells #[.slice A m.length cap, .int .i64 g.w.arr, .int .i64 g.w.start, .int .i64 g.w.len, .int .i64 g.w.cap, .int .i64 g.us, .slice B g.ms.length kc] 29) := by rw [← hw0]; exact heap_alloc_new _ _
  have hlen : m.length ≤ maxLen := by omega
  have HS := Lib.hid (szArena_calls A B cap kc m g w0 1048576 (hr.on hb0).1 hlen hkl (by omega) (by omega))
  have HB := Lib.hid hb0
  have HW := Lib.hid hw0
  have HR := Lib.hid hr
  have HG := Lib.hid hg
  obtain ⟨c0, c1, c2, c3, c4, c5, c6⟩ := ar_cells hg0
  have HA : Hid (∀ W, Below w0.heap.size w0 W → W.cell? ⟨w.heap.size, 0, none⟩ = some (.slice A m.length cap) ∧ W.cell? ⟨w.heap.size, 1, none⟩ = some (.int .i64 g.w.arr) ∧ W.cell? ⟨w.heap.size, 2, none⟩ = some (.int .i64 g.w.start) ∧ W.cell? ⟨w.heap.size, 3, none⟩ = some (.int .i64 g.w.len) ∧ W.cell? ⟨w.heap.size, 4, none⟩ = some (.int .i64 g.w.cap) ∧ W.cell? ⟨w.heap.size, 5, none⟩ = some (.int .i64 g.us) ∧ W.cell? ⟨w.heap.size, 6, none⟩ = some (.slice B g.ms.length kc)) := Lib.hid fun W hb => by
    obtain ⟨c0, c1, c2, c3, c4, c5, c6⟩ := ar_cells ((hb.block _ (Array.getElem?_eq_some_iff.1 hg0).1).trans hg0)
    exact ⟨c0, c1, c2, c3, c4, c5, c6⟩
  clear hr hb0 hw0 hzz hsm hg  hg0 
  go_enter Try.func9, Try.ntmps9
  go_wp2_with fail
  rw [HW.out]
  refine HS.out.mono ?_
  rintro e w1 ⟨⟨r, rfl, hr⟩, hb1⟩
  have HR1 := Lib.hid hr
  have HBw := Lib.hid hb1
  clear hb1 c0 c1 c2 c3 c4 c5 c6
  by_cases hneg : r < 0
  · clear hr
    go_wp2_with fail
    go_ret
    exact ⟨rfl, HB.out.trans (HBw.out.mono HB.out.size)⟩
  · have hsz : m.length ≤ 1048576 ∧ total m ≤ 1048576 ∧ g.ms.length ≤ 1048576 := by omega
    have hro : ∀ q ∈ m, q.length ≤ 1048576 := fun q hq => Nat.le_trans (row_le m q hq) hsz.2.1
    have HSZ := Lib.hid (show m.length ≤ 2097152 ∧ total m ≤ 2097152 ∧ g.ms.length ≤ 2097152 by omega)
    have hk20 := HSZ.out.2.2
    have HT := Lib.hid (fun W (hb : Below w0.heap.size w0 W) => toArena_calls A B cap kc m g W (HR.out.on (HB.out.trans (hb.mono HB.out.size))) hsz.1 hro hsz.2.2)
    have HSP : Hid (∀ W X k Y j, g.ms.length ≤ j → RdA W W.heap.size X Y m g.ms →  Calls Try.prog 49 #[.agg #[.slice X m.length k, .int .i64 g.w.arr, .int .i64 g.w.start, .int .i64 g.w.len, .int .i64 g.w.cap, .int .i64 g.us, .slice Y g.ms.length j]] W (fun e w' => ∃ v u, e = .returned (.tuple #[.agg #[v, .int .i64 q0.w.arr, .int .i64 q0.w.start, .int .i64 q0.w.len, .int .i64 q0.w.cap, .int .i64 q0.us, u], .bool p1]) ∧ OwnA w' W.heap.size w'.heap.size v u R q0.ms ∧ Below W.heap.size W w')) := Lib.hid (fun W X k Y j (hj : g.ms.length ≤ j) (hx : RdA W W.heap.size X Y m g.ms) => by have hq := specResetArena_calls X Y k j m g W hj hx hlen hkl; rw [hform] at hq; exact hq)
    have HIP : Hid (∀ W X k Y j, g.ms.length ≤ j → RdA W W.heap.size X Y m g.ms →  Calls Try.prog 50 #[.agg #[.slice X m.length k, .int .i64 g.w.arr, .int .i64 g.w.start, .int .i64 g.w.len, .int .i64 g.w.cap, .int .i64 g.us, .slice Y g.ms.length j]] W (fun e w' => ∃ v u, e = .returned (.tuple #[.agg #[v, .int .i64 q0.w.arr, .int .i64 q0.w.start, .int .i64 q0.w.len, .int .i64 q0.w.cap, .int .i64 q0.us, u], .bool p1]) ∧ OwnA w' W.heap.size w'.heap.size v u R q0.ms ∧ Below W.heap.size W w')) := Lib.hid (fun W X k Y j (hj : g.ms.length ≤ j) (hx : RdA W W.heap.size X Y m g.ms) => by have hq := implResetArena_calls X Y k j m g W hj hx hlen hkl HG.out; rw [hform] at hq; exact hq)
    have HE := Lib.hid (fun W X1 Y1 X2 Y2 cx dx cy dy (hx : RdA W W.heap.size X1 Y1 m g.ms) (hy : RdA W W.heap.size X2 Y2 m g.ms) => eqArena_same X1 Y1 X2 Y2 cx dx cy dy m g W hx hy hlen hk20)
    have HER := Lib.hid (fun W X1 Y1 X2 Y2 cx dx cy dy (hx : RdA W W.heap.size X1 Y1 R q0.ms) (hy : RdA W W.heap.size X2 Y2 R q0.ms) => eqArena_same X1 Y1 X2 Y2 cx dx cy dy R q0 W hx hy hR3 hR4)
    have hself1 : (p1 != p1) = false := by simp
    clear hr hsz hro hform hR3 
    obtain ⟨d0, d1, d2, d3, d4, d5, d6⟩ := HA.out w1 HBw.out
    go_wp2_with fail
    refine (HT.out _ HBw.out).mono ?_
    rintro e w21 ⟨va, ua, rfl, hoa, hbn⟩
    obtain ⟨Aa, ka, Ba, ja, rfl, rfl, hka⟩ := hoa.form
    have hja := hoa.capd
    have HRa := Lib.hid hoa.reads
    replace HBw := Lib.hid (HBw.out.trans (hbn.mono HBw.out.size))
    clear hbn hoa hka
    clear d0 d1 d2 d3 d4 d5 d6
    go_wp2_with fail
    refine (HSP.out w21 Aa ka Ba ja hja HRa.out).mono ?_
    rintro e w22 ⟨vP, uP, rfl, hoP, hbn⟩
    obtain ⟨AP0, cP0, BP0, dP0, rfl, rfl, hcf⟩ := hoP.form
    replace HBw := Lib.hid (HBw.out.trans (hbn.mono HBw.out.size))
    obtain ⟨w23, hww23⟩ : ∃ w23, (w22.alloc (.cells #[.slice AP0 R.length cP0, .int .i64 q0.w.arr, .int .i64 q0.w.start, .int .i64 q0.w.len, .int .i64 q0.w.cap, .int .i64 q0.us, .slice BP0 q0.ms.length dP0] 35)) = w23 := ⟨_, rfl⟩
    have hbw23 : Below w22.heap.size w22 w23 := by rw [← hww23]; (repeat (first | (with_reducible exact Below.refl _ _) | (with_reducible refine Below.drew ?_) | ((with_reducible refine Below.alloc ?_ ?hB _); case hB => (first | (with_reducible exact Nat.le_refl _) | omega | (simp; done) | (simp; omega))) | ((with_reducible refine Below.setCell ?_ ?hB _); case hB => (first | (with_reducible exact Nat.le_refl _) | omega | (simp; done) | (simp; omega)))))
    have hxP0 : w23.heap[w22.heap.size]? = some (.cells #[.slice AP0 R.length cP0, .int .i64 q0.w.arr, .int .i64 q0.w.start, .int .i64 q0.w.len, .int .i64 q0.w.cap, .int .i64 q0.us, .slice BP0 q0.ms.length dP0] 35) := by rw [← hww23]; exact (by simpa using heap_alloc_new w22 (.cells #[.slice AP0 R.length cP0, .int .i64 q0.w.arr, .int .i64 q0.w.start, .int .i64 q0.w.len, .int .i64 q0.w.cap, .int .i64 q0.us, .slice BP0 q0.ms.length dP0] 35))
    have HMP0 := Lib.hid (ABox.mk' (q := q0) (mk := q0.ms) (b := w21.heap.size) hxP0 (hoP.below hbw23) hbn.size (Nat.le_refl _) hbw23.size (Nat.le_trans hbn.size hbw23.size) (.inr (by omega)))
    replace HBw := Lib.hid (HBw.out.trans (hbw23.mono HBw.out.size))
    have HWw23 := Lib.hid hww23
    clear hbn hoP hcf hbw23 hww23 hxP0
    go_upto_region 6 with fail
    rw [HWw23.out]
    have hbP0 := HMP0.out.hiW
    have hgP0 := HMP0.out.gW
    have hsP := HBw.out.size
    clear HRa
    obtain ⟨d0, d1, d2, d3, d4, d5, d6⟩ := HA.out w23 HBw.out
    go_wp2_with fail
    refine (HT.out _ HBw.out).mono ?_
    rintro e w5 ⟨v5, u5, rfl, ho5, hb5⟩
    obtain ⟨A5, k5, B5, j5, rfl, rfl, hk5⟩ := ho5.form
    have hj5 := ho5.capd
    obtain ⟨w6, hw6⟩ : ∃ w6, w5.alloc (.cells #[.slice A5 m.length k5, .int .i64 g.w.arr, .int .i64 g.w.start, .int .i64 g.w.len, .int .i64 g.w.cap, .int .i64 g.us, .slice B5 g.ms.length j5] 35) = w6 := ⟨_, rfl⟩
    have hb6 : Below w5.heap.size w5 w6 := by rw [← hw6]; exact (Below.refl _ _).alloc (Nat.le_refl _) _
    have hx6 : w6.heap[w5.heap.size]? = some (.cells #[.slice A5 m.length k5, .int .i64 g.w.arr, .int .i64 g.w.start, .int .i64 g.w.len, .int .i64 g.w.cap, .int .i64 g.us, .slice B5 g.ms.length j5] 35) := by rw [← hw6]; exact heap_alloc_new _ _
    have HMX := Lib.hid (ABox.mk' (q := g) (mk := g.ms) (b := w23.heap.size) hx6 (ho5.below hb6) hb5.size (Nat.le_refl _) hb6.size (Nat.le_trans hb5.size hb6.size) (.inr (Nat.le_refl _)))
    have hz45 : w23.heap.size ≤ w5.heap.size := hb5.size
    replace HMP0 := Lib.hid (HMP0.out.below hb5)
    replace HBw := Lib.hid (HBw.out.trans (hb5.mono HBw.out.size))
    replace HMP0 := Lib.hid (HMP0.out.below hb6)
    replace HBw := Lib.hid (HBw.out.trans (hb6.mono HBw.out.size))
    have HW6 := Lib.hid hw6
    have hz56 : w5.heap.size < w6.heap.size := (Array.getElem?_eq_some_iff.1 hx6).1
    clear d0 d1 d2 d3 d4 d5 d6 ho5 hb5 hb6 hw6 hx6 hk5
    go_upto_region 7 with fail
    rw [HW6.out]
    obtain ⟨x0, x1, x2, x3, x4, x5, x6⟩ := HMX.out.cells
    go_wp2_with fail
    refine (HIP.out w6 A5 k5 B5 j5 hj5 HMX.out.own.reads).mono ?_
    rintro e w25 ⟨vQ, uQ, rfl, hoQ, hbn⟩
    obtain ⟨AQ0, cQ0, BQ0, dQ0, rfl, rfl, hcf⟩ := hoQ.form
    replace HMP0 := Lib.hid (HMP0.out.below hbn)
    replace HMX := Lib.hid (HMX.out.below hbn)
    replace HBw := Lib.hid (HBw.out.trans (hbn.mono HBw.out.size))
    obtain ⟨w26, hww26⟩ : ∃ w26, (w25.alloc (.cells #[.slice AQ0 R.length cQ0, .int .i64 q0.w.arr, .int .i64 q0.w.start, .int .i64 q0.w.len, .int .i64 q0.w.cap, .int .i64 q0.us, .slice BQ0 q0.ms.length dQ0] 35)) = w26 := ⟨_, rfl⟩
    have hbw26 : Below w25.heap.size w25 w26 := by rw [← hww26]; (repeat (first | (with_reducible exact Below.refl _ _) | (with_reducible refine Below.drew ?_) | ((with_reducible refine Below.alloc ?_ ?hB _); case hB => (first | (with_reducible exact Nat.le_refl _) | omega | (simp; done) | (simp; omega))) | ((with_reducible refine Below.setCell ?_ ?hB _); case hB => (first | (with_reducible exact Nat.le_refl _) | omega | (simp; done) | (simp; omega)))))
    have hxQ0 : w26.heap[w25.heap.size]? = some (.cells #[.slice AQ0 R.length cQ0, .int .i64 q0.w.arr, .int .i64 q0.w.start, .int .i64 q0.w.len, .int .i64 q0.w.cap, .int .i64 q0.us, .slice BQ0 q0.ms.length dQ0] 35) := by rw [← hww26]; exact (by simpa using heap_alloc_new w25 (.cells #[.slice AQ0 R.length cQ0, .int .i64 q0.w.arr, .int .i64 q0.w.start, .int .i64 q0.w.len, .int .i64 q0.w.cap, .int .i64 q0.us, .slice BQ0 q0.ms.length dQ0] 35))
    have HMQ0 := Lib.hid (ABox.mk' (q := q0) (mk := q0.ms) (b := w6.heap.size) hxQ0 (hoQ.below hbw26) hbn.size (Nat.le_refl _) hbw26.size (Nat.le_trans hbn.size hbw26.size) (.inr (by omega)))
    replace HMP0 := Lib.hid (HMP0.out.below hbw26)
    replace HMX := Lib.hid (HMX.out.below hbw26)
    replace HBw := Lib.hid (HBw.out.trans (hbw26.mono HBw.out.size))
    have HWw26 := Lib.hid hww26
    clear hbn hoQ hcf hbw26 hww26 hxQ0
    go_upto_region 8 with fail
    rw [HWw26.out]
    clear x0 x1 x2 x3 x4 x5 x6
    have hbQ0 := HMQ0.out.blo
    have hgQ0 := HMQ0.out.bg
    obtain ⟨s0, s1, s2, s3, s4, s5, s6⟩ := HMQ0.out.cells
    obtain ⟨t0, t1, t2, t3, t4, t5, t6⟩ := HMP0.out.cells
    go_wp2_with fail
    refine (HER.out w26 AQ0 BQ0 AP0 BP0 cQ0 dQ0 cP0 dP0 HMQ0.out.own.reads HMP0.out.own.reads).mono ?_
    rintro e w27 ⟨rfl, hbn⟩
    replace HMP0 := Lib.hid (HMP0.out.below hbn)
    replace HMX := Lib.hid (HMX.out.below hbn)
    replace HMQ0 := Lib.hid (HMQ0.out.below hbn)
    replace HBw := Lib.hid (HBw.out.trans (hbn.mono HBw.out.size))
    clear hbn s0 s1 s2 s3 s4 s5 s6 t0 t1 t2 t3 t4 t5 t6
    have HD9 := Lib.hid ((Below.refl w27.heap.size w27).drew)
    have HY : Hid (∀ W, Below w27.heap.size w27 W → W.cell? ⟨w.heap.size, 0, none⟩ = some (.slice A m.length cap) ∧ W.cell? ⟨w.heap.size, 1, none⟩ = some (.int .i64 g.w.arr) ∧ W.cell? ⟨w.heap.size, 2, none⟩ = some (.int .i64 g.w.start) ∧ W.cell? ⟨w.heap.size, 3, none⟩ = some (.int .i64 g.w.len) ∧ W.cell? ⟨w.heap.size, 4, none⟩ = some (.int .i64 g.w.cap) ∧ W.cell? ⟨w.heap.size, 5, none⟩ = some (.int .i64 g.us) ∧ W.cell? ⟨w.heap.size, 6, none⟩ = some (.slice B g.ms.length kc) ∧ W.cell? ⟨w5.heap.size, 0, none⟩ = some (.slice A5 m.length k5) ∧ W.cell? ⟨w5.heap.size, 1, none⟩ = some (.int .i64 g.w.arr) ∧ W.cell? ⟨w5.heap.size, 2, none⟩ = some (.int .i64 g.w.start) ∧ W.cell? ⟨w5.heap.size, 3, none⟩ = some (.int .i64 g.w.len) ∧ W.cell? ⟨w5.heap.size, 4, none⟩ = some (.int .i64 g.w.cap) ∧ W.cell? ⟨w5.heap.size, 5, none⟩ = some (.int .i64 g.us) ∧ W.cell? ⟨w5.heap.size, 6, none⟩ = some (.slice B5 g.ms.length j5)) := Lib.hid fun W hb => by
      obtain ⟨a0, a1, a2, a3, a4, a5, a6⟩ := HA.out W (HBw.out.trans (hb.mono HBw.out.size))
      obtain ⟨b0, b1, b2, b3, b4, b5, b6⟩ := (HMX.out.below hb).cells
      exact ⟨a0, a1, a2, a3, a4, a5, a6, b0, b1, b2, b3, b4, b5, b6⟩
    obtain ⟨y0, y1, y2, y3, y4, y5, y6, z0, z1, z2, z3, z4, z5, z6⟩ := HY.out w27.drew HD9.out
    go_wp2_with fail
    go_region_held3 (fun W => W.cell? ⟨w.heap.size, 0, none⟩ = some (.slice A m.length cap) ∧ W.cell? ⟨w.heap.size, 1, none⟩ = some (.int .i64 g.w.arr) ∧ W.cell? ⟨w.heap.size, 2, none⟩ = some (.int .i64 g.w.start) ∧ W.cell? ⟨w.heap.size, 3, none⟩ = some (.int .i64 g.w.len) ∧ W.cell? ⟨w.heap.size, 4, none⟩ = some (.int .i64 g.w.cap) ∧ W.cell? ⟨w.heap.size, 5, none⟩ = some (.int .i64 g.us) ∧ W.cell? ⟨w.heap.size, 6, none⟩ = some (.slice B g.ms.length kc) ∧ W.cell? ⟨w5.heap.size, 0, none⟩ = some (.slice A5 m.length k5) ∧ W.cell? ⟨w5.heap.size, 1, none⟩ = some (.int .i64 g.w.arr) ∧ W.cell? ⟨w5.heap.size, 2, none⟩ = some (.int .i64 g.w.start) ∧ W.cell? ⟨w5.heap.size, 3, none⟩ = some (.int .i64 g.w.len) ∧ W.cell? ⟨w5.heap.size, 4, none⟩ = some (.int .i64 g.w.cap) ∧ W.cell? ⟨w5.heap.size, 5, none⟩ = some (.int .i64 g.us) ∧ W.cell? ⟨w5.heap.size, 6, none⟩ = some (.slice B5 g.ms.length j5))
      (first | (with_reducible exact ⟨y0, y1, y2, y3, y4, y5, y6, z0, z1, z2, z3, z4, z5, z6⟩) | exact HY.out _ hc9 | exact HY.out _ hc10)
      (first | (go_at_call 20; refine (HT.out _ HBw.out.drew).mono ?_; rintro e w10 ⟨v9, u9, rfl, ho9, hb9⟩; obtain ⟨A9, k9, B9, j9, rfl, rfl, hk9⟩ := ho9.form; have hc9 := HD9.out.trans hb9) | (go_at_call 22; refine (HE.out w10 A5 B5 A9 B9 k5 j5 k9 j9 (HMX.out.below hc9).own.reads ho9.reads).mono ?_; rintro e w28 ⟨rfl, hb10⟩; have hc10 := hc9.trans (hb10.mono hc9.size)))
    replace HMP0 := Lib.hid (HMP0.out.below hc10)
    replace HMX := Lib.hid (HMX.out.below hc10)
    replace HMQ0 := Lib.hid (HMQ0.out.below hc10)
    replace HBw := Lib.hid (HBw.out.trans (hc10.mono HBw.out.size))
    clear hb9 hb10 hc9 hc10 ho9 hk9 HY HD9 y0 y1 y2 y3 y4 y5 y6 z0 z1 z2 z3 z4 z5 z6
    have HK := Lib.hid (markA1_calls A5 B5 k5 j5 w23.heap.size w5.heap.size m g w28 HMX.out.own HSZ.out.1 HSZ.out.2.1 HSZ.out.2.2 (Nat.le_trans hz45 HMX.out.hiW) HMX.out.hiW)
    obtain ⟨x0, x1, x2, x3, x4, x5, x6⟩ := HMX.out.cells
    go_wp2_with fail
    refine HK.out.mono ?_
    rintro e w29 ⟨rfl, ho12, hs12⟩
    replace HMP0 := Lib.hid (HMP0.out.span hs12 (.inl (by omega)) (.inl (by omega)))
    replace HMQ0 := Lib.hid (HMQ0.out.span hs12 (.inr (by omega)) (.inr (by omega)))
    replace HBw := Lib.hid (HBw.out.trans ((hs12.below (Nat.le_trans hz45 HMX.out.hiW)).mono (by omega)))
    have hsX := hs12.size
    have hpos : ¬ ((1 : Int) + (total m : Nat) + (g.ms.length : Nat)) < 0 := by omega
    clear ho12 hs12 x0 x1 x2 x3 x4 x5 x6
    obtain ⟨s0, s1, s2, s3, s4, s5, s6⟩ := HMQ0.out.cells
    obtain ⟨t0, t1, t2, t3, t4, t5, t6⟩ := HMP0.out.cells
    go_wp2_with fail
    refine (HER.out w29 AQ0 BQ0 AP0 BP0 cQ0 dQ0 cP0 dP0 HMQ0.out.own.reads HMP0.out.own.reads).mono ?_
    rintro e w30 ⟨rfl, hbn⟩
    replace HMP0 := Lib.hid (HMP0.out.below hbn)
    replace HMQ0 := Lib.hid (HMQ0.out.below hbn)
    replace HBw := Lib.hid (HBw.out.trans (hbn.mono HBw.out.size))
    clear hbn s0 s1 s2 s3 s4 s5 s6 t0 t1 t2 t3 t4 t5 t6
    have hz13 := HMQ0.out.hiW
    have hlohi := HMQ0.out.loW
    have HK2 := Lib.hid (markA1_calls AQ0 BQ0 cQ0 dQ0 _ _ R q0 w30 HMQ0.out.own hR1 hR2 hR4 hlohi hz13)
    obtain ⟨s0, s1, s2, s3, s4, s5, s6⟩ := HMQ0.out.cells
    clear hpos 
    go_wp2_with fail
    refine HK2.out.mono ?_
    rintro e w31 ⟨rfl, ho14, hs14⟩
    replace HMQ0 := Lib.hid (HMQ0.out.marked hs14 ho14)
    replace HMP0 := Lib.hid (HMP0.out.span hs14 (.inl (by omega)) (.inl (by omega)))
    replace HBw := Lib.hid (HBw.out.trans ((hs14.below hlohi).mono (by omega)))
    clear ho14 hs14 s0 s1 s2 s3 s4 s5 s6
    have hposR : ¬ ((1 : Int) + (total R : Nat) + (q0.ms.length : Nat)) < 0 := by omega
    have HH := Lib.hid (heldA1_calls AQ0 BQ0 cQ0 dQ0 _ _ R q0 w31 HMQ0.out.own hR1 hR2 hR4)
    obtain ⟨s0, s1, s2, s3, s4, s5, s6⟩ := HMQ0.out.cells
    go_wp2_with fail
    refine HH.out.mono ?_
    rintro e w32 ⟨rfl, hbn⟩
    replace HMP0 := Lib.hid (HMP0.out.below hbn)
    replace HMQ0 := Lib.hid (HMQ0.out.below hbn)
    replace HBw := Lib.hid (HBw.out.trans (hbn.mono HBw.out.size))
    clear hbn HH s0 s1 s2 s3 s4 s5 s6
    have hselfR : (((1 : Int) + (total R : Nat) + (q0.ms.length : Nat)) != 1 + (total R : Nat) + (q0.ms.length : Nat)) = false := by simp
    obtain ⟨d0, d1, d2, d3, d4, d5, d6⟩ := HA.out w32 HBw.out
    go_wp2_with fail
    refine (HT.out _ HBw.out).mono ?_
    rintro e w33 ⟨va, ua, rfl, hoa, hbn⟩
    obtain ⟨Aa, ka, Ba, ja, rfl, rfl, hka⟩ := hoa.form
    have hja := hoa.capd
    have HRa := Lib.hid hoa.reads
    replace HMP0 := Lib.hid (HMP0.out.below hbn)
    replace HMQ0 := Lib.hid (HMQ0.out.below hbn)
    replace HBw := Lib.hid (HBw.out.trans (hbn.mono HBw.out.size))
    clear hbn hoa hka
    clear d0 d1 d2 d3 d4 d5 d6
    go_wp2_with fail
    refine (HIP.out w33 Aa ka Ba ja hja HRa.out).mono ?_
    rintro e w34 ⟨vT, uT, rfl, hoT, hbn⟩
    obtain ⟨AT0, cT0, BT0, dT0, rfl, rfl, hcf⟩ := hoT.form
    replace HMP0 := Lib.hid (HMP0.out.below hbn)
    replace HMQ0 := Lib.hid (HMQ0.out.below hbn)
    replace HBw := Lib.hid (HBw.out.trans (hbn.mono HBw.out.size))
    obtain ⟨w35, hww35⟩ : ∃ w35, (w34.alloc (.cells #[.slice AT0 R.length cT0, .int .i64 q0.w.arr, .int .i64 q0.w.start, .int .i64 q0.w.len, .int .i64 q0.w.cap, .int .i64 q0.us, .slice BT0 q0.ms.length dT0] 35)) = w35 := ⟨_, rfl⟩
    have hbw35 : Below w34.heap.size w34 w35 := by rw [← hww35]; (repeat (first | (with_reducible exact Below.refl _ _) | (with_reducible refine Below.drew ?_) | ((with_reducible refine Below.alloc ?_ ?hB _); case hB => (first | (with_reducible exact Nat.le_refl _) | omega | (simp; done) | (simp; omega))) | ((with_reducible refine Below.setCell ?_ ?hB _); case hB => (first | (with_reducible exact Nat.le_refl _) | omega | (simp; done) | (simp; omega)))))
    have hxT0 : w35.heap[w34.heap.size]? = some (.cells #[.slice AT0 R.length cT0, .int .i64 q0.w.arr, .int .i64 q0.w.start, .int .i64 q0.w.len, .int .i64 q0.w.cap, .int .i64 q0.us, .slice BT0 q0.ms.length dT0] 35) := by rw [← hww35]; exact (by simpa using heap_alloc_new w34 (.cells #[.slice AT0 R.length cT0, .int .i64 q0.w.arr, .int .i64 q0.w.start, .int .i64 q0.w.len, .int .i64 q0.w.cap, .int .i64 q0.us, .slice BT0 q0.ms.length dT0] 35))
    have HMT0 := Lib.hid (ABox.mk' (q := q0) (mk := q0.ms) (b := w33.heap.size) hxT0 (hoT.below hbw35) hbn.size (Nat.le_refl _) hbw35.size (Nat.le_trans hbn.size hbw35.size) (.inr (by omega)))
    replace HMP0 := Lib.hid (HMP0.out.below hbw35)
    replace HMQ0 := Lib.hid (HMQ0.out.below hbw35)
    replace HBw := Lib.hid (HBw.out.trans (hbw35.mono HBw.out.size))
    have HWw35 := Lib.hid hww35
    clear hbn hoT hcf hbw35 hww35 hxT0
    go_upto_region 25 with fail
    rw [HWw35.out]
    obtain ⟨s0, s1, s2, s3, s4, s5, s6⟩ := HMT0.out.cells
    obtain ⟨t0, t1, t2, t3, t4, t5, t6⟩ := HMP0.out.cells
    go_wp2_with fail
    refine (HER.out w35 AT0 BT0 AP0 BP0 cT0 dT0 cP0 dP0 HMT0.out.own.reads HMP0.out.own.reads).mono ?_
    rintro e w36 ⟨rfl, hbn⟩
    replace HMP0 := Lib.hid (HMP0.out.below hbn)
    replace HMQ0 := Lib.hid (HMQ0.out.below hbn)
    replace HMT0 := Lib.hid (HMT0.out.below hbn)
    replace HBw := Lib.hid (HBw.out.trans (hbn.mono HBw.out.size))
    clear hbn s0 s1 s2 s3 s4 s5 s6 t0 t1 t2 t3 t4 t5 t6
    have HH := Lib.hid (heldA1_calls AQ0 BQ0 cQ0 dQ0 _ _ R q0 w36 HMQ0.out.own hR1 hR2 hR4)
    obtain ⟨s0, s1, s2, s3, s4, s5, s6⟩ := HMQ0.out.cells
    go_wp2_with fail
    refine HH.out.mono ?_
    rintro e w37 ⟨rfl, hbn⟩
    replace HMP0 := Lib.hid (HMP0.out.below hbn)
    replace HMQ0 := Lib.hid (HMQ0.out.below hbn)
    replace HMT0 := Lib.hid (HMT0.out.below hbn)
    replace HBw := Lib.hid (HBw.out.trans (hbn.mono HBw.out.size))
    clear hbn HH s0 s1 s2 s3 s4 s5 s6
    go_wp2_with fail
    go_ret
    exact ⟨rfl, HB.out.trans (HBw.out.mono HB.out.size)⟩
end Go.Proofs.Ytadmllfcnjekcaa
