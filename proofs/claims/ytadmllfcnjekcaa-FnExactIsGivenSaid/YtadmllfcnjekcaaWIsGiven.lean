/-
  FnExactIsGiven: the walk.
-/
import Derived.Test.YtadmllfcnjekcaaArH
import Derived.Deep.DeepCutAuto
import Derived.Test.YtadmllfcnjekcaaArG
namespace Go.Proofs.Ytadmllfcnjekcaa
open Go.RowKit

set_option maxRecDepth 100000 in
set_option maxHeartbeats 12800000 in
theorem fnExactIsGiven_walk (A : Option Addr) (len cap : Nat) (m : List (List Int)) (B : Option Addr) (kl kc : Nat) (g : An) (x : Win)   (w : World) (h : AArg w A len cap m B kl kc g) (hx : WArg x)   :
    Calls Try.prog 14 #[.agg #[.slice A len cap, .int .i64 g.w.arr, .int .i64 g.w.start, .int .i64 g.w.len, .int .i64 g.w.cap, .int .i64 g.us, .slice B kl kc], x.val] w fun e w' => e = .returned (.bool true) ∧ Below w.heap.size w w' := by
  obtain ⟨⟨rfl, h1, h2, hr0, hzz⟩, ⟨rfl, hk1, hk2, hrk, hkz⟩, hgw, hgu⟩ := h
  have hr : RdA w w.heap.size A B m g.ms := ⟨hr0, hrk⟩
  have hkl : g.ms.length ≤ maxLen := by omega
  have hg : AArgW g := ⟨hgw, hgu, hkl, hkz⟩
  clear hr0 hrk hgw hgu hkz
  obtain ⟨p0, p1, hform⟩ : ∃ (p0 : Bool) (p1 : Bool), isGivenR m g x = (p0, p1) := ⟨_, _, rfl⟩
  unfold Win.val
  obtain ⟨w0, hw0⟩ : ∃ w0, ((w.alloc (.cells #[.slice A m.length cap, .int .i64 g.w.arr, .int .i64 g.w.start, .int .i64 g.w.len, .int .i64 g.w.cap, .int .i64 g.us, .slice B g.ms.length kc] 29)).alloc (.cells #[.int .i64 x.arr, .int .i64 x.start, .int .i64 x.len, .int .i64 x.cap] 26)) = w0 := ⟨_, rfl⟩
  have hb0 : Below w.heap.size w w0 := by rw [← hw0]; (repeat (first | (with_reducible exact Below.refl _ _) | (with_reducible refine Below.drew ?_) | ((with_reducible refine Below.alloc ?_ ?hB _); case hB => (first | (with_reducible exact Nat.le_refl _) | omega | (simp; done) | (simp; omega))) | ((with_reducible refine Below.setCell ?_ ?hB _); case hB => (first | (with_reducible exact Nat.le_refl _) | omega | (simp; done) | (simp; omega)))))
  have hg0 : w0.heap[w.heap.size]? = some (.cells #[.slice A m.length cap, .int .i64 g.w.arr, .int .i64 g.w.start, .int .i64 g.w.len, .int .i64 g.w.cap, .int .i64 g.us, .slice B g.ms.length kc] 29) := by rw [← hw0]; exact alloc_old _ (heap_alloc_new _ _)
  have hg1 : w0.heap[w.heap.size + 1]? = some (.cells #[.int .i64 x.arr, .int .i64 x.start, .int .i64 x.len, .int .i64 x.cap] 26) := by rw [← hw0]; exact (by simpa using heap_alloc_new (w.alloc (.cells #[.slice A m.length cap, .int .i64 g.w.arr, .int .i64 g.w.start, .int .i64 g.w.len, .int .i64 g.w.cap, .int .i64 g.us, .slice B g.ms.length kc] 29)) (.cells #[.int .i64 x.arr, .int .i64 x.start, .int .i64 x.len, .int .i64 x.cap] 26))
  have hlen : m.length ≤ maxLen := by omega
  have HS := Lib.hid (szArena_calls A B cap kc m g w0 1048576 (hr.on hb0).1 hlen hkl (by omega) (by omega))
  have HB := Lib.hid hb0
  have HW := Lib.hid hw0
  have HR := Lib.hid hr
  have HG := Lib.hid hg
  have HXx := Lib.hid hx
  obtain ⟨c0, c1, c2, c3, c4, c5, c6⟩ := ar_cells hg0
  have HA : Hid (∀ W, Below w0.heap.size w0 W → W.cell? ⟨w.heap.size, 0, none⟩ = some (.slice A m.length cap) ∧ W.cell? ⟨w.heap.size, 1, none⟩ = some (.int .i64 g.w.arr) ∧ W.cell? ⟨w.heap.size, 2, none⟩ = some (.int .i64 g.w.start) ∧ W.cell? ⟨w.heap.size, 3, none⟩ = some (.int .i64 g.w.len) ∧ W.cell? ⟨w.heap.size, 4, none⟩ = some (.int .i64 g.w.cap) ∧ W.cell? ⟨w.heap.size, 5, none⟩ = some (.int .i64 g.us) ∧ W.cell? ⟨w.heap.size, 6, none⟩ = some (.slice B g.ms.length kc) ∧ W.cell? ⟨w.heap.size + 1, 0, none⟩ = some (.int .i64 x.arr) ∧ W.cell? ⟨w.heap.size + 1, 1, none⟩ = some (.int .i64 x.start) ∧ W.cell? ⟨w.heap.size + 1, 2, none⟩ = some (.int .i64 x.len) ∧ W.cell? ⟨w.heap.size + 1, 3, none⟩ = some (.int .i64 x.cap)) := Lib.hid fun W hb => by
    obtain ⟨c0, c1, c2, c3, c4, c5, c6⟩ := ar_cells ((hb.block _ (Array.getElem?_eq_some_iff.1 hg0).1).trans hg0)
    obtain ⟨e00, e01, e02, e03⟩ := four_cells ((hb.block _ (Array.getElem?_eq_some_iff.1 hg1).1).trans hg1)
    exact ⟨c0, c1, c2, c3, c4, c5, c6, e00, e01, e02, e03⟩
  clear hr hb0 hw0 hzz  hg hx hg0 hg1 
  go_enter Try.func14, Try.ntmps14
  go_wp2_with fail
  rw [HW.out]
  refine HS.out.mono ?_
  rintro e w1 ⟨⟨r, rfl, hr⟩, hb1⟩
  have HR1 := Lib.hid hr
  have HBw := Lib.hid hb1
  clear hb1 c0 c1 c2 c3 c4 c5 c6
  by_cases hneg : r < 0
  · clear hr
    go_wp2_with fail
    go_ret
    exact ⟨rfl, HB.out.trans (HBw.out.mono HB.out.size)⟩
  · have hsz : m.length ≤ 1048576 ∧ total m ≤ 1048576 ∧ g.ms.length ≤ 1048576 := by omega
    have hro : ∀ q ∈ m, q.length ≤ 1048576 := fun q hq => Nat.le_trans (row_le m q hq) hsz.2.1
    have HSZ := Lib.hid (show m.length ≤ 2097152 ∧ total m ≤ 2097152 ∧ g.ms.length ≤ 2097152 by omega)
    have hk20 := HSZ.out.2.2
    have HT := Lib.hid (fun W (hb : Below w0.heap.size w0 W) => toArena_calls A B cap kc m g W (HR.out.on (HB.out.trans (hb.mono HB.out.size))) hsz.1 hro hsz.2.2)
    have HSP : Hid (∀ W X k Y j, RdA W W.heap.size X Y m g.ms →  Calls Try.prog 64 #[.agg #[.slice X m.length k, .int .i64 g.w.arr, .int .i64 g.w.start, .int .i64 g.w.len, .int .i64 g.w.cap, .int .i64 g.us, .slice Y g.ms.length j], .agg #[.int .i64 x.arr, .int .i64 x.start, .int .i64 x.len, .int .i64 x.cap]] W (fun e w' => e = .returned (.tuple #[.bool p0, .bool p1]) ∧ Below W.heap.size W w')) := Lib.hid (fun W X k Y j (hx : RdA W W.heap.size X Y m g.ms) => by have hq := specIsGiven_calls X Y k j m g x W hx hlen hkl; rw [hform] at hq; exact hq)
    have HIP : Hid (∀ W X k Y j, RdA W W.heap.size X Y m g.ms →  Calls Try.prog 65 #[.agg #[.slice X m.length k, .int .i64 g.w.arr, .int .i64 g.w.start, .int .i64 g.w.len, .int .i64 g.w.cap, .int .i64 g.us, .slice Y g.ms.length j], .agg #[.int .i64 x.arr, .int .i64 x.start, .int .i64 x.len, .int .i64 x.cap]] W (fun e w' => e = .returned (.tuple #[.bool p0, .bool p1]) ∧ Below W.heap.size W w')) := Lib.hid (fun W X k Y j (hx : RdA W W.heap.size X Y m g.ms) => by have hq := implIsGiven_calls X Y k j m g x W hx hlen hkl HG.out HXx.out; rw [hform] at hq; exact hq)
    have HE := Lib.hid (fun W X1 Y1 X2 Y2 cx dx cy dy (hx : RdA W W.heap.size X1 Y1 m g.ms) (hy : RdA W W.heap.size X2 Y2 m g.ms) => eqArena_same X1 Y1 X2 Y2 cx dx cy dy m g W hx hy hlen hk20)
    have hself0 : (p0 != p0) = false := by simp
    have hself1 : (p1 != p1) = false := by simp
    clear hr hsz hro hform  
    obtain ⟨d0, d1, d2, d3, d4, d5, d6, d7, d8, d9, d10⟩ := HA.out w1 HBw.out
    clear d0 d1 d2 d3 d4 d5 d6 d7 d8 d9 d10
    have HDp := Lib.hid ((Below.refl w1.heap.size w1).drew)
    obtain ⟨pa0, pa1, pa2, pa3, pa4, pa5, pa6, pa7, pa8, pa9, pa10⟩ := HA.out w1.drew (HBw.out.trans (HDp.out.mono HBw.out.size))
    go_wp2_with fail
    go_region_held3 (fun W => W.cell? ⟨w.heap.size, 0, none⟩ = some (.slice A m.length cap) ∧ W.cell? ⟨w.heap.size, 1, none⟩ = some (.int .i64 g.w.arr) ∧ W.cell? ⟨w.heap.size, 2, none⟩ = some (.int .i64 g.w.start) ∧ W.cell? ⟨w.heap.size, 3, none⟩ = some (.int .i64 g.w.len) ∧ W.cell? ⟨w.heap.size, 4, none⟩ = some (.int .i64 g.w.cap) ∧ W.cell? ⟨w.heap.size, 5, none⟩ = some (.int .i64 g.us) ∧ W.cell? ⟨w.heap.size, 6, none⟩ = some (.slice B g.ms.length kc) ∧ W.cell? ⟨w.heap.size + 1, 0, none⟩ = some (.int .i64 x.arr) ∧ W.cell? ⟨w.heap.size + 1, 1, none⟩ = some (.int .i64 x.start) ∧ W.cell? ⟨w.heap.size + 1, 2, none⟩ = some (.int .i64 x.len) ∧ W.cell? ⟨w.heap.size + 1, 3, none⟩ = some (.int .i64 x.cap))
      (first | (with_reducible exact ⟨pa0, pa1, pa2, pa3, pa4, pa5, pa6, pa7, pa8, pa9, pa10⟩) | exact HA.out _ (HBw.out.trans (pc3.mono HBw.out.size)) | exact HA.out _ (HBw.out.trans (pc2.mono HBw.out.size)) | exact HA.out _ (HBw.out.trans (pc1.mono HBw.out.size)) | fail)
      (first | (go_at_call 64; refine (HSP.out pw2 Aa ka Ba ja pr2).mono ?_; rintro e pw3 ⟨rfl, pb3⟩; have pc3 := pc2.trans (pb3.mono pc2.size)) | (go_at_call 26; refine (toWin_calls _ _ _ _ _).mono ?_; rintro e pw2 ⟨rfl, pb2⟩; have pc2 := pc1.trans (pb2.mono pc1.size); have pr2 := hoa.reads.on pb2) | (go_at_call 20; refine (HT.out _ (HBw.out.trans (HDp.out.mono HBw.out.size))).mono ?_; rintro e pw1 ⟨va, ua, rfl, hoa, pb1⟩; obtain ⟨Aa, ka, Ba, ja, rfl, rfl, hka⟩ := hoa.form; have pc1 := HDp.out.trans pb1))
    replace HBw := Lib.hid (HBw.out.trans (pc3.mono HBw.out.size))
    clear pb1 pb2 pb3 pc1 pc2 pc3 pr2 hoa hka HDp pa0 pa1 pa2 pa3 pa4 pa5 pa6 pa7 pa8 pa9 pa10
    have hsP := HBw.out.size
    obtain ⟨d0, d1, d2, d3, d4, d5, d6, d7, d8, d9, d10⟩ := HA.out pw3 HBw.out
    go_wp2_with fail
    refine (HT.out _ HBw.out).mono ?_
    rintro e w5 ⟨v5, u5, rfl, ho5, hb5⟩
    obtain ⟨A5, k5, B5, j5, rfl, rfl, hk5⟩ := ho5.form
    obtain ⟨w6, hw6⟩ : ∃ w6, w5.alloc (.cells #[.slice A5 m.length k5, .int .i64 g.w.arr, .int .i64 g.w.start, .int .i64 g.w.len, .int .i64 g.w.cap, .int .i64 g.us, .slice B5 g.ms.length j5] 35) = w6 := ⟨_, rfl⟩
    have hb6 : Below w5.heap.size w5 w6 := by rw [← hw6]; exact (Below.refl _ _).alloc (Nat.le_refl _) _
    have hx6 : w6.heap[w5.heap.size]? = some (.cells #[.slice A5 m.length k5, .int .i64 g.w.arr, .int .i64 g.w.start, .int .i64 g.w.len, .int .i64 g.w.cap, .int .i64 g.us, .slice B5 g.ms.length j5] 35) := by rw [← hw6]; exact heap_alloc_new _ _
    have HMX := Lib.hid (ABox.mk' (q := g) (mk := g.ms) (b := pw3.heap.size) hx6 (ho5.below hb6) hb5.size (Nat.le_refl _) hb6.size (Nat.le_trans hb5.size hb6.size) (.inr (Nat.le_refl _)))
    have hz45 : pw3.heap.size ≤ w5.heap.size := hb5.size
    replace HBw := Lib.hid (HBw.out.trans (hb5.mono HBw.out.size))
    replace HBw := Lib.hid (HBw.out.trans (hb6.mono HBw.out.size))
    have HW6 := Lib.hid hw6
    have hz56 : w5.heap.size < w6.heap.size := (Array.getElem?_eq_some_iff.1 hx6).1
    clear d0 d1 d2 d3 d4 d5 d6 d7 d8 d9 d10 ho5 hb5 hb6 hw6 hx6 hk5
    go_upto_region 7 with fail
    rw [HW6.out]
    obtain ⟨x0, x1, x2, x3, x4, x5, x6⟩ := HMX.out.cells
    clear x0 x1 x2 x3 x4 x5 x6
    have HDq := Lib.hid ((Below.refl w6.heap.size w6).drew)
    have HQA : Hid (∀ W, Below w6.heap.size w6 W → W.cell? ⟨w5.heap.size, 0, none⟩ = some (.slice A5 m.length k5) ∧ W.cell? ⟨w5.heap.size, 1, none⟩ = some (.int .i64 g.w.arr) ∧ W.cell? ⟨w5.heap.size, 2, none⟩ = some (.int .i64 g.w.start) ∧ W.cell? ⟨w5.heap.size, 3, none⟩ = some (.int .i64 g.w.len) ∧ W.cell? ⟨w5.heap.size, 4, none⟩ = some (.int .i64 g.w.cap) ∧ W.cell? ⟨w5.heap.size, 5, none⟩ = some (.int .i64 g.us) ∧ W.cell? ⟨w5.heap.size, 6, none⟩ = some (.slice B5 g.ms.length j5) ∧ W.cell? ⟨w.heap.size + 1, 0, none⟩ = some (.int .i64 x.arr) ∧ W.cell? ⟨w.heap.size + 1, 1, none⟩ = some (.int .i64 x.start) ∧ W.cell? ⟨w.heap.size + 1, 2, none⟩ = some (.int .i64 x.len) ∧ W.cell? ⟨w.heap.size + 1, 3, none⟩ = some (.int .i64 x.cap)) := Lib.hid fun W hb => by
      obtain ⟨b0, b1, b2, b3, b4, b5, b6⟩ := (HMX.out.below hb).cells
      obtain ⟨_, _, _, _, _, _, _, a0, a1, a2, a3⟩ := HA.out W (HBw.out.trans (hb.mono HBw.out.size))
      exact ⟨b0, b1, b2, b3, b4, b5, b6, a0, a1, a2, a3⟩
    obtain ⟨qa0, qa1, qa2, qa3, qa4, qa5, qa6, qa7, qa8, qa9, qa10⟩ := HQA.out w6.drew HDq.out
    go_wp2_with fail
    go_region_held3 (fun W => W.cell? ⟨w5.heap.size, 0, none⟩ = some (.slice A5 m.length k5) ∧ W.cell? ⟨w5.heap.size, 1, none⟩ = some (.int .i64 g.w.arr) ∧ W.cell? ⟨w5.heap.size, 2, none⟩ = some (.int .i64 g.w.start) ∧ W.cell? ⟨w5.heap.size, 3, none⟩ = some (.int .i64 g.w.len) ∧ W.cell? ⟨w5.heap.size, 4, none⟩ = some (.int .i64 g.w.cap) ∧ W.cell? ⟨w5.heap.size, 5, none⟩ = some (.int .i64 g.us) ∧ W.cell? ⟨w5.heap.size, 6, none⟩ = some (.slice B5 g.ms.length j5) ∧ W.cell? ⟨w.heap.size + 1, 0, none⟩ = some (.int .i64 x.arr) ∧ W.cell? ⟨w.heap.size + 1, 1, none⟩ = some (.int .i64 x.start) ∧ W.cell? ⟨w.heap.size + 1, 2, none⟩ = some (.int .i64 x.len) ∧ W.cell? ⟨w.heap.size + 1, 3, none⟩ = some (.int .i64 x.cap))
      (first | (with_reducible exact ⟨qa0, qa1, qa2, qa3, qa4, qa5, qa6, qa7, qa8, qa9, qa10⟩) | exact HQA.out _ qc2 | exact HQA.out _ qc1 | fail)
      (first | (go_at_call 65; refine (HIP.out qw1 A5 k5 B5 j5 (HMX.out.below qc1).own.reads).mono ?_; rintro e qw2 ⟨rfl, qb2⟩; have qc2 := qc1.trans (qb2.mono qc1.size)) | (go_at_call 26; refine (toWin_calls _ _ _ _ _).mono ?_; rintro e qw1 ⟨rfl, qb1⟩; have qc1 := HDq.out.trans qb1))
    replace HMX := Lib.hid (HMX.out.below qc2)
    replace HBw := Lib.hid (HBw.out.trans (qc2.mono HBw.out.size))
    clear qb1 qb2 qc1 qc2 HDq HQA qa0 qa1 qa2 qa3 qa4 qa5 qa6 qa7 qa8 qa9 qa10
    have HD9 := Lib.hid ((Below.refl qw2.heap.size qw2).drew)
    have HY : Hid (∀ W, Below qw2.heap.size qw2 W → W.cell? ⟨w.heap.size, 0, none⟩ = some (.slice A m.length cap) ∧ W.cell? ⟨w.heap.size, 1, none⟩ = some (.int .i64 g.w.arr) ∧ W.cell? ⟨w.heap.size, 2, none⟩ = some (.int .i64 g.w.start) ∧ W.cell? ⟨w.heap.size, 3, none⟩ = some (.int .i64 g.w.len) ∧ W.cell? ⟨w.heap.size, 4, none⟩ = some (.int .i64 g.w.cap) ∧ W.cell? ⟨w.heap.size, 5, none⟩ = some (.int .i64 g.us) ∧ W.cell? ⟨w.heap.size, 6, none⟩ = some (.slice B g.ms.length kc) ∧ W.cell? ⟨w5.heap.size, 0, none⟩ = some (.slice A5 m.length k5) ∧ W.cell? ⟨w5.heap.size, 1, none⟩ = some (.int .i64 g.w.arr) ∧ W.cell? ⟨w5.heap.size, 2, none⟩ = some (.int .i64 g.w.start) ∧ W.cell? ⟨w5.heap.size, 3, none⟩ = some (.int .i64 g.w.len) ∧ W.cell? ⟨w5.heap.size, 4, none⟩ = some (.int .i64 g.w.cap) ∧ W.cell? ⟨w5.heap.size, 5, none⟩ = some (.int .i64 g.us) ∧ W.cell? ⟨w5.heap.size, 6, none⟩ = some (.slice B5 g.ms.length j5)) := Lib.hid fun W hb => by
      obtain ⟨a0, a1, a2, a3, a4, a5, a6, _, _, _, _⟩ := HA.out W (HBw.out.trans (hb.mono HBw.out.size))
      obtain ⟨b0, b1, b2, b3, b4, b5, b6⟩ := (HMX.out.below hb).cells
      exact ⟨a0, a1, a2, a3, a4, a5, a6, b0, b1, b2, b3, b4, b5, b6⟩
    obtain ⟨y0, y1, y2, y3, y4, y5, y6, z0, z1, z2, z3, z4, z5, z6⟩ := HY.out qw2.drew HD9.out
    go_wp2_with fail
    go_region_held3 (fun W => W.cell? ⟨w.heap.size, 0, none⟩ = some (.slice A m.length cap) ∧ W.cell? ⟨w.heap.size, 1, none⟩ = some (.int .i64 g.w.arr) ∧ W.cell? ⟨w.heap.size, 2, none⟩ = some (.int .i64 g.w.start) ∧ W.cell? ⟨w.heap.size, 3, none⟩ = some (.int .i64 g.w.len) ∧ W.cell? ⟨w.heap.size, 4, none⟩ = some (.int .i64 g.w.cap) ∧ W.cell? ⟨w.heap.size, 5, none⟩ = some (.int .i64 g.us) ∧ W.cell? ⟨w.heap.size, 6, none⟩ = some (.slice B g.ms.length kc) ∧ W.cell? ⟨w5.heap.size, 0, none⟩ = some (.slice A5 m.length k5) ∧ W.cell? ⟨w5.heap.size, 1, none⟩ = some (.int .i64 g.w.arr) ∧ W.cell? ⟨w5.heap.size, 2, none⟩ = some (.int .i64 g.w.start) ∧ W.cell? ⟨w5.heap.size, 3, none⟩ = some (.int .i64 g.w.len) ∧ W.cell? ⟨w5.heap.size, 4, none⟩ = some (.int .i64 g.w.cap) ∧ W.cell? ⟨w5.heap.size, 5, none⟩ = some (.int .i64 g.us) ∧ W.cell? ⟨w5.heap.size, 6, none⟩ = some (.slice B5 g.ms.length j5))
      (first | (with_reducible exact ⟨y0, y1, y2, y3, y4, y5, y6, z0, z1, z2, z3, z4, z5, z6⟩) | exact HY.out _ hc9 | exact HY.out _ hc10)
      (first | (go_at_call 20; refine (HT.out _ HBw.out.drew).mono ?_; rintro e w10 ⟨v9, u9, rfl, ho9, hb9⟩; obtain ⟨A9, k9, B9, j9, rfl, rfl, hk9⟩ := ho9.form; have hc9 := HD9.out.trans hb9) | (go_at_call 22; refine (HE.out w10 A5 B5 A9 B9 k5 j5 k9 j9 (HMX.out.below hc9).own.reads ho9.reads).mono ?_; rintro e w22 ⟨rfl, hb10⟩; have hc10 := hc9.trans (hb10.mono hc9.size)))
    replace HMX := Lib.hid (HMX.out.below hc10)
    replace HBw := Lib.hid (HBw.out.trans (hc10.mono HBw.out.size))
    clear hb9 hb10 hc9 hc10 ho9 hk9 HY HD9 y0 y1 y2 y3 y4 y5 y6 z0 z1 z2 z3 z4 z5 z6
    go_wp2_with fail
    go_ret
    exact ⟨rfl, HB.out.trans (HBw.out.mono HB.out.size)⟩
end Go.Proofs.Ytadmllfcnjekcaa
