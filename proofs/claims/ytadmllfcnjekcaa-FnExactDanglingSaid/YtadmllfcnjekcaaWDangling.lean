/-
  FnExactDangling: the walk.
-/
import Derived.Test.YtadmllfcnjekcaaArH
import Derived.Deep.DeepCutAuto
import Derived.Test.YtadmllfcnjekcaaArZ3
import Derived.Test.YtadmllfcnjekcaaWinsL
namespace Go.Proofs.Ytadmllfcnjekcaa
open Go.RowKit

set_option maxRecDepth 100000 in
set_option maxHeartbeats 12800000 in
theorem fnExactDangling_walk (A : Option Addr) (len cap : Nat) (m : List (List Int)) (B : Option Addr) (kl kc : Nat) (g : An)   (AL : Option Addr) (lenL capL : Nat) (zL : List Win) (w : World) (h : AArg w A len cap m B kl kc g)   (hL : WsArg w AL lenL capL zL) :
    Calls Try.prog 13 #[.agg #[.slice A len cap, .int .i64 g.w.arr, .int .i64 g.w.start, .int .i64 g.w.len, .int .i64 g.w.cap, .int .i64 g.us, .slice B kl kc], .slice AL lenL capL] w fun e w' => e = .returned (.bool true) ∧ Below w.heap.size w w' := by
  obtain ⟨⟨rfl, h1, h2, hr0, hzz⟩, ⟨rfl, hk1, hk2, hrk, hkz⟩, hgw, hgu⟩ := h
  have hr : RdA w w.heap.size A B m g.ms := ⟨hr0, hrk⟩
  have hkl : g.ms.length ≤ maxLen := by omega
  have hg : AArgW g := ⟨hgw, hgu, hkl, hkz⟩
  clear hr0 hrk hgw hgu hkz
  obtain ⟨rfl, hl1L, hl2L, hlrL, hlzL⟩ := hL
  obtain ⟨R, p1, hform⟩ : ∃ (R : List Int) (p1 : Bool), dangR m g zL = (R, p1) := ⟨_, _, rfl⟩
  obtain ⟨w0, hw0⟩ : ∃ w0, (w.alloc (.cells #[.slice A m.length cap, .int .i64 g.w.arr, .int .i64 g.w.start, .int .i64 g.w.len, .int .i64 g.w.cap, .int .i64 g.us, .slice B g.ms.length kc] 29)) = w0 := ⟨_, rfl⟩
  have hb0 : Below w.heap.size w w0 := by rw [← hw0]; (repeat (first | (with_reducible exact Below.refl _ _) | (with_reducible refine Below.drew ?_) | ((with_reducible refine Below.alloc ?_ ?hB _); case hB => (first | (with_reducible exact Nat.le_refl _) | omega | (simp; done) | (simp; omega))) | ((with_reducible refine Below.setCell ?_ ?hB _); case hB => (first | (with_reducible exact Nat.le_refl _) | omega | (simp; done) | (simp; omega)))))
  have hg0 : w0.heap[w.heap.size]? = some (.cells #[.slice A m.length cap, .int .i64 g.w.arr, .int .i64 g.w.start, .int .i64 g.w.len, .int .i64 g.w.cap, .int .i64 g.us, .slice B g.ms.length kc] 29) := by rw [← hw0]; exact heap_alloc_new _ _
  have hlen : m.length ≤ maxLen := by omega
  have HS := Lib.hid (szArena_calls A B cap kc m g w0 1048576 (hr.on hb0).1 hlen hkl (by omega) (by omega))
  have HB := Lib.hid hb0
  have HW := Lib.hid hw0
  have HR := Lib.hid hr
  have HG := Lib.hid hg
  have HLRL := Lib.hid hlrL
  have HKAL := Lib.hid hlzL
  obtain ⟨c0, c1, c2, c3, c4, c5, c6⟩ := ar_cells hg0
  have HA : Hid (∀ W, Below w0.heap.size w0 W → W.cell? ⟨w.heap.size, 0, none⟩ = some (.slice A m.length cap) ∧ W.cell? ⟨w.heap.size, 1, none⟩ = some (.int .i64 g.w.arr) ∧ W.cell? ⟨w.heap.size, 2, none⟩ = some (.int .i64 g.w.start) ∧ W.cell? ⟨w.heap.size, 3, none⟩ = some (.int .i64 g.w.len) ∧ W.cell? ⟨w.heap.size, 4, none⟩ = some (.int .i64 g.w.cap) ∧ W.cell? ⟨w.heap.size, 5, none⟩ = some (.int .i64 g.us) ∧ W.cell? ⟨w.heap.size, 6, none⟩ = some (.slice B g.ms.length kc)) := Lib.hid fun W hb => by
    obtain ⟨c0, c1, c2, c3, c4, c5, c6⟩ := ar_cells ((hb.block _ (Array.getElem?_eq_some_iff.1 hg0).1).trans hg0)
    exact ⟨c0, c1, c2, c3, c4, c5, c6⟩
  clear hr hb0 hw0 hzz  hg  hg0 hlrL hlzL
  have hllL : zL.length ≤ maxLen := by omega
  go_enter Try.func13, Try.ntmps13
  go_wp2_with fail
  rw [HW.out]
  refine HS.out.mono ?_
  rintro e w1 ⟨⟨r, rfl, hr⟩, hb1⟩
  have HR1 := Lib.hid hr
  have HBw := Lib.hid hb1
  clear hb1 c0 c1 c2 c3 c4 c5 c6
  by_cases hneg : r < 0
  · clear hr
    go_wp2_with fail
    go_ret
    exact ⟨rfl, HB.out.trans (HBw.out.mono HB.out.size)⟩
  · have hsz : m.length ≤ 1048576 ∧ total m ≤ 1048576 ∧ g.ms.length ≤ 1048576 := by omega
    have hro : ∀ q ∈ m, q.length ≤ 1048576 := fun q hq => Nat.le_trans (row_le m q hq) hsz.2.1
    have HSZ := Lib.hid (show m.length ≤ 2097152 ∧ total m ≤ 2097152 ∧ g.ms.length ≤ 2097152 by omega)
    have hk20 := HSZ.out.2.2
    have HSZ2 := Lib.hid (show 1 + total m + g.ms.length ≤ 4194304 by omega)
    have HT := Lib.hid (fun W (hb : Below w0.heap.size w0 W) => toArena_calls A B cap kc m g W (HR.out.on (HB.out.trans (hb.mono HB.out.size))) hsz.1 hro hsz.2.2)
    have hr01 : 0 ≤ r ∧ r ≤ 1048576 := by omega
    obtain ⟨hr01, hr02⟩ := hr01
    have HSL := Lib.hid (szWindowS_calls AL zL.length capL w1 r hllL hr01 hr02)
    clear hr
    by_cases hneg2 : r < zL.length
    · rw [if_pos hneg2] at HSL
      clear hneg2 hsz hro
      go_wp2_with fail
      refine HSL.out.mono ?_
      rintro e wz ⟨rfl, rfl⟩
      go_wp2_with fail
      go_ret
      exact ⟨rfl, HB.out.trans (HBw.out.mono HB.out.size)⟩
    rw [if_neg hneg2] at HSL
    have hlm : zL.length ≤ 1048576 := by omega
    have hrl : ¬ (r - (zL.length : Int)) < 0 := by omega
    clear hneg2
    go_wp2_with fail
    refine HSL.out.mono ?_
    rintro e wz ⟨rfl, rfl⟩
    have HTL := Lib.hid (fun W (hb : Below w0.heap.size w0 W) => toWindowS_calls AL capL zL W ((HLRL.out.below (HB.out.trans (hb.mono HB.out.size))).more (Nat.le_trans HB.out.size hb.size)) hlm)
    have HEL := Lib.hid (fun W X Y cx cy (hx : RdW W W.heap.size X zL) (hy : RdW W W.heap.size Y zL) => eqWindowS_calls X Y cx cy zL W hx hy hlm)
    have hR1 : R.length ≤ 2097152 := by
      have hs := dangR_small m g zL
      rw [hform] at hs
      exact Nat.le_trans hs (by omega)
    have HSP : Hid (∀ W X k Y j, RdA W W.heap.size X Y m g.ms → ∀ Z k2, RdW W W.heap.size Z zL → Calls Try.prog 61 #[.agg #[.slice X m.length k, .int .i64 g.w.arr, .int .i64 g.w.start, .int .i64 g.w.len, .int .i64 g.w.cap, .int .i64 g.us, .slice Y g.ms.length j], .slice Z zL.length k2] W (fun e w' => ∃ v, e = .returned (.tuple #[v, .bool p1]) ∧ w'.ownsRow W.heap.size 3 1 v R.length (intV .i64 R) ∧ Below W.heap.size W w')) := Lib.hid (fun W X k Y j (hx : RdA W W.heap.size X Y m g.ms) Z k2 hy => by have hq := specDangling_calls X Y k j m g Z k2 zL W hx hlen hkl hy hlm; rw [hform] at hq; exact hq)
    have HIP : Hid (∀ W X k Y j, RdA W W.heap.size X Y m g.ms → ∀ Z k2, RdW W W.heap.size Z zL → Calls Try.prog 63 #[.agg #[.slice X m.length k, .int .i64 g.w.arr, .int .i64 g.w.start, .int .i64 g.w.len, .int .i64 g.w.cap, .int .i64 g.us, .slice Y g.ms.length j], .slice Z zL.length k2] W (fun e w' => ∃ v, e = .returned (.tuple #[v, .bool p1]) ∧ w'.ownsRow W.heap.size 3 1 v R.length (intV .i64 R) ∧ Below W.heap.size W w')) := Lib.hid (fun W X k Y j (hx : RdA W W.heap.size X Y m g.ms) Z k2 hy => by have hq := implDangling_calls X Y k j m g Z k2 zL W hx hlen hkl HG.out hy hlm HKAL.out; rw [hform] at hq; exact hq)
    have HE := Lib.hid (fun W X1 Y1 X2 Y2 cx dx cy dy (hx : RdA W W.heap.size X1 Y1 m g.ms) (hy : RdA W W.heap.size X2 Y2 m g.ms) => eqArena_same X1 Y1 X2 Y2 cx dx cy dy m g W hx hy hlen hk20)
    have HER := Lib.hid (fun W X Y cx cy (hx : Rd W W.heap.size X (intV .i64 R)) (hy : Rd W W.heap.size Y (intV .i64 R)) => eqI_calls X Y cx cy W hx hy hR1)
    have hself1 : (p1 != p1) = false := by simp
    clear  hsz hro hform  
    obtain ⟨d0, d1, d2, d3, d4, d5, d6⟩ := HA.out w1 HBw.out
    go_wp2_with fail
    refine (HT.out _ HBw.out).mono ?_
    rintro e w21 ⟨va, ua, rfl, hoa, hbn⟩
    obtain ⟨Aa, ka, Ba, ja, rfl, rfl, hka⟩ := hoa.form
    have HRa := Lib.hid hoa.reads
    replace HBw := Lib.hid (HBw.out.trans (hbn.mono HBw.out.size))
    clear hbn hoa hka
    go_wp2_with fail
    refine (HTL.out _ HBw.out).mono ?_
    rintro e w22 ⟨va2, rfl, hol, hbn⟩
    obtain ⟨La, lka, rfl⟩ := hol.form
    have HLa := Lib.hid hol.rd
    replace HRa := Lib.hid (HRa.out.on hbn)
    replace HBw := Lib.hid (HBw.out.trans (hbn.mono HBw.out.size))
    clear hbn hol
    clear d0 d1 d2 d3 d4 d5 d6
    go_wp2_with fail
    refine (HSP.out w22 Aa ka Ba ja HRa.out La lka HLa.out).mono ?_
    rintro e w23 ⟨vP, rfl, hoP, hbn⟩
    obtain ⟨AP0, cP0, rfl⟩ := own_form hoP
    replace HBw := Lib.hid (HBw.out.trans (hbn.mono HBw.out.size))
    have HMP0 : Hid (OwnR w23 w22.heap.size w23.heap.size 3 (.slice AP0 R.length cP0) (intV .i64 R)) := Lib.hid (OwnR.new (by rw [intV_len]; exact hoP))
    have hleP0 : w22.heap.size ≤ w23.heap.size := hbn.size
    clear hbn hoP
    have hhiP0 : w23.heap.size ≤ w23.heap.size := Nat.le_refl _
    have hsP := HBw.out.size
    clear HRa HLa
    obtain ⟨d0, d1, d2, d3, d4, d5, d6⟩ := HA.out w23 HBw.out
    go_wp2_with fail
    refine (HT.out _ HBw.out).mono ?_
    rintro e w5 ⟨v5, u5, rfl, ho5, hb5⟩
    obtain ⟨A5, k5, B5, j5, rfl, rfl, hk5⟩ := ho5.form
    obtain ⟨w6, hw6⟩ : ∃ w6, w5.alloc (.cells #[.slice A5 m.length k5, .int .i64 g.w.arr, .int .i64 g.w.start, .int .i64 g.w.len, .int .i64 g.w.cap, .int .i64 g.us, .slice B5 g.ms.length j5] 35) = w6 := ⟨_, rfl⟩
    have hb6 : Below w5.heap.size w5 w6 := by rw [← hw6]; exact (Below.refl _ _).alloc (Nat.le_refl _) _
    have hx6 : w6.heap[w5.heap.size]? = some (.cells #[.slice A5 m.length k5, .int .i64 g.w.arr, .int .i64 g.w.start, .int .i64 g.w.len, .int .i64 g.w.cap, .int .i64 g.us, .slice B5 g.ms.length j5] 35) := by rw [← hw6]; exact heap_alloc_new _ _
    have HMX := Lib.hid (ABox.mk' (q := g) (mk := g.ms) (b := w23.heap.size) hx6 (ho5.below hb6) hb5.size (Nat.le_refl _) hb6.size (Nat.le_trans hb5.size hb6.size) (.inr (Nat.le_refl _)))
    have hz45 : w23.heap.size ≤ w5.heap.size := hb5.size
    replace HMP0 := Lib.hid (HMP0.out.below hb5)
    replace HBw := Lib.hid (HBw.out.trans (hb5.mono HBw.out.size))
    replace HMP0 := Lib.hid (HMP0.out.below hb6)
    replace HBw := Lib.hid (HBw.out.trans (hb6.mono HBw.out.size))
    have HW6 := Lib.hid hw6
    have hz56 : w5.heap.size < w6.heap.size := (Array.getElem?_eq_some_iff.1 hx6).1
    clear d0 d1 d2 d3 d4 d5 d6 ho5 hb5 hb6 hw6 hx6 hk5
    go_upto_region 10 with fail
    rw [HW6.out]
    go_wp2_with fail
    refine (HTL.out _ HBw.out).mono ?_
    rintro e w7 ⟨v7, rfl, ho7, hb7⟩
    obtain ⟨A7, k7, rfl⟩ := ho7.form
    have HLX := Lib.hid ho7
    have hlo7 : w6.heap.size ≤ w7.heap.size := hb7.size
    have hz67 : w6.heap.size ≤ w7.heap.size := hb7.size
    replace HMP0 := Lib.hid (HMP0.out.below hb7)
    replace HMX := Lib.hid (HMX.out.below hb7)
    replace HBw := Lib.hid (HBw.out.trans (hb7.mono HBw.out.size))
    clear ho7 hb7
    obtain ⟨x0, x1, x2, x3, x4, x5, x6⟩ := HMX.out.cells
    go_wp2_with fail
    refine (HIP.out w7 A5 k5 B5 j5 HMX.out.own.reads A7 k7 HLX.out.rd).mono ?_
    rintro e w25 ⟨vQ, rfl, hoQ, hbn⟩
    obtain ⟨AQ0, cQ0, rfl⟩ := own_form hoQ
    replace HMP0 := Lib.hid (HMP0.out.below hbn)
    replace HMX := Lib.hid (HMX.out.below hbn)
    replace HLX := Lib.hid (HLX.out.below hbn)
    replace hlo7 := Nat.le_trans hlo7 hbn.size
    replace HBw := Lib.hid (HBw.out.trans (hbn.mono HBw.out.size))
    have HMQ0 : Hid (OwnR w25 w7.heap.size w25.heap.size 3 (.slice AQ0 R.length cQ0) (intV .i64 R)) := Lib.hid (OwnR.new (by rw [intV_len]; exact hoQ))
    have hleQ0 : w7.heap.size ≤ w25.heap.size := hbn.size
    clear hbn hoQ
    clear x0 x1 x2 x3 x4 x5 x6
    go_wp2_with fail
    refine (HER.out w25 AQ0 AP0 cQ0 cP0 (ownI_rd HMQ0.out) (ownI_rd HMP0.out)).mono ?_
    rintro e w26 ⟨rfl, hbn⟩
    replace HMP0 := Lib.hid (HMP0.out.below hbn)
    replace HMX := Lib.hid (HMX.out.below hbn)
    replace HLX := Lib.hid (HLX.out.below hbn)
    replace HMQ0 := Lib.hid (HMQ0.out.below hbn)
    replace hlo7 := Nat.le_trans hlo7 hbn.size
    replace hleQ0 := Nat.le_trans hleQ0 hbn.size
    replace HBw := Lib.hid (HBw.out.trans (hbn.mono HBw.out.size))
    clear hbn 
    have HD9 := Lib.hid ((Below.refl w26.heap.size w26).drew)
    have HY : Hid (∀ W, Below w26.heap.size w26 W → W.cell? ⟨w.heap.size, 0, none⟩ = some (.slice A m.length cap) ∧ W.cell? ⟨w.heap.size, 1, none⟩ = some (.int .i64 g.w.arr) ∧ W.cell? ⟨w.heap.size, 2, none⟩ = some (.int .i64 g.w.start) ∧ W.cell? ⟨w.heap.size, 3, none⟩ = some (.int .i64 g.w.len) ∧ W.cell? ⟨w.heap.size, 4, none⟩ = some (.int .i64 g.w.cap) ∧ W.cell? ⟨w.heap.size, 5, none⟩ = some (.int .i64 g.us) ∧ W.cell? ⟨w.heap.size, 6, none⟩ = some (.slice B g.ms.length kc) ∧ W.cell? ⟨w5.heap.size, 0, none⟩ = some (.slice A5 m.length k5) ∧ W.cell? ⟨w5.heap.size, 1, none⟩ = some (.int .i64 g.w.arr) ∧ W.cell? ⟨w5.heap.size, 2, none⟩ = some (.int .i64 g.w.start) ∧ W.cell? ⟨w5.heap.size, 3, none⟩ = some (.int .i64 g.w.len) ∧ W.cell? ⟨w5.heap.size, 4, none⟩ = some (.int .i64 g.w.cap) ∧ W.cell? ⟨w5.heap.size, 5, none⟩ = some (.int .i64 g.us) ∧ W.cell? ⟨w5.heap.size, 6, none⟩ = some (.slice B5 g.ms.length j5)) := Lib.hid fun W hb => by
      obtain ⟨a0, a1, a2, a3, a4, a5, a6⟩ := HA.out W (HBw.out.trans (hb.mono HBw.out.size))
      obtain ⟨b0, b1, b2, b3, b4, b5, b6⟩ := (HMX.out.below hb).cells
      exact ⟨a0, a1, a2, a3, a4, a5, a6, b0, b1, b2, b3, b4, b5, b6⟩
    obtain ⟨y0, y1, y2, y3, y4, y5, y6, z0, z1, z2, z3, z4, z5, z6⟩ := HY.out w26.drew HD9.out
    go_wp2_with fail
    go_region_held3 (fun W => W.cell? ⟨w.heap.size, 0, none⟩ = some (.slice A m.length cap) ∧ W.cell? ⟨w.heap.size, 1, none⟩ = some (.int .i64 g.w.arr) ∧ W.cell? ⟨w.heap.size, 2, none⟩ = some (.int .i64 g.w.start) ∧ W.cell? ⟨w.heap.size, 3, none⟩ = some (.int .i64 g.w.len) ∧ W.cell? ⟨w.heap.size, 4, none⟩ = some (.int .i64 g.w.cap) ∧ W.cell? ⟨w.heap.size, 5, none⟩ = some (.int .i64 g.us) ∧ W.cell? ⟨w.heap.size, 6, none⟩ = some (.slice B g.ms.length kc) ∧ W.cell? ⟨w5.heap.size, 0, none⟩ = some (.slice A5 m.length k5) ∧ W.cell? ⟨w5.heap.size, 1, none⟩ = some (.int .i64 g.w.arr) ∧ W.cell? ⟨w5.heap.size, 2, none⟩ = some (.int .i64 g.w.start) ∧ W.cell? ⟨w5.heap.size, 3, none⟩ = some (.int .i64 g.w.len) ∧ W.cell? ⟨w5.heap.size, 4, none⟩ = some (.int .i64 g.w.cap) ∧ W.cell? ⟨w5.heap.size, 5, none⟩ = some (.int .i64 g.us) ∧ W.cell? ⟨w5.heap.size, 6, none⟩ = some (.slice B5 g.ms.length j5))
      (first | (with_reducible exact ⟨y0, y1, y2, y3, y4, y5, y6, z0, z1, z2, z3, z4, z5, z6⟩) | exact HY.out _ hc9 | exact HY.out _ hc10)
      (first | (go_at_call 20; refine (HT.out _ HBw.out.drew).mono ?_; rintro e w10 ⟨v9, u9, rfl, ho9, hb9⟩; obtain ⟨A9, k9, B9, j9, rfl, rfl, hk9⟩ := ho9.form; have hc9 := HD9.out.trans hb9) | (go_at_call 22; refine (HE.out w10 A5 B5 A9 B9 k5 j5 k9 j9 (HMX.out.below hc9).own.reads ho9.reads).mono ?_; rintro e w27 ⟨rfl, hb10⟩; have hc10 := hc9.trans (hb10.mono hc9.size)))
    replace HMP0 := Lib.hid (HMP0.out.below hc10)
    replace HMX := Lib.hid (HMX.out.below hc10)
    replace HLX := Lib.hid (HLX.out.below hc10)
    replace HMQ0 := Lib.hid (HMQ0.out.below hc10)
    replace hlo7 := Nat.le_trans hlo7 hc10.size
    replace hleQ0 := Nat.le_trans hleQ0 hc10.size
    replace HBw := Lib.hid (HBw.out.trans (hc10.mono HBw.out.size))
    clear hb9 hb10 hc9 hc10 ho9 hk9 HY HD9 y0 y1 y2 y3 y4 y5 y6 z0 z1 z2 z3 z4 z5 z6
    go_wp2_with fail
    refine (HTL.out _ HBw.out).mono ?_
    rintro e w28 ⟨v9, rfl, ho9, hb9⟩
    obtain ⟨A9, k9, rfl⟩ := ho9.form
    have HL9 := Lib.hid ho9.rd
    replace HMP0 := Lib.hid (HMP0.out.below hb9)
    replace HMX := Lib.hid (HMX.out.below hb9)
    replace HLX := Lib.hid (HLX.out.below hb9)
    replace HMQ0 := Lib.hid (HMQ0.out.below hb9)
    replace hlo7 := Nat.le_trans hlo7 hb9.size
    replace hleQ0 := Nat.le_trans hleQ0 hb9.size
    replace HBw := Lib.hid (HBw.out.trans (hb9.mono HBw.out.size))
    clear ho9 hb9
    go_wp2_with fail
    refine (HEL.out w28 A7 A9 k7 k9 HLX.out.rd HL9.out).mono ?_
    rintro e w29 ⟨rfl, hb9⟩
    replace HMP0 := Lib.hid (HMP0.out.below hb9)
    replace HMX := Lib.hid (HMX.out.below hb9)
    replace HLX := Lib.hid (HLX.out.below hb9)
    replace HMQ0 := Lib.hid (HMQ0.out.below hb9)
    replace hlo7 := Nat.le_trans hlo7 hb9.size
    replace hleQ0 := Nat.le_trans hleQ0 hb9.size
    replace HBw := Lib.hid (HBw.out.trans (hb9.mono HBw.out.size))
    clear hb9 HL9
    have HK := Lib.hid (markA1_calls A5 B5 k5 j5 w23.heap.size w5.heap.size m g w29 HMX.out.own HSZ.out.1 HSZ.out.2.1 HSZ.out.2.2 (Nat.le_trans hz45 HMX.out.hiW) HMX.out.hiW)
    obtain ⟨x0, x1, x2, x3, x4, x5, x6⟩ := HMX.out.cells
    go_wp2_with fail
    refine HK.out.mono ?_
    rintro e w30 ⟨rfl, ho12, hs12⟩
    replace HMP0 := Lib.hid (HMP0.out.span hs12 (.inl (by omega)))
    replace HMQ0 := Lib.hid (HMQ0.out.span hs12 (.inr (by omega)))
    replace hlo7 := Nat.le_trans hlo7 hs12.size
    replace hleQ0 := Nat.le_trans hleQ0 hs12.size
    replace HLX := Lib.hid (HLX.out.span hs12 (.inr (by omega)))
    replace HBw := Lib.hid (HBw.out.trans ((hs12.below (Nat.le_trans hz45 HMX.out.hiW)).mono (by omega)))
    have hsX := hs12.size
    have hpos : ¬ ((1 : Int) + (total m : Nat) + (g.ms.length : Nat)) < 0 := by omega
    clear ho12 hs12 x0 x1 x2 x3 x4 x5 x6
    have hlo7b := hlo7
    have HK3 := Lib.hid (markWindowS_calls A7 k7 w6.heap.size w7.heap.size zL (1 + total m + g.ms.length) w30 HLX.out (by omega) HSZ2.out)
    rw [show (((1 + total m + g.ms.length : Nat) : Nat) : Int) = 1 + (total m : Nat) + (g.ms.length : Nat) by omega] at HK3
    go_wp2_with fail
    refine HK3.out.mono ?_
    rintro e w31 ⟨rfl, hs12⟩
    replace HMP0 := Lib.hid (HMP0.out.span hs12 (.inl (by omega)))
    replace HMQ0 := Lib.hid (HMQ0.out.span hs12 (.inr (by omega)))
    replace hlo7 := Nat.le_trans hlo7 hs12.size
    replace hleQ0 := Nat.le_trans hleQ0 hs12.size
    replace HBw := Lib.hid (HBw.out.trans ((hs12.below hlo7b).mono (by omega)))
    have hpos2 : ¬ (1 + (total m : Nat) + (g.ms.length : Nat) + 4 * (zL.length : Int)) < 0 := by omega
    clear hs12
    go_wp2_with fail
    refine (HER.out w31 AQ0 AP0 cQ0 cP0 (ownI_rd HMQ0.out) (ownI_rd HMP0.out)).mono ?_
    rintro e w32 ⟨rfl, hbn⟩
    replace HMP0 := Lib.hid (HMP0.out.below hbn)
    replace HMQ0 := Lib.hid (HMQ0.out.below hbn)
    replace hlo7 := Nat.le_trans hlo7 hbn.size
    replace hleQ0 := Nat.le_trans hleQ0 hbn.size
    replace HBw := Lib.hid (HBw.out.trans (hbn.mono HBw.out.size))
    clear hbn 
    have hlohi := hleQ0
    have HK2 := Lib.hid (markI1_calls w32 HMQ0.out hR1 hlohi)
    clear hpos hpos2
    go_wp2_with fail
    refine HK2.out.mono ?_
    rintro e w33 ⟨rfl, ho14, hs14⟩
    replace HMQ0 := Lib.hid ho14
    replace HMP0 := Lib.hid (HMP0.out.span hs14 (.inl (by omega)))
    replace HBw := Lib.hid (HBw.out.trans ((hs14.below hlohi).mono (by omega)))
    clear ho14 hs14 
    have hposR : ¬ ((1 : Int) + (R.length : Nat)) < 0 := by omega
    have HH := Lib.hid (heldI1_calls w33 HMQ0.out hR1)
    go_wp2_with fail
    refine HH.out.mono ?_
    rintro e w34 ⟨rfl, hbn⟩
    replace HMP0 := Lib.hid (HMP0.out.below hbn)
    replace HMQ0 := Lib.hid (HMQ0.out.below hbn)
    replace HBw := Lib.hid (HBw.out.trans (hbn.mono HBw.out.size))
    clear hbn HH 
    have hselfR : (((1 : Int) + (R.length : Nat)) != 1 + (R.length : Nat)) = false := by simp
    obtain ⟨d0, d1, d2, d3, d4, d5, d6⟩ := HA.out w34 HBw.out
    go_wp2_with fail
    refine (HT.out _ HBw.out).mono ?_
    rintro e w35 ⟨va, ua, rfl, hoa, hbn⟩
    obtain ⟨Aa, ka, Ba, ja, rfl, rfl, hka⟩ := hoa.form
    have HRa := Lib.hid hoa.reads
    replace HMP0 := Lib.hid (HMP0.out.below hbn)
    replace HMQ0 := Lib.hid (HMQ0.out.below hbn)
    replace HBw := Lib.hid (HBw.out.trans (hbn.mono HBw.out.size))
    clear hbn hoa hka
    go_wp2_with fail
    refine (HTL.out _ HBw.out).mono ?_
    rintro e w36 ⟨va2, rfl, hol, hbn⟩
    obtain ⟨La, lka, rfl⟩ := hol.form
    have HLa := Lib.hid hol.rd
    replace HRa := Lib.hid (HRa.out.on hbn)
    replace HMP0 := Lib.hid (HMP0.out.below hbn)
    replace HMQ0 := Lib.hid (HMQ0.out.below hbn)
    replace HBw := Lib.hid (HBw.out.trans (hbn.mono HBw.out.size))
    clear hbn hol
    clear d0 d1 d2 d3 d4 d5 d6
    go_wp2_with fail
    refine (HIP.out w36 Aa ka Ba ja HRa.out La lka HLa.out).mono ?_
    rintro e w37 ⟨vT, rfl, hoT, hbn⟩
    obtain ⟨AT0, cT0, rfl⟩ := own_form hoT
    replace HMP0 := Lib.hid (HMP0.out.below hbn)
    replace HMQ0 := Lib.hid (HMQ0.out.below hbn)
    replace HBw := Lib.hid (HBw.out.trans (hbn.mono HBw.out.size))
    have HMT0 : Hid (OwnR w37 w36.heap.size w37.heap.size 3 (.slice AT0 R.length cT0) (intV .i64 R)) := Lib.hid (OwnR.new (by rw [intV_len]; exact hoT))
    have hleT0 : w36.heap.size ≤ w37.heap.size := hbn.size
    clear hbn hoT
    go_wp2_with fail
    refine (HER.out w37 AT0 AP0 cT0 cP0 (ownI_rd HMT0.out) (ownI_rd HMP0.out)).mono ?_
    rintro e w38 ⟨rfl, hbn⟩
    replace HMP0 := Lib.hid (HMP0.out.below hbn)
    replace HMQ0 := Lib.hid (HMQ0.out.below hbn)
    replace HMT0 := Lib.hid (HMT0.out.below hbn)
    replace HBw := Lib.hid (HBw.out.trans (hbn.mono HBw.out.size))
    clear hbn 
    have HH := Lib.hid (heldI1_calls w38 HMQ0.out hR1)
    go_wp2_with fail
    refine HH.out.mono ?_
    rintro e w39 ⟨rfl, hbn⟩
    replace HMP0 := Lib.hid (HMP0.out.below hbn)
    replace HMQ0 := Lib.hid (HMQ0.out.below hbn)
    replace HMT0 := Lib.hid (HMT0.out.below hbn)
    replace HBw := Lib.hid (HBw.out.trans (hbn.mono HBw.out.size))
    clear hbn HH 
    go_wp2_with fail
    go_ret
    exact ⟨rfl, HB.out.trans (HBw.out.mono HB.out.size)⟩
end Go.Proofs.Ytadmllfcnjekcaa
