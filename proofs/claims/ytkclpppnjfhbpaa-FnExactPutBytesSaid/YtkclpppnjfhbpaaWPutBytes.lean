/-
  FnExactPutBytes: the walk.
-/
import Derived.Test.YtkclpppnjfhbpaaBox2
import Derived.Test.YtkclpppnjfhbpaaGpH
import Derived.Deep.DeepCutAuto
import Derived.Test.YtkclpppnjfhbpaaGpJ
import Derived.Test.YtkclpppnjfhbpaaGpK
import Derived.Test.YtkclpppnjfhbpaaGpL
namespace Go.Proofs.Ytkclpppnjfhbpaa
open Go.RowKit

set_option maxRecDepth 100000 in
set_option maxHeartbeats 12800000 in
theorem fnExactPutBytes_walk (A : Option Addr) (len cap : Nat) (m : List (List Int)) (g : Gp)   (Al : Option Addr) (lenl capl : Nat) (zl : List Int) (w : World) (h : MArg w A len cap m) (hg : GArgW g)   (hl : IntArg .u8 w Al lenl capl zl) :
    Calls Try.prog 8 #[.agg #[.slice A len cap, .int .i64 g.w.arr, .int .i64 g.w.start, .int .i64 g.w.len, .int .i64 g.w.cap, .int .i64 g.fr, .int .i64 g.up], .slice Al lenl capl] w fun e w' => e = .returned (.bool true) ∧ Below w.heap.size w w' := by
  obtain ⟨rfl, h1, h2, hr, hzz⟩ := h
  obtain ⟨rfl, hl1l, hl2l, hlrl, hlzl⟩ := hl
  have hsm := putBytesR_small m g zl
  obtain ⟨R, q0, p1, hform⟩ : ∃ (R : List (List Int)) (q0 : Gp) (p1 : Bool), putBytesR m g zl = (R, q0, p1) := ⟨_, _, _, rfl⟩
  rw [hform] at hsm
  obtain ⟨hR1, hR2, hR3⟩ := hsm.tot
  obtain ⟨w0, hw0⟩ : ∃ w0, (w.alloc (.cells #[.slice A m.length cap, .int .i64 g.w.arr, .int .i64 g.w.start, .int .i64 g.w.len, .int .i64 g.w.cap, .int .i64 g.fr, .int .i64 g.up] 28)) = w0 := ⟨_, rfl⟩
  have hb0 : Below w.heap.size w w0 := by rw [← hw0]; (repeat (first | (with_reducible exact Below.refl _ _) | (with_reducible refine Below.drew ?_) | ((with_reducible refine Below.alloc ?_ ?hB _); case hB => (first | (with_reducible exact Nat.le_refl _) | omega | (simp; done) | (simp; omega))) | ((with_reducible refine Below.setCell ?_ ?hB _); case hB => (first | (with_reducible exact Nat.le_refl _) | omega | (simp; done) | (simp; omega)))))
  have hg0 : w0.heap[w.heap.size]? = some (.cells #[.slice A m.length cap, .int .i64 g.w.arr, .int .i64 g.w.start, .int .i64 g.w.len, .int .i64 g.w.cap, .int .i64 g.fr, .int .i64 g.up] 28) := by rw [← hw0]; exact heap_alloc_new _ _
  have hlen : m.length ≤ maxLen := by omega
  have HS := Lib.hid (szGap_calls A cap m g w0 1048576 ((hr.below hb0).more hb0.size) hlen (by omega) (by omega))
  have HB := Lib.hid hb0
  have HW := Lib.hid hw0
  have HR := Lib.hid hr
  have HG := Lib.hid hg
  have HLRl := Lib.hid hlrl
  obtain ⟨c0, c1, c2, c3, c4, c5, c6⟩ := gap_cells hg0
  have HA : Hid (∀ W, Below w0.heap.size w0 W → W.cell? ⟨w.heap.size, 0, none⟩ = some (.slice A m.length cap) ∧ W.cell? ⟨w.heap.size, 1, none⟩ = some (.int .i64 g.w.arr) ∧ W.cell? ⟨w.heap.size, 2, none⟩ = some (.int .i64 g.w.start) ∧ W.cell? ⟨w.heap.size, 3, none⟩ = some (.int .i64 g.w.len) ∧ W.cell? ⟨w.heap.size, 4, none⟩ = some (.int .i64 g.w.cap) ∧ W.cell? ⟨w.heap.size, 5, none⟩ = some (.int .i64 g.fr) ∧ W.cell? ⟨w.heap.size, 6, none⟩ = some (.int .i64 g.up)) := Lib.hid fun W hb => by
    obtain ⟨c0, c1, c2, c3, c4, c5, c6⟩ := gap_cells ((hb.block _ (Array.getElem?_eq_some_iff.1 hg0).1).trans hg0)
    exact ⟨c0, c1, c2, c3, c4, c5, c6⟩
  clear hr hb0 hw0 hzz hsm hg  hg0 hlrl hlzl
  by_cases hlb : 1048576 < zl.length
  · have hlb2 : (1048576 : Int) < (zl.length : Int) := by omega
    go_enter Try.func8, Try.ntmps8
    go_wp2_with fail
    go_ret
    exact ⟨rfl, by (repeat (first | (with_reducible exact Below.refl _ _) | (with_reducible refine Below.drew ?_) | ((with_reducible refine Below.alloc ?_ ?hB _); case hB => (first | (with_reducible exact Nat.le_refl _) | omega | (simp; done) | (simp; omega))) | ((with_reducible refine Below.setCell ?_ ?hB _); case hB => (first | (with_reducible exact Nat.le_refl _) | omega | (simp; done) | (simp; omega)))))⟩
  have hlb2 : ¬ (1048576 : Int) < (zl.length : Int) := by omega
  have hlm : zl.length ≤ 1048576 := by omega
  clear hlb
  go_enter Try.func8, Try.ntmps8
  go_wp2_with fail
  rw [HW.out]
  refine HS.out.mono ?_
  rintro e w1 ⟨⟨r, rfl, hr⟩, hb1⟩
  have HR1 := Lib.hid hr
  have HBw := Lib.hid hb1
  clear hb1 c0 c1 c2 c3 c4 c5 c6
  by_cases hneg : r < 0
  · clear hr
    go_wp2_with fail
    go_ret
    exact ⟨rfl, HB.out.trans (HBw.out.mono HB.out.size)⟩
  · have hsz : m.length ≤ 1048576 ∧ total m ≤ 1048576 := by omega
    have hro : ∀ q ∈ m, q.length ≤ 1048576 := fun q hq => Nat.le_trans (row_le m q hq) hsz.2
    have HSZ := Lib.hid (show m.length ≤ 2097152 ∧ total m ≤ 2097152 by omega)
    have HT := Lib.hid (fun W (hb : Below w0.heap.size w0 W) => toGap_calls A cap m g W ((HR.out.below (HB.out.trans (hb.mono HB.out.size))).more (Nat.le_trans HB.out.size hb.size)) hsz.1 hro)
    have HTL := Lib.hid (fun W (hb : Below w0.heap.size w0 W) => toByteS_calls Al capl zl W ((HLRl.out.below (HB.out.trans (hb.mono HB.out.size))).more (Nat.le_trans HB.out.size hb.size)) hlm)
    have HEL := Lib.hid (fun W X Y cx cy (hx : Rd W W.heap.size X (intV .u8 zl)) (hy : Rd W W.heap.size Y (intV .u8 zl)) => eqB_calls X Y cx cy W hx hy (by omega))
    have HSP : Hid (∀ W X k, Rd2 W W.heap.size X m → ∀ Y k2, zl.length ≤ k2 → Rd W W.heap.size Y (intV .u8 zl) → Calls Try.prog 40 #[.agg #[.slice X m.length k, .int .i64 g.w.arr, .int .i64 g.w.start, .int .i64 g.w.len, .int .i64 g.w.cap, .int .i64 g.fr, .int .i64 g.up], .slice Y zl.length k2] W (fun e w' => ∃ v, e = .returned (.tuple #[.agg #[v, .int .i64 q0.w.arr, .int .i64 q0.w.start, .int .i64 q0.w.len, .int .i64 q0.w.cap, .int .i64 q0.fr, .int .i64 q0.up], .bool p1]) ∧ OwnM w' W.heap.size w'.heap.size v R ∧ Below W.heap.size W w')) := Lib.hid (fun W X k (hx : Rd2 W W.heap.size X m) Y k2 hyk hy => by have hq := specPutBytes_calls X k m g Y k2 zl W hx hlen hyk (by omega) hy; rw [hform] at hq; exact hq)
    have HIP : Hid (∀ W X k, Rd2 W W.heap.size X m → ∀ Y k2, zl.length ≤ k2 → Rd W W.heap.size Y (intV .u8 zl) → Calls Try.prog 42 #[.agg #[.slice X m.length k, .int .i64 g.w.arr, .int .i64 g.w.start, .int .i64 g.w.len, .int .i64 g.w.cap, .int .i64 g.fr, .int .i64 g.up], .slice Y zl.length k2] W (fun e w' => ∃ v, e = .returned (.tuple #[.agg #[v, .int .i64 q0.w.arr, .int .i64 q0.w.start, .int .i64 q0.w.len, .int .i64 q0.w.cap, .int .i64 q0.fr, .int .i64 q0.up], .bool p1]) ∧ OwnM w' W.heap.size w'.heap.size v R ∧ Below W.heap.size W w')) := Lib.hid (fun W X k (hx : Rd2 W W.heap.size X m) Y k2 hyk hy => by have hq := implPutBytes_calls X k m g Y k2 zl W hx hlen HG.out hyk (by omega) hy; rw [hform] at hq; exact hq)
    have HE := Lib.hid (fun W X Y cx cy (hx : Rd2 W W.heap.size X m) (hy : Rd2 W W.heap.size Y m) => eqGap_same X Y cx cy m g W hx hy hlen)
    have HER := Lib.hid (fun W X Y cx cy (hx : Rd2 W W.heap.size X R) (hy : Rd2 W W.heap.size Y R) => eqGap_same X Y cx cy R q0 W hx hy hR3)
    have hself1 : (p1 != p1) = false := by simp
    clear hr hsz hro hform hR3 hlb2
    obtain ⟨d0, d1, d2, d3, d4, d5, d6⟩ := HA.out w1 HBw.out
    go_wp2_with fail
    refine (HT.out _ HBw.out).mono ?_
    rintro e w21 ⟨va, rfl, hoa, hbn⟩
    obtain ⟨Aa, ka, rfl, hka⟩ := hoa.form
    have HRa := Lib.hid hoa.reads
    replace HBw := Lib.hid (HBw.out.trans (hbn.mono HBw.out.size))
    clear hbn hoa hka
    go_wp2_with fail
    refine (HTL.out _ HBw.out).mono ?_
    rintro e w22 ⟨va2, rfl, hol, hbn⟩
    obtain ⟨La, lka, rfl⟩ := own_form hol
    have hlka := own_cap hol
    have HLa : Hid (Rd w22 w22.heap.size La (intV .u8 zl)) := Lib.hid (Rd.of_own hol)
    replace HRa := Lib.hid ((HRa.out.below hbn).more hbn.size)
    replace HBw := Lib.hid (HBw.out.trans (hbn.mono HBw.out.size))
    clear hbn hol
    clear d0 d1 d2 d3 d4 d5 d6
    go_wp2_with fail
    refine (HSP.out w22 Aa ka HRa.out La lka hlka HLa.out).mono ?_
    rintro e w23 ⟨vP, rfl, hoP, hbn⟩
    obtain ⟨AP0, cP0, rfl, hcf⟩ := hoP.form
    replace HBw := Lib.hid (HBw.out.trans (hbn.mono HBw.out.size))
    obtain ⟨w24, hww24⟩ : ∃ w24, (w23.alloc (.cells #[.slice AP0 R.length cP0, .int .i64 q0.w.arr, .int .i64 q0.w.start, .int .i64 q0.w.len, .int .i64 q0.w.cap, .int .i64 q0.fr, .int .i64 q0.up] 34)) = w24 := ⟨_, rfl⟩
    have hbw24 : Below w23.heap.size w23 w24 := by rw [← hww24]; (repeat (first | (with_reducible exact Below.refl _ _) | (with_reducible refine Below.drew ?_) | ((with_reducible refine Below.alloc ?_ ?hB _); case hB => (first | (with_reducible exact Nat.le_refl _) | omega | (simp; done) | (simp; omega))) | ((with_reducible refine Below.setCell ?_ ?hB _); case hB => (first | (with_reducible exact Nat.le_refl _) | omega | (simp; done) | (simp; omega)))))
    have hxP0 : w24.heap[w23.heap.size]? = some (.cells #[.slice AP0 R.length cP0, .int .i64 q0.w.arr, .int .i64 q0.w.start, .int .i64 q0.w.len, .int .i64 q0.w.cap, .int .i64 q0.fr, .int .i64 q0.up] 34) := by rw [← hww24]; exact (by simpa using heap_alloc_new w23 (.cells #[.slice AP0 R.length cP0, .int .i64 q0.w.arr, .int .i64 q0.w.start, .int .i64 q0.w.len, .int .i64 q0.w.cap, .int .i64 q0.fr, .int .i64 q0.up] 34))
    have HMP0 := Lib.hid (GBox.mk' (q := q0) (b := w22.heap.size) hxP0 (hoP.below hbw24) hbn.size (Nat.le_refl _) hbw24.size (Nat.le_trans hbn.size hbw24.size) (.inr (by omega)))
    replace HBw := Lib.hid (HBw.out.trans (hbw24.mono HBw.out.size))
    have HWw24 := Lib.hid hww24
    clear hbn hoP hcf hbw24 hww24 hxP0
    go_upto_region 8 with fail
    rw [HWw24.out]
    have hbP0 := HMP0.out.hiW
    have hgP0 := HMP0.out.gW
    have hsP := HBw.out.size
    clear HRa HLa hlka
    obtain ⟨d0, d1, d2, d3, d4, d5, d6⟩ := HA.out w24 HBw.out
    go_wp2_with fail
    refine (HT.out _ HBw.out).mono ?_
    rintro e w5 ⟨v5, rfl, ho5, hb5⟩
    obtain ⟨A5, k5, rfl, hk5⟩ := ho5.form
    obtain ⟨w6, hw6⟩ : ∃ w6, w5.alloc (.cells #[.slice A5 m.length k5, .int .i64 g.w.arr, .int .i64 g.w.start, .int .i64 g.w.len, .int .i64 g.w.cap, .int .i64 g.fr, .int .i64 g.up] 34) = w6 := ⟨_, rfl⟩
    have hb6 : Below w5.heap.size w5 w6 := by rw [← hw6]; exact (Below.refl _ _).alloc (Nat.le_refl _) _
    have hx6 : w6.heap[w5.heap.size]? = some (.cells #[.slice A5 m.length k5, .int .i64 g.w.arr, .int .i64 g.w.start, .int .i64 g.w.len, .int .i64 g.w.cap, .int .i64 g.fr, .int .i64 g.up] 34) := by rw [← hw6]; exact heap_alloc_new _ _
    have HMX := Lib.hid (GBox.mk' (q := g) (b := w24.heap.size) hx6 (ho5.below hb6) hb5.size (Nat.le_refl _) hb6.size (Nat.le_trans hb5.size hb6.size) (.inr (Nat.le_refl _)))
    have hz45 : w24.heap.size ≤ w5.heap.size := hb5.size
    replace HMP0 := Lib.hid (HMP0.out.below hb5)
    replace HBw := Lib.hid (HBw.out.trans (hb5.mono HBw.out.size))
    replace HMP0 := Lib.hid (HMP0.out.below hb6)
    replace HBw := Lib.hid (HBw.out.trans (hb6.mono HBw.out.size))
    have HW6 := Lib.hid hw6
    have hz56 : w5.heap.size < w6.heap.size := (Array.getElem?_eq_some_iff.1 hx6).1
    clear d0 d1 d2 d3 d4 d5 d6 ho5 hb5 hb6 hw6 hx6 hk5
    go_upto_region 9 with fail
    rw [HW6.out]
    go_wp2_with fail
    refine (HTL.out _ HBw.out).mono ?_
    rintro e w7 ⟨v7, rfl, ho7, hb7⟩
    obtain ⟨A7, k7, rfl⟩ := own_form ho7
    have hlk7 := own_cap ho7
    have HLX : Hid (OwnR w7 w6.heap.size w7.heap.size 5 (.slice A7 zl.length k7) (intV .u8 zl)) := Lib.hid (OwnR.new (by rw [intV_len]; exact ho7))
    have hlo7 : w6.heap.size ≤ w7.heap.size := hb7.size
    have hz67 : w6.heap.size ≤ w7.heap.size := hb7.size
    replace HMP0 := Lib.hid (HMP0.out.below hb7)
    replace HMX := Lib.hid (HMX.out.below hb7)
    replace HBw := Lib.hid (HBw.out.trans (hb7.mono HBw.out.size))
    clear ho7 hb7
    obtain ⟨x0, x1, x2, x3, x4, x5, x6⟩ := HMX.out.cells
    go_wp2_with fail
    refine (HIP.out w7 A5 k5 HMX.out.own.reads A7 k7 hlk7 HLX.out.rd).mono ?_
    rintro e w26 ⟨vQ, rfl, hoQ, hbn⟩
    obtain ⟨AQ0, cQ0, rfl, hcf⟩ := hoQ.form
    replace HMP0 := Lib.hid (HMP0.out.below hbn)
    replace HMX := Lib.hid (HMX.out.below hbn)
    replace HLX := Lib.hid (HLX.out.below hbn)
    replace hlo7 := Nat.le_trans hlo7 hbn.size
    replace HBw := Lib.hid (HBw.out.trans (hbn.mono HBw.out.size))
    obtain ⟨w27, hww27⟩ : ∃ w27, (w26.alloc (.cells #[.slice AQ0 R.length cQ0, .int .i64 q0.w.arr, .int .i64 q0.w.start, .int .i64 q0.w.len, .int .i64 q0.w.cap, .int .i64 q0.fr, .int .i64 q0.up] 34)) = w27 := ⟨_, rfl⟩
    have hbw27 : Below w26.heap.size w26 w27 := by rw [← hww27]; (repeat (first | (with_reducible exact Below.refl _ _) | (with_reducible refine Below.drew ?_) | ((with_reducible refine Below.alloc ?_ ?hB _); case hB => (first | (with_reducible exact Nat.le_refl _) | omega | (simp; done) | (simp; omega))) | ((with_reducible refine Below.setCell ?_ ?hB _); case hB => (first | (with_reducible exact Nat.le_refl _) | omega | (simp; done) | (simp; omega)))))
    have hxQ0 : w27.heap[w26.heap.size]? = some (.cells #[.slice AQ0 R.length cQ0, .int .i64 q0.w.arr, .int .i64 q0.w.start, .int .i64 q0.w.len, .int .i64 q0.w.cap, .int .i64 q0.fr, .int .i64 q0.up] 34) := by rw [← hww27]; exact (by simpa using heap_alloc_new w26 (.cells #[.slice AQ0 R.length cQ0, .int .i64 q0.w.arr, .int .i64 q0.w.start, .int .i64 q0.w.len, .int .i64 q0.w.cap, .int .i64 q0.fr, .int .i64 q0.up] 34))
    have HMQ0 := Lib.hid (GBox.mk' (q := q0) (b := w7.heap.size) hxQ0 (hoQ.below hbw27) hbn.size (Nat.le_refl _) hbw27.size (Nat.le_trans hbn.size hbw27.size) (.inr (by omega)))
    replace HMP0 := Lib.hid (HMP0.out.below hbw27)
    replace HMX := Lib.hid (HMX.out.below hbw27)
    replace HLX := Lib.hid (HLX.out.below hbw27)
    replace hlo7 := Nat.le_trans hlo7 hbw27.size
    replace HBw := Lib.hid (HBw.out.trans (hbw27.mono HBw.out.size))
    have HWw27 := Lib.hid hww27
    clear hbn hoQ hcf hbw27 hww27 hxQ0
    go_upto_region 11 with fail
    rw [HWw27.out]
    clear x0 x1 x2 x3 x4 x5 x6
    have hbQ0 := HMQ0.out.blo
    have hgQ0 := HMQ0.out.bg
    obtain ⟨s0, s1, s2, s3, s4, s5, s6⟩ := HMQ0.out.cells
    obtain ⟨t0, t1, t2, t3, t4, t5, t6⟩ := HMP0.out.cells
    go_wp2_with fail
    refine (HER.out w27 AQ0 AP0 cQ0 cP0 HMQ0.out.own.reads HMP0.out.own.reads).mono ?_
    rintro e w28 ⟨rfl, hbn⟩
    replace HMP0 := Lib.hid (HMP0.out.below hbn)
    replace HMX := Lib.hid (HMX.out.below hbn)
    replace HLX := Lib.hid (HLX.out.below hbn)
    replace HMQ0 := Lib.hid (HMQ0.out.below hbn)
    replace hlo7 := Nat.le_trans hlo7 hbn.size
    replace HBw := Lib.hid (HBw.out.trans (hbn.mono HBw.out.size))
    clear hbn s0 s1 s2 s3 s4 s5 s6 t0 t1 t2 t3 t4 t5 t6
    have HD9 := Lib.hid ((Below.refl w28.heap.size w28).drew)
    have HY : Hid (∀ W, Below w28.heap.size w28 W → W.cell? ⟨w.heap.size, 0, none⟩ = some (.slice A m.length cap) ∧ W.cell? ⟨w.heap.size, 1, none⟩ = some (.int .i64 g.w.arr) ∧ W.cell? ⟨w.heap.size, 2, none⟩ = some (.int .i64 g.w.start) ∧ W.cell? ⟨w.heap.size, 3, none⟩ = some (.int .i64 g.w.len) ∧ W.cell? ⟨w.heap.size, 4, none⟩ = some (.int .i64 g.w.cap) ∧ W.cell? ⟨w.heap.size, 5, none⟩ = some (.int .i64 g.fr) ∧ W.cell? ⟨w.heap.size, 6, none⟩ = some (.int .i64 g.up) ∧ W.cell? ⟨w5.heap.size, 0, none⟩ = some (.slice A5 m.length k5) ∧ W.cell? ⟨w5.heap.size, 1, none⟩ = some (.int .i64 g.w.arr) ∧ W.cell? ⟨w5.heap.size, 2, none⟩ = some (.int .i64 g.w.start) ∧ W.cell? ⟨w5.heap.size, 3, none⟩ = some (.int .i64 g.w.len) ∧ W.cell? ⟨w5.heap.size, 4, none⟩ = some (.int .i64 g.w.cap) ∧ W.cell? ⟨w5.heap.size, 5, none⟩ = some (.int .i64 g.fr) ∧ W.cell? ⟨w5.heap.size, 6, none⟩ = some (.int .i64 g.up)) := Lib.hid fun W hb => by
      obtain ⟨a0, a1, a2, a3, a4, a5, a6⟩ := HA.out W (HBw.out.trans (hb.mono HBw.out.size))
      obtain ⟨b0, b1, b2, b3, b4, b5, b6⟩ := (HMX.out.below hb).cells
      exact ⟨a0, a1, a2, a3, a4, a5, a6, b0, b1, b2, b3, b4, b5, b6⟩
    obtain ⟨y0, y1, y2, y3, y4, y5, y6, z0, z1, z2, z3, z4, z5, z6⟩ := HY.out w28.drew HD9.out
    go_wp2_with fail
    go_region_held3 (fun W => W.cell? ⟨w.heap.size, 0, none⟩ = some (.slice A m.length cap) ∧ W.cell? ⟨w.heap.size, 1, none⟩ = some (.int .i64 g.w.arr) ∧ W.cell? ⟨w.heap.size, 2, none⟩ = some (.int .i64 g.w.start) ∧ W.cell? ⟨w.heap.size, 3, none⟩ = some (.int .i64 g.w.len) ∧ W.cell? ⟨w.heap.size, 4, none⟩ = some (.int .i64 g.w.cap) ∧ W.cell? ⟨w.heap.size, 5, none⟩ = some (.int .i64 g.fr) ∧ W.cell? ⟨w.heap.size, 6, none⟩ = some (.int .i64 g.up) ∧ W.cell? ⟨w5.heap.size, 0, none⟩ = some (.slice A5 m.length k5) ∧ W.cell? ⟨w5.heap.size, 1, none⟩ = some (.int .i64 g.w.arr) ∧ W.cell? ⟨w5.heap.size, 2, none⟩ = some (.int .i64 g.w.start) ∧ W.cell? ⟨w5.heap.size, 3, none⟩ = some (.int .i64 g.w.len) ∧ W.cell? ⟨w5.heap.size, 4, none⟩ = some (.int .i64 g.w.cap) ∧ W.cell? ⟨w5.heap.size, 5, none⟩ = some (.int .i64 g.fr) ∧ W.cell? ⟨w5.heap.size, 6, none⟩ = some (.int .i64 g.up))
      (first | (with_reducible exact ⟨y0, y1, y2, y3, y4, y5, y6, z0, z1, z2, z3, z4, z5, z6⟩) | exact HY.out _ hc9 | exact HY.out _ hc10)
      (first | (go_at_call 20; refine (HT.out _ HBw.out.drew).mono ?_; rintro e w10 ⟨v9, rfl, ho9, hb9⟩; obtain ⟨A9, k9, rfl, hk9⟩ := ho9.form; have hc9 := HD9.out.trans hb9) | (go_at_call 22; refine (HE.out w10 A5 A9 k5 k9 (HMX.out.below hc9).own.reads ho9.reads).mono ?_; rintro e w29 ⟨rfl, hb10⟩; have hc10 := hc9.trans (hb10.mono hc9.size)))
    replace HMP0 := Lib.hid (HMP0.out.below hc10)
    replace HMX := Lib.hid (HMX.out.below hc10)
    replace HLX := Lib.hid (HLX.out.below hc10)
    replace HMQ0 := Lib.hid (HMQ0.out.below hc10)
    replace hlo7 := Nat.le_trans hlo7 hc10.size
    replace HBw := Lib.hid (HBw.out.trans (hc10.mono HBw.out.size))
    clear hb9 hb10 hc9 hc10 ho9 hk9 HY HD9 y0 y1 y2 y3 y4 y5 y6 z0 z1 z2 z3 z4 z5 z6
    go_wp2_with fail
    refine (HTL.out _ HBw.out).mono ?_
    rintro e w30 ⟨v9, rfl, ho9, hb9⟩
    obtain ⟨A9, k9, rfl⟩ := own_form ho9
    have HL9 : Hid (Rd w30 w30.heap.size A9 (intV .u8 zl)) := Lib.hid (Rd.of_own ho9)
    replace HMP0 := Lib.hid (HMP0.out.below hb9)
    replace HMX := Lib.hid (HMX.out.below hb9)
    replace HLX := Lib.hid (HLX.out.below hb9)
    replace HMQ0 := Lib.hid (HMQ0.out.below hb9)
    replace hlo7 := Nat.le_trans hlo7 hb9.size
    replace HBw := Lib.hid (HBw.out.trans (hb9.mono HBw.out.size))
    clear ho9 hb9
    go_wp2_with fail
    refine (HEL.out w30 A7 A9 k7 k9 HLX.out.rd HL9.out).mono ?_
    rintro e w31 ⟨rfl, hb9⟩
    replace HMP0 := Lib.hid (HMP0.out.below hb9)
    replace HMX := Lib.hid (HMX.out.below hb9)
    replace HLX := Lib.hid (HLX.out.below hb9)
    replace HMQ0 := Lib.hid (HMQ0.out.below hb9)
    replace hlo7 := Nat.le_trans hlo7 hb9.size
    replace HBw := Lib.hid (HBw.out.trans (hb9.mono HBw.out.size))
    clear hb9 HL9
    have HK := Lib.hid (markG1_calls A5 k5 w24.heap.size w5.heap.size m g w31 HMX.out.own HSZ.out.1 HSZ.out.2 (Nat.le_trans hz45 HMX.out.hiW) HMX.out.hiW)
    obtain ⟨x0, x1, x2, x3, x4, x5, x6⟩ := HMX.out.cells
    go_wp2_with fail
    refine HK.out.mono ?_
    rintro e w32 ⟨rfl, ho12, hs12⟩
    replace HMP0 := Lib.hid (HMP0.out.span hs12 (.inl (by omega)) (.inl (by omega)))
    replace HMQ0 := Lib.hid (HMQ0.out.span hs12 (.inr (by omega)) (.inr (by omega)))
    replace hlo7 := Nat.le_trans hlo7 hs12.size
    replace HLX := Lib.hid (HLX.out.span hs12 (.inr (by omega)))
    replace HBw := Lib.hid (HBw.out.trans ((hs12.below (Nat.le_trans hz45 HMX.out.hiW)).mono (by omega)))
    have hsX := hs12.size
    have hpos : ¬ ((1 : Int) + (total m : Nat)) < 0 := by omega
    clear ho12 hs12 x0 x1 x2 x3 x4 x5 x6
    have hm12 := HSZ.out.2
    have hlo7b := hlo7
    have HK3 := Lib.hid (markBk_calls A7 k7 w6.heap.size w7.heap.size zl (1 + total m) (1 + (total m : Nat)) w32 HLX.out (by omega) (by omega) (by omega) hlo7)
    go_wp2_with fail
    refine HK3.out.mono ?_
    rintro e w33 ⟨rfl, ho12, hs12⟩
    replace HMP0 := Lib.hid (HMP0.out.span hs12 (.inl (by omega)) (.inl (by omega)))
    replace HMQ0 := Lib.hid (HMQ0.out.span hs12 (.inr (by omega)) (.inr (by omega)))
    replace hlo7 := Nat.le_trans hlo7 hs12.size
    replace HBw := Lib.hid (HBw.out.trans ((hs12.below hlo7b).mono (by omega)))
    have hpos2 : ¬ ((1 : Int) + (total m : Nat) + (zl.length : Nat)) < 0 := by omega
    clear ho12 hs12
    obtain ⟨s0, s1, s2, s3, s4, s5, s6⟩ := HMQ0.out.cells
    obtain ⟨t0, t1, t2, t3, t4, t5, t6⟩ := HMP0.out.cells
    go_wp2_with fail
    refine (HER.out w33 AQ0 AP0 cQ0 cP0 HMQ0.out.own.reads HMP0.out.own.reads).mono ?_
    rintro e w34 ⟨rfl, hbn⟩
    replace HMP0 := Lib.hid (HMP0.out.below hbn)
    replace HMQ0 := Lib.hid (HMQ0.out.below hbn)
    replace hlo7 := Nat.le_trans hlo7 hbn.size
    replace HBw := Lib.hid (HBw.out.trans (hbn.mono HBw.out.size))
    clear hbn s0 s1 s2 s3 s4 s5 s6 t0 t1 t2 t3 t4 t5 t6
    have hz13 := HMQ0.out.hiW
    have hlohi := HMQ0.out.loW
    have HK2 := Lib.hid (markG1_calls AQ0 cQ0 _ _ R q0 w34 HMQ0.out.own hR1 hR2 hlohi hz13)
    obtain ⟨s0, s1, s2, s3, s4, s5, s6⟩ := HMQ0.out.cells
    clear hpos hpos2
    go_wp2_with fail
    refine HK2.out.mono ?_
    rintro e w35 ⟨rfl, ho14, hs14⟩
    replace HMQ0 := Lib.hid (HMQ0.out.marked hs14 ho14)
    replace HMP0 := Lib.hid (HMP0.out.span hs14 (.inl (by omega)) (.inl (by omega)))
    replace HBw := Lib.hid (HBw.out.trans ((hs14.below hlohi).mono (by omega)))
    clear ho14 hs14 s0 s1 s2 s3 s4 s5 s6
    have hposR : ¬ ((1 : Int) + (total R : Nat)) < 0 := by omega
    have HH := Lib.hid (heldG1_calls AQ0 cQ0 _ _ R q0 w35 HMQ0.out.own hR1 hR2)
    obtain ⟨s0, s1, s2, s3, s4, s5, s6⟩ := HMQ0.out.cells
    go_wp2_with fail
    refine HH.out.mono ?_
    rintro e w36 ⟨rfl, hbn⟩
    replace HMP0 := Lib.hid (HMP0.out.below hbn)
    replace HMQ0 := Lib.hid (HMQ0.out.below hbn)
    replace HBw := Lib.hid (HBw.out.trans (hbn.mono HBw.out.size))
    clear hbn HH s0 s1 s2 s3 s4 s5 s6
    have hselfR : (((1 : Int) + (total R : Nat)) != 1 + (total R : Nat)) = false := by simp
    obtain ⟨d0, d1, d2, d3, d4, d5, d6⟩ := HA.out w36 HBw.out
    go_wp2_with fail
    refine (HT.out _ HBw.out).mono ?_
    rintro e w37 ⟨va, rfl, hoa, hbn⟩
    obtain ⟨Aa, ka, rfl, hka⟩ := hoa.form
    have HRa := Lib.hid hoa.reads
    replace HMP0 := Lib.hid (HMP0.out.below hbn)
    replace HMQ0 := Lib.hid (HMQ0.out.below hbn)
    replace HBw := Lib.hid (HBw.out.trans (hbn.mono HBw.out.size))
    clear hbn hoa hka
    go_wp2_with fail
    refine (HTL.out _ HBw.out).mono ?_
    rintro e w38 ⟨va2, rfl, hol, hbn⟩
    obtain ⟨La, lka, rfl⟩ := own_form hol
    have hlka := own_cap hol
    have HLa : Hid (Rd w38 w38.heap.size La (intV .u8 zl)) := Lib.hid (Rd.of_own hol)
    replace HRa := Lib.hid ((HRa.out.below hbn).more hbn.size)
    replace HMP0 := Lib.hid (HMP0.out.below hbn)
    replace HMQ0 := Lib.hid (HMQ0.out.below hbn)
    replace HBw := Lib.hid (HBw.out.trans (hbn.mono HBw.out.size))
    clear hbn hol
    clear d0 d1 d2 d3 d4 d5 d6
    go_wp2_with fail
    refine (HIP.out w38 Aa ka HRa.out La lka hlka HLa.out).mono ?_
    rintro e w39 ⟨vT, rfl, hoT, hbn⟩
    obtain ⟨AT0, cT0, rfl, hcf⟩ := hoT.form
    replace HMP0 := Lib.hid (HMP0.out.below hbn)
    replace HMQ0 := Lib.hid (HMQ0.out.below hbn)
    replace HBw := Lib.hid (HBw.out.trans (hbn.mono HBw.out.size))
    obtain ⟨w40, hww40⟩ : ∃ w40, (w39.alloc (.cells #[.slice AT0 R.length cT0, .int .i64 q0.w.arr, .int .i64 q0.w.start, .int .i64 q0.w.len, .int .i64 q0.w.cap, .int .i64 q0.fr, .int .i64 q0.up] 34)) = w40 := ⟨_, rfl⟩
    have hbw40 : Below w39.heap.size w39 w40 := by rw [← hww40]; (repeat (first | (with_reducible exact Below.refl _ _) | (with_reducible refine Below.drew ?_) | ((with_reducible refine Below.alloc ?_ ?hB _); case hB => (first | (with_reducible exact Nat.le_refl _) | omega | (simp; done) | (simp; omega))) | ((with_reducible refine Below.setCell ?_ ?hB _); case hB => (first | (with_reducible exact Nat.le_refl _) | omega | (simp; done) | (simp; omega)))))
    have hxT0 : w40.heap[w39.heap.size]? = some (.cells #[.slice AT0 R.length cT0, .int .i64 q0.w.arr, .int .i64 q0.w.start, .int .i64 q0.w.len, .int .i64 q0.w.cap, .int .i64 q0.fr, .int .i64 q0.up] 34) := by rw [← hww40]; exact (by simpa using heap_alloc_new w39 (.cells #[.slice AT0 R.length cT0, .int .i64 q0.w.arr, .int .i64 q0.w.start, .int .i64 q0.w.len, .int .i64 q0.w.cap, .int .i64 q0.fr, .int .i64 q0.up] 34))
    have HMT0 := Lib.hid (GBox.mk' (q := q0) (b := w38.heap.size) hxT0 (hoT.below hbw40) hbn.size (Nat.le_refl _) hbw40.size (Nat.le_trans hbn.size hbw40.size) (.inr (by omega)))
    replace HMP0 := Lib.hid (HMP0.out.below hbw40)
    replace HMQ0 := Lib.hid (HMQ0.out.below hbw40)
    replace HBw := Lib.hid (HBw.out.trans (hbw40.mono HBw.out.size))
    have HWw40 := Lib.hid hww40
    clear hbn hoT hcf hbw40 hww40 hxT0
    go_upto_region 31 with fail
    rw [HWw40.out]
    obtain ⟨s0, s1, s2, s3, s4, s5, s6⟩ := HMT0.out.cells
    obtain ⟨t0, t1, t2, t3, t4, t5, t6⟩ := HMP0.out.cells
    go_wp2_with fail
    refine (HER.out w40 AT0 AP0 cT0 cP0 HMT0.out.own.reads HMP0.out.own.reads).mono ?_
    rintro e w41 ⟨rfl, hbn⟩
    replace HMP0 := Lib.hid (HMP0.out.below hbn)
    replace HMQ0 := Lib.hid (HMQ0.out.below hbn)
    replace HMT0 := Lib.hid (HMT0.out.below hbn)
    replace HBw := Lib.hid (HBw.out.trans (hbn.mono HBw.out.size))
    clear hbn s0 s1 s2 s3 s4 s5 s6 t0 t1 t2 t3 t4 t5 t6
    have HH := Lib.hid (heldG1_calls AQ0 cQ0 _ _ R q0 w41 HMQ0.out.own hR1 hR2)
    obtain ⟨s0, s1, s2, s3, s4, s5, s6⟩ := HMQ0.out.cells
    go_wp2_with fail
    refine HH.out.mono ?_
    rintro e w42 ⟨rfl, hbn⟩
    replace HMP0 := Lib.hid (HMP0.out.below hbn)
    replace HMQ0 := Lib.hid (HMQ0.out.below hbn)
    replace HMT0 := Lib.hid (HMT0.out.below hbn)
    replace HBw := Lib.hid (HBw.out.trans (hbn.mono HBw.out.size))
    clear hbn HH s0 s1 s2 s3 s4 s5 s6
    go_wp2_with fail
    go_ret
    exact ⟨rfl, HB.out.trans (HBw.out.mono HB.out.size)⟩
end Go.Proofs.Ytkclpppnjfhbpaa
