/-
  FnExactNewArray: the walk.
-/
import Derived.Test.YtbdaaeffbhcflaaBox2
import Derived.Deep.DeepCutAuto
import Derived.Test.YtbdaaeffbhcflaaNewS
namespace Go.Proofs.Ytbdaaeffbhcflaa
open Go.RowKit

set_option maxRecDepth 100000 in
set_option maxHeartbeats 12800000 in
theorem fnExactNewArray_walk (A : Option Addr) (len cap : Nat) (m : List (List Int))  (i : Int) (w : World) (h : MArg w A len cap m)  (hi : (Lit.int .i64 i).wf = true) :
    Calls Try.prog 8 #[.agg #[.slice A len cap], .int .i64 i] w fun e w' => e = .returned (.bool true) ∧ Below w.heap.size w w' := by
  obtain ⟨rfl, h1, h2, hr, hzz⟩ := h
  have hsm := newR_small  m i
  obtain ⟨R, q, p, hform⟩ : ∃ (R : List (List Int)) (q : Win) (p : Bool), newR m i = (R, q, p) := ⟨_, _, _, rfl⟩
  rw [hform] at hsm
  obtain ⟨hR1, hR2, hR3⟩ := hsm.tot
  skip
  obtain ⟨w0, hw0⟩ : ∃ w0, (w.alloc (.cells #[.slice A m.length cap] 66)) = w0 := ⟨_, rfl⟩
  have hb0 : Below w.heap.size w w0 := by rw [← hw0]; (repeat (first | (with_reducible exact Below.refl _ _) | (with_reducible refine Below.drew ?_) | ((with_reducible refine Below.alloc ?_ ?hB _); case hB => (first | (with_reducible exact Nat.le_refl _) | omega | (simp; done) | (simp; omega))) | ((with_reducible refine Below.setCell ?_ ?hB _); case hB => (first | (with_reducible exact Nat.le_refl _) | omega | (simp; done) | (simp; omega)))))
  have hg0 : w0.heap[w.heap.size]? = some (.cells #[.slice A m.length cap] 66) := by rw [← hw0]; exact heap_alloc_new _ _
  have hlen : m.length ≤ maxLen := by omega
  have HS := Lib.hid (szMemory_calls A cap m w0 1048576 ((hr.below hb0).more hb0.size) hlen (by omega) (by omega))
  have HB := Lib.hid hb0
  have HW := Lib.hid hw0
  have HR := Lib.hid hr
  have c0 := one_cell hg0
  have HA : Hid (∀ W, Below w0.heap.size w0 W → W.cell? ⟨w.heap.size, 0, none⟩ = some (.slice A m.length cap)) := Lib.hid fun W hb => by
    exact one_cell ((hb.block _ (Array.getElem?_eq_some_iff.1 hg0).1).trans hg0)
  clear hr hb0 hw0 hzz hsm  hg0
  go_enter Try.func8, Try.ntmps8
  go_wp2_with fail
  rw [HW.out]
  refine HS.out.mono ?_
  rintro e w1 ⟨⟨r, rfl, hr⟩, hb1⟩
  have HR1 := Lib.hid hr
  have HBw1 := Lib.hid hb1
  clear hb1 c0
  by_cases hneg : r < 0
  · clear hr
    go_wp2_with fail
    go_ret
    exact ⟨rfl, HB.out.trans (HBw1.out.mono HB.out.size)⟩
  · have hsz : m.length ≤ 1048576 ∧ total m ≤ 1048576 := by omega
    have hro : ∀ q ∈ m, q.length ≤ 1048576 := fun q hq => Nat.le_trans (row_le m q hq) hsz.2
    have HSZ := Lib.hid (show m.length ≤ 2097152 ∧ total m ≤ 2097152 by omega)
    have HT := Lib.hid (fun W (hb : Below w0.heap.size w0 W) => toMemory_calls A cap m W ((HR.out.below (HB.out.trans (hb.mono HB.out.size))).more (Nat.le_trans HB.out.size hb.size)) hsz.1 hro)
    have HSP : Hid (∀ W X k, Rd2 W W.heap.size X m → Calls Try.prog 30 #[.agg #[.slice X m.length k], .int .i64 i] W fun e w' => ∃ v, e = .returned (.tuple #[.agg #[v], .agg #[.int .i64 q.arr, .int .i64 q.start, .int .i64 q.len, .int .i64 q.cap], .bool p]) ∧ OwnM w' W.heap.size w'.heap.size v R ∧ Below W.heap.size W w') := Lib.hid (fun W X k (hx : Rd2 W W.heap.size X m) => by have hq := specNewArray_calls X k m i W hx hlen; rw [hform] at hq; exact hq)
    have HIP : Hid (∀ W X k, Rd2 W W.heap.size X m → Calls Try.prog 29 #[.agg #[.slice X m.length k], .int .i64 i] W fun e w' => ∃ v, e = .returned (.tuple #[.agg #[v], .agg #[.int .i64 q.arr, .int .i64 q.start, .int .i64 q.len, .int .i64 q.cap], .bool p]) ∧ OwnM w' W.heap.size w'.heap.size v R ∧ Below W.heap.size W w') := Lib.hid (fun W X k (hx : Rd2 W W.heap.size X m) => by have hq := implNewArray_calls X k m i W hx hlen; rw [hform] at hq; exact hq)
    have HE := Lib.hid (fun W X Y cx cy (hx : Rd2 W W.heap.size X m) (hy : Rd2 W W.heap.size Y m) => eqSame_calls X Y cx cy m W hx hy hlen)
    have HER := Lib.hid (fun W X Y cx cy (hx : Rd2 W W.heap.size X R) (hy : Rd2 W W.heap.size Y R) => eqSame_calls X Y cx cy R W hx hy hR3)
    have hself : (p != p) = false := by simp
    have HEW : Hid (∀ W, Calls Try.prog 64 #[.agg #[.int .i64 q.arr, .int .i64 q.start, .int .i64 q.len, .int .i64 q.cap], .agg #[.int .i64 q.arr, .int .i64 q.start, .int .i64 q.len, .int .i64 q.cap]] W fun e w' => e = .returned (.bool true) ∧ Below W.heap.size W w') := Lib.hid fun W => by have h := eqWindow_calls q q W; rw [show decide (q = q) = true by simp] at h; exact h
    clear hr hsz hro hform hR3
    have HTw1 : Hid (∀ W (hb : Below w1.heap.size w1 W), Calls Try.prog 59 #[.agg #[.slice A m.length cap]] W fun e w' => ∃ v, e = .returned (.agg #[v]) ∧ OwnM w' W.heap.size w'.heap.size v m ∧ Below W.heap.size W w') := Lib.hid fun W hb => HT.out W (HBw1.out.trans (hb.mono HBw1.out.size))
    have HAw1 : Hid (∀ W, Below w1.heap.size w1 W → W.cell? ⟨w.heap.size, 0, none⟩ = some (.slice A m.length cap)) := Lib.hid fun W hb => HA.out W (HBw1.out.trans (hb.mono HBw1.out.size))
    have HDw1 := HBw1.out.size
    have pa0 := HAw1.out w1 (Below.refl _ _)
    go_wp2_with fail
    refine (HTw1.out w1 (Below.refl _ _)).mono ?_
    rintro e pw1 ⟨pv, rfl, po, pb1⟩
    obtain ⟨pA, pk, rfl, phk⟩ := po.form
    have pR := Lib.hid po.reads
    clear po pa0 phk
    go_wp2_with fail
    refine (HSP.out pw1 pA pk pR.out).mono ?_
    rintro e pw2 ⟨vP, rfl, po2, pb2⟩
    obtain ⟨AP, cP, rfl, hcP⟩ := po2.form
    obtain ⟨w4, hw4⟩ : ∃ w4, (pw2.alloc (.cells #[.slice AP R.length cP] 26)).alloc (.cells #[.int .i64 q.arr, .int .i64 q.start, .int .i64 q.len, .int .i64 q.cap] 28) = w4 := ⟨_, rfl⟩
    have pb3 : Below pw2.heap.size pw2 w4 := by rw [← hw4]; exact ((Below.refl _ _).alloc (Nat.le_refl _) _).alloc (by simp) _
    have px1 : w4.heap[pw2.heap.size]? = some (.cells #[.slice AP R.length cP] 26) := by rw [← hw4]; exact alloc_old _ (heap_alloc_new _ _)
    have px2 : w4.heap[pw2.heap.size + 1]? = some (.cells #[.int .i64 q.arr, .int .i64 q.start, .int .i64 q.len, .int .i64 q.cap] 28) := by rw [← hw4]; exact heap_alloc_at (by simp)
    have pq2 := pb2.size
    have pq3 := pb3.size
    have pq1 := pb1.size
    have hb4 : Below w1.heap.size w1 w4 := ((pb1.trans (pb2.mono pb1.size)).trans (pb3.mono (Nat.le_trans pb1.size pb2.size)))
    obtain ⟨loP, hiP, hmP⟩ : ∃ lo hi, MBox w4 w1.heap.size pw2.heap.size lo hi (.slice AP R.length cP) R := ⟨_, _, MBox.mk' px1 (po2.below pb3) (by omega) (by omega) (by omega) (by omega) (.inr (Nat.le_refl _))⟩
    have hwP := WBox.mk' (b := w1.heap.size) px2 (by omega)
    have HFw4 := Lib.hid hw4
    clear  po2 pb2 pb3 px1 px2 hw4 pq2 pq3 pb1 pq1
    go_upto_region 6 with fail
    rw [HFw4.out]
    have HMP := Lib.hid hmP
    have HWP := Lib.hid hwP
    have HBw4 := Lib.hid (HBw1.out.trans (hb4.mono HBw1.out.size))
    have d4 := (HA.out w4 HBw4.out)
    clear hmP hb4 hcP
    go_wp2_with fail
    refine (HT.out _ HBw4.out).mono ?_
    rintro e w5 ⟨v5, rfl, ho5, hb5⟩
    obtain ⟨A5, k5, rfl, hk5⟩ := ho5.form
    obtain ⟨w6, hw6⟩ : ∃ w6, w5.alloc (.cells #[.slice A5 m.length k5] 26) = w6 := ⟨_, rfl⟩
    have hb6 : Below w5.heap.size w5 w6 := by rw [← hw6]; exact (Below.refl _ _).alloc (Nat.le_refl _) _
    have hx6 : w6.heap[w5.heap.size]? = some (.cells #[.slice A5 m.length k5] 26) := by rw [← hw6]; exact heap_alloc_new _ _
    have HMX := Lib.hid (MBox.mk' (b := w4.heap.size) hx6 (ho5.below hb6) hb5.size (Nat.le_refl _) hb6.size (Nat.le_trans hb5.size hb6.size) (.inr (Nat.le_refl _)))
    have HMP6 := Lib.hid ((HMP.out.below hb5).below hb6)
    have HWP6 := Lib.hid ((HWP.out.below hb5).below hb6)
    have HBw6 := Lib.hid ((HBw4.out.trans (hb5.mono HBw4.out.size)).trans (hb6.mono (Nat.le_trans HBw4.out.size hb5.size)))
    have HW6 := Lib.hid hw6
    have hz45 := hb5.size
    have hz56 : w5.heap.size < w6.heap.size := (Array.getElem?_eq_some_iff.1 hx6).1
    clear d4 ho5 hb5 hb6 hw6 hx6 hk5
    have HA6 : Hid (∀ W, Below w6.heap.size w6 W → W.cell? ⟨w5.heap.size, 0, none⟩ = some (.slice A5 m.length k5)) := Lib.hid fun W hb => one_cell ((hb.block _ HMX.out.gW).trans HMX.out.box)
    have HD6 := HBw6.out.size
    go_upto_region 7 with fail
    rw [HW6.out]
    have qa0 := HA6.out w6 (Below.refl _ _)
    go_wp2_with fail
    refine (HIP.out w6 A5 k5 HMX.out.own.reads).mono ?_
    rintro e qw2 ⟨vQ, rfl, qo2, qb2⟩
    obtain ⟨AQ, cQ, rfl, hcQ⟩ := qo2.form
    obtain ⟨w8, hw8⟩ : ∃ w8, (qw2.alloc (.cells #[.slice AQ R.length cQ] 26)).alloc (.cells #[.int .i64 q.arr, .int .i64 q.start, .int .i64 q.len, .int .i64 q.cap] 28) = w8 := ⟨_, rfl⟩
    have qb3 : Below qw2.heap.size qw2 w8 := by rw [← hw8]; exact ((Below.refl _ _).alloc (Nat.le_refl _) _).alloc (by simp) _
    have qx1 : w8.heap[qw2.heap.size]? = some (.cells #[.slice AQ R.length cQ] 26) := by rw [← hw8]; exact alloc_old _ (heap_alloc_new _ _)
    have qx2 : w8.heap[qw2.heap.size + 1]? = some (.cells #[.int .i64 q.arr, .int .i64 q.start, .int .i64 q.len, .int .i64 q.cap] 28) := by rw [← hw8]; exact heap_alloc_at (by simp)
    have qq2 := qb2.size
    have qq3 := qb3.size
    have hb8 : Below w6.heap.size w6 w8 := (qb2.trans (qb3.mono qb2.size))
    obtain ⟨loQ, hiQ, hmQ⟩ : ∃ lo hi, MBox w8 w6.heap.size qw2.heap.size lo hi (.slice AQ R.length cQ) R := ⟨_, _, MBox.mk' qx1 (qo2.below qb3) (by omega) (by omega) (by omega) (by omega) (.inr (Nat.le_refl _))⟩
    have hwQ := WBox.mk' (b := w6.heap.size) qx2 (by omega)
    have HFw8 := Lib.hid hw8
    clear qa0 qo2 qb2 qb3 qx1 qx2 hw8 qq2 qq3 
    go_upto_region 8 with fail
    rw [HFw8.out]
    have HMQ := Lib.hid hmQ
    have HWQ := Lib.hid hwQ
    have HWP8 := Lib.hid (HWP6.out.below hb8)
    have HMP8 := Lib.hid (HMP6.out.below hb8)
    have HMX8 := Lib.hid (HMX.out.below hb8)
    have HBw8 := Lib.hid (HBw6.out.trans (hb8.mono HBw6.out.size))
    have s1 := HMQ.out.cell
    have s2 := HMP8.out.cell
    clear hmQ hb8 hcQ
    go_wp2_with fail
    refine (HER.out w8 AQ AP cQ cP HMQ.out.own.reads HMP8.out.own.reads).mono ?_
    rintro e w9a ⟨rfl, hb9a⟩
    obtain ⟨t0, t1, t2, t3⟩ := (HWQ.out.below hb9a).cells
    obtain ⟨u0, u1, u2, u3⟩ := (HWP8.out.below hb9a).cells
    go_wp2_with fail
    refine (HEW.out w9a).mono ?_
    rintro e w9 ⟨rfl, hb9b⟩
    have hb9 := hb9a.trans (hb9b.mono hb9a.size)
    clear hb9a hb9b t0 t1 t2 t3 u0 u1 u2 u3
    have HMQ9 := Lib.hid (HMQ.out.below hb9)
    have HWQ9 := Lib.hid (HWQ.out.below hb9)
    have HWP9 := Lib.hid (HWP8.out.below hb9)
    have HMP9 := Lib.hid (HMP8.out.below hb9)
    have HMX9 := Lib.hid (HMX8.out.below hb9)
    have HBw9 := Lib.hid (HBw8.out.trans (hb9.mono HBw8.out.size))
    clear hb9 s1 s2
    have y1 : w9.drew.cell? ⟨w.heap.size, 0, none⟩ = some (.slice A m.length cap) := (HA.out w9 HBw9.out)
    have y2 : w9.drew.cell? ⟨w5.heap.size, 0, none⟩ = some (.slice A5 m.length k5) := HMX9.out.cell
    have HD9 := Lib.hid ((Below.refl w9.heap.size w9).drew)
    go_wp2_with fail
    go_region_held3 (fun W => W.cell? ⟨w.heap.size, 0, none⟩ = some (.slice A m.length cap) ∧ W.cell? ⟨w5.heap.size, 0, none⟩ = some (.slice A5 m.length k5))
      (first | exact ⟨y1, y2⟩ | exact ⟨(HA.out _ (HBw9.out.trans (hc9.mono HBw9.out.size))), (HMX9.out.below hc9).cell⟩ | exact ⟨(HA.out _ (HBw9.out.trans (hc10.mono HBw9.out.size))), (HMX9.out.below hc10).cell⟩)
      (first | (go_at_call 59; refine (HT.out _ HBw9.out.drew).mono ?_; rintro e w10 ⟨v9, rfl, ho9, hb9⟩; obtain ⟨A9, k9, rfl, hk9⟩ := ho9.form; have hc9 := HD9.out.trans hb9) | (go_at_call 60; refine (HE.out w10 A5 A9 k5 k9 (HMX9.out.below hc9).own.reads ho9.reads).mono ?_; rintro e w11 ⟨rfl, hb10⟩; have hc10 := hc9.trans (hb10.mono hc9.size)))
    have HMQ11 := Lib.hid (HMQ9.out.below hc10)
    have HWQ11 := Lib.hid (HWQ9.out.below hc10)
    have HWP11 := Lib.hid (HWP9.out.below hc10)
    have HMP11 := Lib.hid (HMP9.out.below hc10)
    have HMX11 := Lib.hid (HMX9.out.below hc10)
    have HBw11 := Lib.hid (HBw9.out.trans (hc10.mono HBw9.out.size))
    have HK := Lib.hid (mark1_calls A5 k5 w4.heap.size w5.heap.size m w11 HMX11.out.own HSZ.out.1 HSZ.out.2 (Nat.le_trans hz45 HMX11.out.hiW) HMX11.out.hiW)
    have x1 := HMX11.out.cell
    clear hb9 hb10 hc9 hc10 y1 y2 ho9 hk9
    go_wp2_with fail
    refine HK.out.mono ?_
    rintro e w12 ⟨rfl, ho12, hs12⟩
    have hbP := HMP.out.hiW
    have hgP := HMP.out.gW
    have hbQ := HMQ.out.blo
    have hgQ := HMQ.out.bg
    have HMP12 := Lib.hid (HMP11.out.span hs12 (.inl hbP) (.inl hgP))
    have HMQ12 := Lib.hid (HMQ11.out.span hs12 (.inr (by omega)) (.inr (by omega)))
    have hwP12 := HWP.out.gW
    have hwQ12 := HWQ.out.bg
    have HWP12 := Lib.hid (HWP11.out.span hs12 (.inl hwP12))
    have HWQ12 := Lib.hid (HWQ11.out.span hs12 (.inr (by omega)))
    have HBw12 := Lib.hid (HBw11.out.trans ((hs12.below (Nat.le_trans hz45 HMX11.out.hiW)).mono HBw4.out.size))
    have s1 := HMQ12.out.cell
    have s2 := HMP12.out.cell
    have hpos : ¬ ((1 : Int) + (total m : Nat)) < 0 := by omega
    clear ho12 hs12 x1
    go_wp2_with fail
    refine (HER.out w12 AQ AP cQ cP HMQ12.out.own.reads HMP12.out.own.reads).mono ?_
    rintro e w13a ⟨rfl, hb13a⟩
    obtain ⟨t0, t1, t2, t3⟩ := (HWQ12.out.below hb13a).cells
    obtain ⟨u0, u1, u2, u3⟩ := (HWP12.out.below hb13a).cells
    go_wp2_with fail
    refine (HEW.out w13a).mono ?_
    rintro e w13 ⟨rfl, hb13b⟩
    have hb13 := hb13a.trans (hb13b.mono hb13a.size)
    clear hb13a hb13b t0 t1 t2 t3 u0 u1 u2 u3
    have HWP13 := Lib.hid (HWP12.out.below hb13)
    have HMQ13 := Lib.hid (HMQ12.out.below hb13)
    have HMP13 := Lib.hid (HMP12.out.below hb13)
    have HBw13 := Lib.hid (HBw12.out.trans (hb13.mono HBw12.out.size))
    have hz13 := HMQ13.out.hiW
    have hlohi := HMQ13.out.loW
    have HK2 := Lib.hid (mark1_calls AQ cQ loQ hiQ R w13 HMQ13.out.own hR1 hR2 hlohi hz13)
    have s3 := HMQ13.out.cell
    clear hb13 s1 s2 hpos
    go_wp2_with fail
    refine HK2.out.mono ?_
    rintro e w14 ⟨rfl, ho14, hs14⟩
    have HMQ14 := Lib.hid (HMQ13.out.marked hs14 ho14)
    have HMP14 := Lib.hid (HMP13.out.span hs14 (.inl (by omega)) (.inl (by omega)))
    have HWP14 := Lib.hid (HWP13.out.span hs14 (.inl (by omega)))
    have HBw14 := Lib.hid (HBw13.out.trans ((hs14.below hlohi).mono (by have := HBw6.out.size; omega)))
    have s4 := HMQ14.out.cell
    have HH := Lib.hid (held1_calls AQ cQ loQ hiQ R w14 HMQ14.out.own hR1 hR2)
    have hposR : ¬ ((1 : Int) + (total R : Nat)) < 0 := by omega
    clear ho14 hs14 s3
    go_wp2_with fail
    refine HH.out.mono ?_
    rintro e w15 ⟨rfl, hb15⟩
    have HMQ15 := Lib.hid (HMQ14.out.below hb15)
    have HMP15 := Lib.hid (HMP14.out.below hb15)
    have HWP15 := Lib.hid (HWP14.out.below hb15)
    have HBw15 := Lib.hid (HBw14.out.trans (hb15.mono HBw14.out.size))
    have hselfR : (((1 : Int) + (total R : Nat)) != 1 + (total R : Nat)) = false := by simp
    clear hb15 s4
    have HTw15 : Hid (∀ W (hb : Below w15.heap.size w15 W), Calls Try.prog 59 #[.agg #[.slice A m.length cap]] W fun e w' => ∃ v, e = .returned (.agg #[v]) ∧ OwnM w' W.heap.size w'.heap.size v m ∧ Below W.heap.size W w') := Lib.hid fun W hb => HT.out W (HBw15.out.trans (hb.mono HBw15.out.size))
    have HAw15 : Hid (∀ W, Below w15.heap.size w15 W → W.cell? ⟨w.heap.size, 0, none⟩ = some (.slice A m.length cap)) := Lib.hid fun W hb => HA.out W (HBw15.out.trans (hb.mono HBw15.out.size))
    have HDw15 := HBw15.out.size
    have ra0 := HAw15.out w15 (Below.refl _ _)
    go_wp2_with fail
    refine (HTw15.out w15 (Below.refl _ _)).mono ?_
    rintro e rw1 ⟨rv, rfl, ro, rb1⟩
    obtain ⟨rA, rk, rfl, rhk⟩ := ro.form
    have rR := Lib.hid ro.reads
    clear ro ra0 rhk
    go_wp2_with fail
    refine (HIP.out rw1 rA rk rR.out).mono ?_
    rintro e rw2 ⟨vT, rfl, ro2, rb2⟩
    obtain ⟨AT, cT, rfl, hcT⟩ := ro2.form
    obtain ⟨w16, hw16⟩ : ∃ w16, (rw2.alloc (.cells #[.slice AT R.length cT] 26)).alloc (.cells #[.int .i64 q.arr, .int .i64 q.start, .int .i64 q.len, .int .i64 q.cap] 28) = w16 := ⟨_, rfl⟩
    have rb3 : Below rw2.heap.size rw2 w16 := by rw [← hw16]; exact ((Below.refl _ _).alloc (Nat.le_refl _) _).alloc (by simp) _
    have rx1 : w16.heap[rw2.heap.size]? = some (.cells #[.slice AT R.length cT] 26) := by rw [← hw16]; exact alloc_old _ (heap_alloc_new _ _)
    have rx2 : w16.heap[rw2.heap.size + 1]? = some (.cells #[.int .i64 q.arr, .int .i64 q.start, .int .i64 q.len, .int .i64 q.cap] 28) := by rw [← hw16]; exact heap_alloc_at (by simp)
    have rq2 := rb2.size
    have rq3 := rb3.size
    have rq1 := rb1.size
    have hb16 : Below w15.heap.size w15 w16 := ((rb1.trans (rb2.mono rb1.size)).trans (rb3.mono (Nat.le_trans rb1.size rb2.size)))
    obtain ⟨loT, hiT, hmT⟩ : ∃ lo hi, MBox w16 w15.heap.size rw2.heap.size lo hi (.slice AT R.length cT) R := ⟨_, _, MBox.mk' rx1 (ro2.below rb3) (by omega) (by omega) (by omega) (by omega) (.inr (Nat.le_refl _))⟩
    have hwT := WBox.mk' (b := w15.heap.size) rx2 (by omega)
    have HFw16 := Lib.hid hw16
    clear  ro2 rb2 rb3 rx1 rx2 hw16 rq2 rq3 rb1 rq1
    go_upto_region 25 with fail
    rw [HFw16.out]
    have HMT := Lib.hid hmT
    have HMQ16 := Lib.hid (HMQ15.out.below hb16)
    have HMP16 := Lib.hid (HMP15.out.below hb16)
    have HWP16 := Lib.hid (HWP15.out.below hb16)
    have HWT := Lib.hid hwT
    have HBw16 := Lib.hid (HBw15.out.trans (hb16.mono HBw15.out.size))
    have s5 := HMT.out.cell
    have s6 := HMP16.out.cell
    clear hmT hb16 hcT
    go_wp2_with fail
    refine (HER.out w16 AT AP cT cP HMT.out.own.reads HMP16.out.own.reads).mono ?_
    rintro e w17a ⟨rfl, hb17a⟩
    obtain ⟨t0, t1, t2, t3⟩ := (HWT.out.below hb17a).cells
    obtain ⟨u0, u1, u2, u3⟩ := (HWP16.out.below hb17a).cells
    go_wp2_with fail
    refine (HEW.out w17a).mono ?_
    rintro e w17 ⟨rfl, hb17b⟩
    have hb17 := hb17a.trans (hb17b.mono hb17a.size)
    clear hb17a hb17b t0 t1 t2 t3 u0 u1 u2 u3
    have HMQ17 := Lib.hid (HMQ16.out.below hb17)
    have HBw17 := Lib.hid (HBw16.out.trans (hb17.mono HBw16.out.size))
    have s7 := HMQ17.out.cell
    have HH2 := Lib.hid (held1_calls AQ cQ loQ hiQ R w17 HMQ17.out.own hR1 hR2)
    clear hb17 s5 s6
    go_wp2_with fail
    refine HH2.out.mono ?_
    rintro e w18 ⟨rfl, hb18⟩
    have HBw18 := Lib.hid (HBw17.out.trans (hb18.mono HBw17.out.size))
    clear hb18 s7
    go_wp2_with fail
    go_ret
    exact ⟨rfl, HB.out.trans (HBw18.out.mono HB.out.size)⟩
end Go.Proofs.Ytbdaaeffbhcflaa
