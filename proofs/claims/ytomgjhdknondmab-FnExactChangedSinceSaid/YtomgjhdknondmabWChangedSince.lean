/-
  FnExactChangedSince: the walk.
-/
import Derived.Test.YtomgjhdknondmabBox
import Derived.Test.YtomgjhdknondmabWinsL
import Derived.Test.YtomgjhdknondmabIntS
import Derived.Test.YtomgjhdknondmabMark9
import Derived.Test.YtomgjhdknondmabChgI
namespace Go.Proofs.Ytomgjhdknondmab
open Go.RowKit

set_option maxRecDepth 100000 in
set_option maxHeartbeats 12800000 in
theorem fnExactChangedSince_walk (A : Option Addr) (len cap : Nat) (m : List (List Int)) (BL : Option Addr) (lenL capL : Nat) (L : List Win) (AS : Option Addr) (lenS capS : Nat) (S : List (List Int)) (w : World) (h : MArg w A len cap m) (hL : WsArg w BL lenL capL L) (hSA : MArg w AS lenS capS S) :
    Calls Try.prog 6 #[.agg #[.slice A len cap], .slice BL lenL capL, .agg #[.slice AS lenS capS]] w fun e w' => e = .returned (.bool true) ∧ Below w.heap.size w w' := by
  obtain ⟨rfl, h1, h2, hr, hzz⟩ := h
  obtain ⟨rfl, h3, h4, hrL, hwa⟩ := hL
  obtain ⟨rfl, h5, h6, hrS, hzS⟩ := hSA
  have hsm := changedR_small m L S
  obtain ⟨R, p, hform⟩ : ∃ (R : List Int) (p : Bool), changedR m L S = (R, p) := ⟨_, _, rfl⟩
  rw [hform] at hsm
  have hR1 : R.length ≤ 2097152 := hsm
  obtain ⟨hb0, g1, g2, g3⟩ := enter2 w (.cells #[.slice A m.length cap] 24) (.cells #[.slice AS S.length capS] 24)
  obtain ⟨w0, hw0⟩ : ∃ w0, (w.alloc (.cells #[.slice A m.length cap] 24)).alloc (.cells #[.slice AS S.length capS] 24) = w0 := ⟨_, rfl⟩
  rw [hw0] at hb0 g1 g2 g3
  have hlen : m.length ≤ maxLen := by omega
  have hlenL : L.length ≤ maxLen := by omega
  have hlenS : S.length ≤ maxLen := by omega
  have HS := Lib.hid (szMemory_calls A cap m w0 1048576 ((hr.below hb0).more hb0.size) hlen (by omega) (by omega))
  have HB := Lib.hid hb0
  have HW := Lib.hid hw0
  have HR := Lib.hid hr
  have HRL := Lib.hid hrL
  have HRS := Lib.hid hrS
  have HWA := Lib.hid hwa
  have HZ := Lib.hid (show ∀ r ∈ m, ∀ z ∈ r, IsB z from fun r hr z hz => isB_of (hzz r hr z hz))
  have HZS := Lib.hid (show ∀ r ∈ S, ∀ z ∈ r, IsB z from fun r hr z hz => isB_of (hzS r hr z hz))
  have HA : Hid (∀ W, Below w0.heap.size w0 W → W.cell? ⟨w.heap.size, 0, none⟩ = some (.slice A m.length cap) ∧ W.cell? ⟨w.heap.size + 1, 0, none⟩ = some (.slice AS S.length capS)) := Lib.hid fun W hb => ⟨one_cell ((hb.block _ (Array.getElem?_eq_some_iff.1 g1).1).trans g1), one_cell ((hb.block _ (Array.getElem?_eq_some_iff.1 g2).1).trans g2)⟩
  obtain ⟨c0, -⟩ := HA.out w0 (Below.refl _ _)
  clear hr hrL hrS hwa hb0 hw0 g1 g2 g3 hzz hzS hsm
  go_enter Try.func6, Try.ntmps6
  go_wp2_with fail
  rw [HW.out]
  refine HS.out.mono ?_
  rintro e u1 ⟨⟨r, rfl, hr⟩, hb1⟩
  have HBu1 := Lib.hid hb1
  clear hb1 c0
  by_cases hneg : r < 0
  · clear hr
    go_wp2_with fail
    go_ret
    exact ⟨rfl, HB.out.trans (HBu1.out.mono HB.out.size)⟩
  · have hsz : m.length ≤ 1048576 ∧ total m ≤ 1048576 ∧ 0 ≤ r ∧ r ≤ 1048576 := by omega
    have HSL := Lib.hid (szWindowS_calls BL L.length capL u1 r hlenL hsz.2.2.1 hsz.2.2.2)
    by_cases hneg2 : r < L.length
    · rw [if_pos hneg2] at HSL
      have hr0 := hsz.2.2.1
      clear hr hsz hneg2
      go_wp2_with fail
      refine HSL.out.mono ?_
      rintro e w1 ⟨rfl, rfl⟩
      go_wp2_with fail
      go_ret
      exact ⟨rfl, HB.out.trans (HBu1.out.mono HB.out.size)⟩
    · rw [if_neg hneg2] at HSL
      have hl20 : L.length ≤ 1048576 := by omega
      have hr0 := hsz.2.2.1
      have hrl : ¬ (r - (L.length : Int)) < 0 := by omega
      have hro : ∀ q ∈ m, q.length ≤ 1048576 := fun q hq => Nat.le_trans (row_le m q hq) hsz.2.1
      have HMS := Lib.hid (show m.length ≤ 2097152 ∧ total m ≤ 2097152 ∧ total m ≤ 1048576 by omega)
      have HS2 := Lib.hid (szMemory_calls AS capS S u1 (r - L.length) ((HRS.out.below (HB.out.trans (HBu1.out.mono HB.out.size))).more (Nat.le_trans HB.out.size HBu1.out.size)) hlenS (by omega) (by omega))
      have HT := Lib.hid (fun W (hb : Below w0.heap.size w0 W) => toMemory_calls A cap m W ((HR.out.below (HB.out.trans (hb.mono HB.out.size))).more (Nat.le_trans HB.out.size hb.size)) hsz.1 hro)
      have HTL := Lib.hid (fun W (hb : Below w0.heap.size w0 W) => toWindowS_calls BL capL L W ((HRL.out.below (HB.out.trans (hb.mono HB.out.size))).more (Nat.le_trans HB.out.size hb.size)) hl20)
      have hrr : r - (L.length : Int) ≤ 1048576 ∧ 0 ≤ r - (L.length : Int) := by omega
      have HRR := Lib.hid hrr
      have d1 := (HA.out u1 HBu1.out).2
      clear hr hsz hro hneg2
      go_wp2_with fail
      refine HSL.out.mono ?_
      rintro e u1' ⟨rfl, rfl⟩
      clear hrr
      generalize r - (L.length : Int) = rl at *
      go_wp2_with fail
      refine HS2.out.mono ?_
      rintro e w1 ⟨⟨r2, rfl, hr2⟩, hb1⟩
      have HBw1 := Lib.hid (HBu1.out.trans (hb1.mono HBu1.out.size))
      clear hb1 d1
      by_cases hneg3 : r2 < 0
      · clear hr2
        go_wp2_with fail
        go_ret
        exact ⟨rfl, HB.out.trans (HBw1.out.mono HB.out.size)⟩
      have hszS : S.length ≤ 1048576 ∧ total S ≤ 1048576 ∧ 0 ≤ r2 ∧ r2 ≤ 1048576 := by have := HRR.out; omega
      have hroS : ∀ q ∈ S, q.length ≤ 1048576 := fun q hq => Nat.le_trans (row_le S q hq) hszS.2.1
      have HMSS := Lib.hid (show S.length ≤ 2097152 ∧ total S ≤ 2097152 by omega)
      have HT2 := Lib.hid (fun W (hb : Below w0.heap.size w0 W) => toMemory_calls AS capS S W ((HRS.out.below (HB.out.trans (hb.mono HB.out.size))).more (Nat.le_trans HB.out.size hb.size)) hszS.1 hroS)
      have HSP : Hid (∀ W X kx Y ky Z kz, Rd2 W W.heap.size X m → RdW W W.heap.size Y L → Rd2 W W.heap.size Z S → Calls Try.prog 34 #[.agg #[.slice X m.length kx], .slice Y L.length ky, .agg #[.slice Z S.length kz]] W fun e w' => ∃ v, e = .returned (.tuple #[v, .bool p]) ∧ w'.ownsRow W.heap.size 3 1 v R.length (intV .i64 R) ∧ Below W.heap.size W w') := Lib.hid (fun W X kx Y ky Z kz hx hy hz => by have hq := specChangedSince_calls X kx m Y ky L Z kz S W hx hlen hy hlenL hz hlenS HZ.out HZS.out; rw [hform] at hq; exact hq)
      have HIP : Hid (∀ W X kx Y ky Z kz, Rd2 W W.heap.size X m → RdW W W.heap.size Y L → Rd2 W W.heap.size Z S → Calls Try.prog 35 #[.agg #[.slice X m.length kx], .slice Y L.length ky, .agg #[.slice Z S.length kz]] W fun e w' => ∃ v, e = .returned (.tuple #[v, .bool p]) ∧ w'.ownsRow W.heap.size 3 1 v R.length (intV .i64 R) ∧ Below W.heap.size W w') := Lib.hid (fun W X kx Y ky Z kz hx hy hz => by have hq := implChangedSince_calls X kx m Y ky L Z kz S W hx hlen hy hlenL hz hlenS HZ.out HZS.out HWA.out; rw [hform] at hq; exact hq)
      have HE := Lib.hid (fun W X Y cx cy (hx : Rd2 W W.heap.size X m) (hy : Rd2 W W.heap.size Y m) => eqSame_calls X Y cx cy m W hx hy hlen)
      have HE2 := Lib.hid (fun W X Y cx cy (hx : Rd2 W W.heap.size X S) (hy : Rd2 W W.heap.size Y S) => eqSame_calls X Y cx cy S W hx hy hlenS)
      have HEL := Lib.hid (fun W X Y cx cy (hx : RdW W W.heap.size X L) (hy : RdW W W.heap.size Y L) => eqWindowS_calls X Y cx cy L W hx hy hl20)
      have HER := Lib.hid (fun W X Y cx cy (hx : Rd W W.heap.size X (intV .i64 R)) (hy : Rd W W.heap.size Y (intV .i64 R)) => eqI_calls X Y cx cy W hx hy hR1)
      have hself : (p != p) = false := by simp
      clear hr2 hszS hroS hform
      have ya := HA.out w1.drew HBw1.out.drew
      obtain ⟨y1, y2⟩ := ya
      go_wp2_with fail
      go_region_held3 (fun W => W.cell? ⟨w.heap.size, 0, none⟩ = some (.slice A m.length cap) ∧ W.cell? ⟨w.heap.size + 1, 0, none⟩ = some (.slice AS S.length capS))
        (first | (with_reducible exact ⟨y1, y2⟩) | (with_reducible exact HA.out _ hc2) | (with_reducible exact HA.out _ hc3) | (with_reducible exact HA.out _ hc4) | (with_reducible exact HA.out _ hc5))
        (first
          | (go_at_call 16; (with_reducible refine (HT.out _ HBw1.out.drew).mono ?_); rintro e w2 ⟨v2, rfl, ho2, hb2⟩; obtain ⟨A2, k2, rfl, hk2⟩ := ho2.form; have hc2 := HBw1.out.drew.trans (hb2.mono HBw1.out.drew.size); have HO2 := Lib.hid ho2; clear ho2)
          | (go_at_call 17; (with_reducible refine (HTL.out _ hc2).mono ?_); rintro e w3 ⟨v3, rfl, ho3, hb3⟩; obtain ⟨A3, k3, rfl⟩ := ho3.form; have hc3 := hc2.trans (hb3.mono hc2.size); have HX23 := Lib.hid (HO2.out.below hb3); have HO3 := Lib.hid ho3; clear ho3)
          | (go_at_call 16; (with_reducible refine (HT2.out _ hc3).mono ?_); rintro e w4 ⟨v4, rfl, ho4, hb4⟩; obtain ⟨A4, k4, rfl, hk4⟩ := ho4.form; have hc4 := hc3.trans (hb4.mono hc3.size); have HF4 := Lib.hid (HSP.out w4 A2 k2 A3 k3 A4 k4 (HX23.out.below hb4).reads (HO3.out.below hb4).rd ho4.reads); clear ho4)
          | (go_at_call 34; (with_reducible refine HF4.out.mono ?_); rintro e w5 ⟨vP, rfl, hoP, hb5⟩; obtain ⟨AP, cP, rfl⟩ := own_form hoP; have hc5 := hc4.trans (hb5.mono hc4.size)))
      have HBw5 := Lib.hid hc5
      have HP5 := Lib.hid (show OwnR w5 w4.heap.size w5.heap.size 3 (.slice AP R.length cP) (intV .i64 R) from OwnR.new (by rw [intV_len]; exact hoP))
      have HZ45 := Lib.hid hb5.size
      clear y1 y2 hoP hb2 hb3 hb4 hb5 hc2 hc3 hc4 hc5 hk2 hk4
      have d5 := (HA.out w5 HBw5.out).1
      go_wp2_with fail
      refine (HT.out _ HBw5.out).mono ?_
      rintro e w6 ⟨v6, rfl, ho6, hb6⟩
      obtain ⟨A6, k6, rfl, hk6⟩ := ho6.form
      obtain ⟨w7, hw7⟩ : ∃ w7, w6.alloc (.cells #[.slice A6 m.length k6] 31) = w7 := ⟨_, rfl⟩
      have hb7 : Below w6.heap.size w6 w7 := by rw [← hw7]; exact (Below.refl _ _).alloc (Nat.le_refl _) _
      have hx7 : w7.heap[w6.heap.size]? = some (.cells #[.slice A6 m.length k6] 31) := by rw [← hw7]; exact heap_alloc_new _ _
      have HX7 := Lib.hid (MBox.mk' (b := w5.heap.size) hx7 (ho6.below hb7) hb6.size (Nat.le_refl _) hb7.size (Nat.le_trans hb6.size hb7.size) (.inr (Nat.le_refl _)))
      have HP7 := Lib.hid ((HP5.out.below hb6).below hb7)
      have HBw7 := Lib.hid ((HBw5.out.trans (hb6.mono HBw5.out.size)).trans (hb7.mono (Nat.le_trans HBw5.out.size hb6.size)))
      have HW7 := Lib.hid hw7
      have HZ56 := Lib.hid hb6.size
      have HZ67 := Lib.hid (show w6.heap.size + 1 = w7.heap.size by rw [← hw7]; simp)
      clear d5 ho6 hb6 hb7 hw7 hx7 hk6
      go_wp2_with fail
      rw [HW7.out]
      refine (HTL.out _ HBw7.out).mono ?_
      rintro e w8 ⟨v8, rfl, ho8, hb8⟩
      obtain ⟨A8, k8, rfl⟩ := ho8.form
      have HL8 := Lib.hid ho8
      have HX8 := Lib.hid (HX7.out.below hb8)
      have HP8 := Lib.hid (HP7.out.below hb8)
      have HBw8 := Lib.hid (HBw7.out.trans (hb8.mono HBw7.out.size))
      have HZ78 := Lib.hid hb8.size
      clear ho8 hb8
      have d8 := (HA.out w8 HBw8.out).2
      go_wp2_with fail
      refine (HT2.out _ HBw8.out).mono ?_
      rintro e w9 ⟨v9, rfl, ho9, hb9⟩
      obtain ⟨A9, k9, rfl, hk9⟩ := ho9.form
      obtain ⟨w10, hw10⟩ : ∃ w10, w9.alloc (.cells #[.slice A9 S.length k9] 31) = w10 := ⟨_, rfl⟩
      have hb10 : Below w9.heap.size w9 w10 := by rw [← hw10]; exact (Below.refl _ _).alloc (Nat.le_refl _) _
      have hx10 : w10.heap[w9.heap.size]? = some (.cells #[.slice A9 S.length k9] 31) := by rw [← hw10]; exact heap_alloc_new _ _
      have HV10 := Lib.hid (MBox.mk' (b := w8.heap.size) hx10 (ho9.below hb10) hb9.size (Nat.le_refl _) hb10.size (Nat.le_trans hb9.size hb10.size) (.inr (Nat.le_refl _)))
      have HX10 := Lib.hid ((HX8.out.below hb9).below hb10)
      have HP10 := Lib.hid ((HP8.out.below hb9).below hb10)
      have HL10 := Lib.hid ((HL8.out.below hb9).below hb10)
      have HBw10 := Lib.hid ((HBw8.out.trans (hb9.mono HBw8.out.size)).trans (hb10.mono (Nat.le_trans HBw8.out.size hb9.size)))
      have HW10 := Lib.hid hw10
      have HZ89 := Lib.hid hb9.size
      have HZ910 := Lib.hid (show w9.heap.size + 1 = w10.heap.size by rw [← hw10]; simp)
      have HI10 := Lib.hid (HIP.out w10 A6 k6 A8 k8 A9 k9 HX10.out.own.reads HL10.out.rd HV10.out.own.reads)
      have x10 := HX10.out.cell
      have v10 := HV10.out.cell
      clear d8 ho9 hb9 hb10 hw10 hx10 hk9
      go_upto_region 15 with fail
      rw [HW10.out]
      go_wp2_with fail
      refine HI10.out.mono ?_
      rintro e w11 ⟨vQ, rfl, hoQ, hb11⟩
      obtain ⟨AQ, cQ, rfl⟩ := own_form hoQ
      have HQ11 := Lib.hid (show OwnR w11 w10.heap.size w11.heap.size 3 (.slice AQ R.length cQ) (intV .i64 R) from OwnR.new (by rw [intV_len]; exact hoQ))
      have HX11 := Lib.hid (HX10.out.below hb11)
      have HV11 := Lib.hid (HV10.out.below hb11)
      have HL11 := Lib.hid (HL10.out.below hb11)
      have HP11 := Lib.hid (HP10.out.below hb11)
      have HBw11 := Lib.hid (HBw10.out.trans (hb11.mono HBw10.out.size))
      have HZ1011 := Lib.hid hb11.size
      have HSZ11 := Lib.hid (Nat.le_refl w11.heap.size)
      clear x10 v10 hb11 hoQ
      go_wp2_with fail
      refine (HER.out w11 AQ AP cQ cP (ownI_rd HQ11.out) (ownI_rd HP11.out)).mono ?_
      rintro e w12 ⟨rfl, hb12⟩
      have HX12 := Lib.hid (HX11.out.below hb12)
      have HV12 := Lib.hid (HV11.out.below hb12)
      have HL12 := Lib.hid (HL11.out.below hb12)
      have HP12 := Lib.hid (HP11.out.below hb12)
      have HQ12 := Lib.hid (HQ11.out.below hb12)
      have HBw12 := Lib.hid (HBw11.out.trans (hb12.mono HBw11.out.size))
      have HSZ12 := Lib.hid (Nat.le_trans HSZ11.out hb12.size)
      clear hb12
      have y1 := (HA.out w12.drew HBw12.out.drew).1
      have y2 : w12.drew.cell? ⟨w6.heap.size, 0, none⟩ = some (.slice A6 m.length k6) := HX12.out.cell
      have HD12 := Lib.hid ((Below.refl w12.heap.size w12).drew)
      go_wp2_with fail
      go_region_held3 (fun W => W.cell? ⟨w.heap.size, 0, none⟩ = some (.slice A m.length cap) ∧ W.cell? ⟨w6.heap.size, 0, none⟩ = some (.slice A6 m.length k6))
        (first | (with_reducible exact ⟨y1, y2⟩) | exact ⟨(HA.out _ (HBw12.out.trans (hc13.mono HBw12.out.size))).1, (HX12.out.below hc13).cell⟩ | exact ⟨(HA.out _ (HBw12.out.trans (hc14.mono HBw12.out.size))).1, (HX12.out.below hc14).cell⟩)
        (first | (go_at_call 16; refine (HT.out _ HBw12.out.drew).mono ?_; rintro e w13 ⟨v13, rfl, ho13, hb13⟩; obtain ⟨A13, k13, rfl, hk13⟩ := ho13.form; have hc13 := HD12.out.trans hb13) | (go_at_call 20; refine (HE.out w13 A6 A13 k6 k13 (HX12.out.below hc13).own.reads ho13.reads).mono ?_; rintro e w14 ⟨rfl, hb14⟩; have hc14 := hc13.trans (hb14.mono hc13.size)))
      have HX14 := Lib.hid (HX12.out.below hc14)
      have HV14 := Lib.hid (HV12.out.below hc14)
      have HL14 := Lib.hid (HL12.out.below hc14)
      have HP14 := Lib.hid (HP12.out.below hc14)
      have HQ14 := Lib.hid (HQ12.out.below hc14)
      have HBw14 := Lib.hid (HBw12.out.trans (hc14.mono HBw12.out.size))
      have HSZ14 := Lib.hid (Nat.le_trans HSZ12.out hc14.size)
      clear hb13 hb14 hc13 hc14 y1 y2 ho13 hk13
      go_wp2_with fail
      refine (HTL.out _ HBw14.out).mono ?_
      rintro e w15 ⟨v15, rfl, ho15, hb15⟩
      obtain ⟨A15, k15, rfl⟩ := ho15.form
      have HO15 := Lib.hid ho15
      have HX15 := Lib.hid (HX14.out.below hb15)
      have HV15 := Lib.hid (HV14.out.below hb15)
      have HL15 := Lib.hid (HL14.out.below hb15)
      have HP15 := Lib.hid (HP14.out.below hb15)
      have HQ15 := Lib.hid (HQ14.out.below hb15)
      have HBw15 := Lib.hid (HBw14.out.trans (hb15.mono HBw14.out.size))
      have HSZ15 := Lib.hid (Nat.le_trans HSZ14.out hb15.size)
      have HEL15 := Lib.hid (HEL.out w15 A8 A15 k8 k15 HL15.out.rd HO15.out.rd)
      clear ho15 hb15
      go_wp2_with fail
      refine HEL15.out.mono ?_
      rintro e w16 ⟨rfl, hb16⟩
      have HX16 := Lib.hid (HX15.out.below hb16)
      have HV16 := Lib.hid (HV15.out.below hb16)
      have HL16 := Lib.hid (HL15.out.below hb16)
      have HP16 := Lib.hid (HP15.out.below hb16)
      have HQ16 := Lib.hid (HQ15.out.below hb16)
      have HBw16 := Lib.hid (HBw15.out.trans (hb16.mono HBw15.out.size))
      have HSZ16 := Lib.hid (Nat.le_trans HSZ15.out hb16.size)
      clear hb16
      have y1 := (HA.out w16.drew HBw16.out.drew).2
      have y2 : w16.drew.cell? ⟨w9.heap.size, 0, none⟩ = some (.slice A9 S.length k9) := HV16.out.cell
      have HD16 := Lib.hid ((Below.refl w16.heap.size w16).drew)
      go_wp2_with fail
      go_region_held3 (fun W => W.cell? ⟨w.heap.size + 1, 0, none⟩ = some (.slice AS S.length capS) ∧ W.cell? ⟨w9.heap.size, 0, none⟩ = some (.slice A9 S.length k9))
        (first | (with_reducible exact ⟨y1, y2⟩) | exact ⟨(HA.out _ (HBw16.out.trans (hc17.mono HBw16.out.size))).2, (HV16.out.below hc17).cell⟩ | exact ⟨(HA.out _ (HBw16.out.trans (hc18.mono HBw16.out.size))).2, (HV16.out.below hc18).cell⟩)
        (first | (go_at_call 16; refine (HT2.out _ HBw16.out.drew).mono ?_; rintro e w17 ⟨v17, rfl, ho17, hb17⟩; obtain ⟨A17, k17, rfl, hk17⟩ := ho17.form; have hc17 := HD16.out.trans hb17) | (go_at_call 20; refine (HE2.out w17 A9 A17 k9 k17 (HV16.out.below hc17).own.reads ho17.reads).mono ?_; rintro e w18 ⟨rfl, hb18⟩; have hc18 := hc17.trans (hb18.mono hc17.size)))
      have HX18 := Lib.hid (HX16.out.below hc18)
      have HV18 := Lib.hid (HV16.out.below hc18)
      have HL18 := Lib.hid (HL16.out.below hc18)
      have HP18 := Lib.hid (HP16.out.below hc18)
      have HQ18 := Lib.hid (HQ16.out.below hc18)
      have HBw18 := Lib.hid (HBw16.out.trans (hc18.mono HBw16.out.size))
      have HSZ18 := Lib.hid (Nat.le_trans HSZ16.out hc18.size)
      clear hb17 hb18 hc17 hc18 y1 y2 ho17 hk17
      have HK := Lib.hid (mark1_calls A6 k6 w5.heap.size w6.heap.size m w18 HX18.out.own HMS.out.1 HMS.out.2.1 HX18.out.loW HX18.out.hiW)
      have x1 := HX18.out.cell
      go_wp2_with fail
      refine HK.out.mono ?_
      rintro e w19 ⟨rfl, ho19, hs19⟩
      have HV19 := Lib.hid (HV18.out.span hs19 (.inr (by have z1 := HZ45.out; have z2 := HZ56.out; have z3 := HZ67.out; have z4 := HZ78.out; have z5 := HZ89.out; have z6 := HZ910.out; have z7 := HZ1011.out; have z8 := HSZ18.out; have z9 := HBw5.out.size; omega)) (.inr (by have z1 := HZ45.out; have z2 := HZ56.out; have z3 := HZ67.out; have z4 := HZ78.out; have z5 := HZ89.out; have z6 := HZ910.out; have z7 := HZ1011.out; have z8 := HSZ18.out; have z9 := HBw5.out.size; omega)))
      have HL19 := Lib.hid (HL18.out.span hs19 (.inr (by have z1 := HZ45.out; have z2 := HZ56.out; have z3 := HZ67.out; have z4 := HZ78.out; have z5 := HZ89.out; have z6 := HZ910.out; have z7 := HZ1011.out; have z8 := HSZ18.out; have z9 := HBw5.out.size; omega)))
      have HP19 := Lib.hid (HP18.out.span hs19 (.inl (by have z1 := HZ45.out; have z2 := HZ56.out; have z3 := HZ67.out; have z4 := HZ78.out; have z5 := HZ89.out; have z6 := HZ910.out; have z7 := HZ1011.out; have z8 := HSZ18.out; have z9 := HBw5.out.size; omega)))
      have HQ19 := Lib.hid (HQ18.out.span hs19 (.inr (by have z1 := HZ45.out; have z2 := HZ56.out; have z3 := HZ67.out; have z4 := HZ78.out; have z5 := HZ89.out; have z6 := HZ910.out; have z7 := HZ1011.out; have z8 := HSZ18.out; have z9 := HBw5.out.size; omega)))
      have HBw19 := Lib.hid (HBw18.out.trans ((hs19.below (by have z1 := HZ45.out; have z2 := HZ56.out; have z3 := HZ67.out; have z4 := HZ78.out; have z5 := HZ89.out; have z6 := HZ910.out; have z7 := HZ1011.out; have z8 := HSZ18.out; have z9 := HBw5.out.size; omega)).mono (by have z1 := HZ45.out; have z2 := HZ56.out; have z3 := HZ67.out; have z4 := HZ78.out; have z5 := HZ89.out; have z6 := HZ910.out; have z7 := HZ1011.out; have z8 := HSZ18.out; have z9 := HBw5.out.size; omega)))
      have HSZ19 := Lib.hid (Nat.le_trans HSZ18.out hs19.size)
      have HK2 : Hid (Calls Try.prog 23 #[.slice A8 L.length k8, .int .i64 (1 + (total m : Nat))] w19 fun e w' => e = .returned (.int .i64 (1 + (total m : Nat) + 4 * (L.length : Nat))) ∧ Span w7.heap.size w8.heap.size w19 w') := Lib.hid (by
        have hq := markWindowS_calls A8 k8 w7.heap.size w8.heap.size L (1 + total m) w19 HL19.out (by omega) (by have := HMS.out.2.1; omega)
        rw [show (((1 + total m : Nat) : Int)) = 1 + (total m : Nat) by omega] at hq
        exact hq)
      clear ho19 hs19 x1
      go_wp2_with fail
      refine HK2.out.mono ?_
      rintro e w20 ⟨rfl, hs20⟩
      have HV20 := Lib.hid (HV19.out.span hs20 (.inr (by have z1 := HZ45.out; have z2 := HZ56.out; have z3 := HZ67.out; have z4 := HZ78.out; have z5 := HZ89.out; have z6 := HZ910.out; have z7 := HZ1011.out; have z8 := HSZ19.out; have z9 := HBw5.out.size; omega)) (.inr (by have z1 := HZ45.out; have z2 := HZ56.out; have z3 := HZ67.out; have z4 := HZ78.out; have z5 := HZ89.out; have z6 := HZ910.out; have z7 := HZ1011.out; have z8 := HSZ19.out; have z9 := HBw5.out.size; omega)))
      have HP20 := Lib.hid (HP19.out.span hs20 (.inl (by have z1 := HZ45.out; have z2 := HZ56.out; have z3 := HZ67.out; have z4 := HZ78.out; have z5 := HZ89.out; have z6 := HZ910.out; have z7 := HZ1011.out; have z8 := HSZ19.out; have z9 := HBw5.out.size; omega)))
      have HQ20 := Lib.hid (HQ19.out.span hs20 (.inr (by have z1 := HZ45.out; have z2 := HZ56.out; have z3 := HZ67.out; have z4 := HZ78.out; have z5 := HZ89.out; have z6 := HZ910.out; have z7 := HZ1011.out; have z8 := HSZ19.out; have z9 := HBw5.out.size; omega)))
      have HBw20 := Lib.hid (HBw19.out.trans ((hs20.below (by have z1 := HZ45.out; have z2 := HZ56.out; have z3 := HZ67.out; have z4 := HZ78.out; have z5 := HZ89.out; have z6 := HZ910.out; have z7 := HZ1011.out; have z8 := HSZ19.out; have z9 := HBw5.out.size; omega)).mono (by have z1 := HZ45.out; have z2 := HZ56.out; have z3 := HZ67.out; have z4 := HZ78.out; have z5 := HZ89.out; have z6 := HZ910.out; have z7 := HZ1011.out; have z8 := HSZ19.out; have z9 := HBw5.out.size; omega)))
      have HSZ20 := Lib.hid (Nat.le_trans HSZ19.out hs20.size)
      clear hs20
      have HK3 : Hid (Calls Try.prog 22 #[.agg #[.slice A9 S.length k9], .int .i64 (1 + (total m : Nat) + 4 * (L.length : Nat))] w20 fun e w' => e = .returned (.int .i64 (1 + (total m : Nat) + 4 * (L.length : Nat) + (total S : Nat))) ∧ Span w8.heap.size w9.heap.size w20 w') := Lib.hid (by
        have hq := markMemory9_calls A9 k9 w8.heap.size w9.heap.size S (1 + total m + 4 * L.length) w20 HV20.out.own HMSS.out.1 HMSS.out.2 (by have := HMS.out.2.2; omega) HV20.out.loW HV20.out.hiW
        rw [show (((1 + total m + 4 * L.length : Nat) : Int)) = 1 + (total m : Nat) + 4 * (L.length : Nat) by omega] at hq
        exact hq.mono (by rintro e w' ⟨h1, h2, h3⟩; exact ⟨h1, h3⟩))
      have x2 := HV20.out.cell
      go_wp2_with fail
      refine HK3.out.mono ?_
      rintro e w21 ⟨rfl, hs21⟩
      have HP21 := Lib.hid (HP20.out.span hs21 (.inl (by have z1 := HZ45.out; have z2 := HZ56.out; have z3 := HZ67.out; have z4 := HZ78.out; have z5 := HZ89.out; have z6 := HZ910.out; have z7 := HZ1011.out; have z8 := HSZ20.out; have z9 := HBw5.out.size; omega)))
      have HQ21 := Lib.hid (HQ20.out.span hs21 (.inr (by have z1 := HZ45.out; have z2 := HZ56.out; have z3 := HZ67.out; have z4 := HZ78.out; have z5 := HZ89.out; have z6 := HZ910.out; have z7 := HZ1011.out; have z8 := HSZ20.out; have z9 := HBw5.out.size; omega)))
      have HBw21 := Lib.hid (HBw20.out.trans ((hs21.below (by have z1 := HZ45.out; have z2 := HZ56.out; have z3 := HZ67.out; have z4 := HZ78.out; have z5 := HZ89.out; have z6 := HZ910.out; have z7 := HZ1011.out; have z8 := HSZ20.out; have z9 := HBw5.out.size; omega)).mono (by have z1 := HZ45.out; have z2 := HZ56.out; have z3 := HZ67.out; have z4 := HZ78.out; have z5 := HZ89.out; have z6 := HZ910.out; have z7 := HZ1011.out; have z8 := HSZ20.out; have z9 := HBw5.out.size; omega)))
      have HSZ21 := Lib.hid (Nat.le_trans HSZ20.out hs21.size)
      have hpos : ¬ ((1 : Int) + (total m : Nat) + 4 * (L.length : Nat) + (total S : Nat)) < 0 := by omega
      clear hs21 x2
      go_wp2_with fail
      refine (HER.out w21 AQ AP cQ cP (ownI_rd HQ21.out) (ownI_rd HP21.out)).mono ?_
      rintro e w22 ⟨rfl, hb22⟩
      have HP22 := Lib.hid (HP21.out.below hb22)
      have HQ22 := Lib.hid (HQ21.out.below hb22)
      have HBw22 := Lib.hid (HBw21.out.trans (hb22.mono HBw21.out.size))
      have HSZ22 := Lib.hid (Nat.le_trans HSZ21.out hb22.size)
      clear hb22
      have HK4 := Lib.hid (markI1_calls w22 HQ22.out hR1 (by have z1 := HZ45.out; have z2 := HZ56.out; have z3 := HZ67.out; have z4 := HZ78.out; have z5 := HZ89.out; have z6 := HZ910.out; have z7 := HZ1011.out; have z8 := HSZ22.out; have z9 := HBw5.out.size; omega))
      clear hpos
      go_wp2_with fail
      refine HK4.out.mono ?_
      rintro e w23 ⟨rfl, ho23, hs23⟩
      have HQ23 := Lib.hid ho23
      have HP23 := Lib.hid (HP22.out.span hs23 (.inl (by have z1 := HZ45.out; have z2 := HZ56.out; have z3 := HZ67.out; have z4 := HZ78.out; have z5 := HZ89.out; have z6 := HZ910.out; have z7 := HZ1011.out; have z8 := HSZ22.out; have z9 := HBw5.out.size; omega)))
      have HBw23 := Lib.hid (HBw22.out.trans ((hs23.below (by have z1 := HZ45.out; have z2 := HZ56.out; have z3 := HZ67.out; have z4 := HZ78.out; have z5 := HZ89.out; have z6 := HZ910.out; have z7 := HZ1011.out; have z8 := HSZ22.out; have z9 := HBw5.out.size; omega)).mono (by have z1 := HZ45.out; have z2 := HZ56.out; have z3 := HZ67.out; have z4 := HZ78.out; have z5 := HZ89.out; have z6 := HZ910.out; have z7 := HZ1011.out; have z8 := HSZ22.out; have z9 := HBw5.out.size; omega)))
      have HSZ23 := Lib.hid (Nat.le_trans HSZ22.out hs23.size)
      have HH := Lib.hid (heldI1_calls w23 HQ23.out hR1)
      have hposR : ¬ ((1 : Int) + (R.length : Nat)) < 0 := by omega
      have hselfR : (((1 : Int) + (R.length : Nat)) != 1 + (R.length : Nat)) = false := by simp
      clear ho23 hs23
      go_wp2_with fail
      refine HH.out.mono ?_
      rintro e w24 ⟨rfl, hb24⟩
      have HP24 := Lib.hid (HP23.out.below hb24)
      have HQ24 := Lib.hid (HQ23.out.below hb24)
      have HBw24 := Lib.hid (HBw23.out.trans (hb24.mono HBw23.out.size))
      have HSZ24 := Lib.hid (Nat.le_trans HSZ23.out hb24.size)
      clear hb24
      have ya := HA.out w24.drew HBw24.out.drew
      obtain ⟨y1, y2⟩ := ya
      go_wp2_with fail
      go_region_held3 (fun W => W.cell? ⟨w.heap.size, 0, none⟩ = some (.slice A m.length cap) ∧ W.cell? ⟨w.heap.size + 1, 0, none⟩ = some (.slice AS S.length capS))
        (first | (with_reducible exact ⟨y1, y2⟩) | (with_reducible exact HA.out _ hc25) | (with_reducible exact HA.out _ hc26) | (with_reducible exact HA.out _ hc27) | (with_reducible exact HA.out _ hc28))
        (first
          | (go_at_call 16; (with_reducible refine (HT.out _ HBw24.out.drew).mono ?_); rintro e w25 ⟨v25, rfl, ho25, hb25⟩; obtain ⟨A25, k25, rfl, hk25⟩ := ho25.form; have hc25 := HBw24.out.drew.trans (hb25.mono HBw24.out.drew.size); have HO25 := Lib.hid ho25; clear ho25)
          | (go_at_call 17; (with_reducible refine (HTL.out _ hc25).mono ?_); rintro e w26 ⟨v26, rfl, ho26, hb26⟩; obtain ⟨A26, k26, rfl⟩ := ho26.form; have hc26 := hc25.trans (hb26.mono hc25.size); have HX2526 := Lib.hid (HO25.out.below hb26); have HO26 := Lib.hid ho26; clear ho26)
          | (go_at_call 16; (with_reducible refine (HT2.out _ hc26).mono ?_); rintro e w27 ⟨v27, rfl, ho27, hb27⟩; obtain ⟨A27, k27, rfl, hk27⟩ := ho27.form; have hc27 := hc26.trans (hb27.mono hc26.size); have HF27 := Lib.hid (HIP.out w27 A25 k25 A26 k26 A27 k27 (HX2526.out.below hb27).reads (HO26.out.below hb27).rd ho27.reads); clear ho27)
          | (go_at_call 35; (with_reducible refine HF27.out.mono ?_); rintro e w28 ⟨vT, rfl, hoT, hb28⟩; obtain ⟨AT, cT, rfl⟩ := own_form hoT; have hc28 := hc27.trans (hb28.mono hc27.size)))
      have HBw28 := Lib.hid hc28
      have HT28 := Lib.hid (show OwnR w28 w27.heap.size w28.heap.size 3 (.slice AT R.length cT) (intV .i64 R) from OwnR.new (by rw [intV_len]; exact hoT))
      have HC28 := Lib.hid (show Below w24.heap.size w24 w28 from ((Below.refl w24.heap.size w24).drew.trans hb25).trans ((hb26.mono hb25.size).trans ((hb27.mono (Nat.le_trans hb25.size hb26.size)).trans (hb28.mono (Nat.le_trans hb25.size (Nat.le_trans hb26.size hb27.size))))))
      have HQ28 := Lib.hid (HQ24.out.below HC28.out)
      have HP28 := Lib.hid (HP24.out.below HC28.out)
      clear y1 y2 hoT hb25 hb26 hb27 hb28 hc25 hc26 hc27 hc28 hk25 hk27
      go_wp2_with fail
      refine (HER.out w28 AT AP cT cP (ownI_rd HT28.out) (ownI_rd HP28.out)).mono ?_
      rintro e w29 ⟨rfl, hb29⟩
      have HQ29 := Lib.hid (HQ28.out.below hb29)
      have HBw29 := Lib.hid (HBw28.out.trans (hb29.mono HBw28.out.size))
      have HH2 := Lib.hid (heldI1_calls w29 HQ29.out hR1)
      clear hb29
      go_wp2_with fail
      refine HH2.out.mono ?_
      rintro e w30 ⟨rfl, hb30⟩
      have HBw30 := Lib.hid (HBw29.out.trans (hb30.mono HBw29.out.size))
      clear hb30
      go_wp2_with fail
      go_ret
      exact ⟨rfl, HB.out.trans (HBw30.out.mono HB.out.size)⟩
end Go.Proofs.Ytomgjhdknondmab
