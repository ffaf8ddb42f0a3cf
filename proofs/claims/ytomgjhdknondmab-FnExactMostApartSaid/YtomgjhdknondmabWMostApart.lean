/-
  FnExactMostApart: the walk.
-/
import Derived.Test.YtomgjhdknondmabBox
import Derived.Test.YtomgjhdknondmabWinsL
import Derived.Test.YtomgjhdknondmabIntS
import Derived.Test.YtomgjhdknondmabApI
namespace Go.Proofs.Ytomgjhdknondmab
open Go.RowKit

set_option maxRecDepth 100000 in
set_option maxHeartbeats 6400000 in
theorem fnExactMostApart_walk (A : Option Addr) (len cap : Nat) (m : List (List Int)) (BL : Option Addr) (lenL capL : Nat) (L : List Win) (w : World) (h : MArg w A len cap m) (hL : WsArg w BL lenL capL L) :
    Calls Try.prog 3 #[.agg #[.slice A len cap], .slice BL lenL capL] w fun e w' => e = .returned (.bool true) ∧ Below w.heap.size w w' := by
  obtain ⟨rfl, h1, h2, hr, hzz⟩ := h
  obtain ⟨rfl, h3, h4, hrL, hwa⟩ := hL
  have hsm := apartR_small m L
  obtain ⟨R, p, hform⟩ : ∃ (R : List Int) (p : Bool), apartR m L = (R, p) := ⟨_, _, rfl⟩
  rw [hform] at hsm
  have hR1 : R.length ≤ 2097152 := hsm
  obtain ⟨w0, hw0⟩ : ∃ w0, (w.alloc (.cells #[.slice A m.length cap] 24)) = w0 := ⟨_, rfl⟩
  have hb0 : Below w.heap.size w w0 := by rw [← hw0]; exact (Below.refl _ _).alloc (Nat.le_refl _) _
  have hg0 : w0.heap[w.heap.size]? = some (.cells #[.slice A m.length cap] 24) := by rw [← hw0]; exact heap_alloc_new _ _
  have hlen : m.length ≤ maxLen := by omega
  have hlenL : L.length ≤ maxLen := by omega
  have HS := Lib.hid (szMemory_calls A cap m w0 1048576 ((hr.below hb0).more hb0.size) hlen (by omega) (by omega))
  have HB := Lib.hid hb0
  have HW := Lib.hid hw0
  have HR := Lib.hid hr
  have HRL := Lib.hid hrL
  have HWA := Lib.hid hwa
  have c0 := one_cell hg0
  have HA : Hid (∀ W, Below w0.heap.size w0 W → W.cell? ⟨w.heap.size, 0, none⟩ = some (.slice A m.length cap)) := Lib.hid fun W hb => one_cell ((hb.block _ (Array.getElem?_eq_some_iff.1 hg0).1).trans hg0)
  clear hr hrL hwa hb0 hw0 hg0 hzz hsm
  go_enter Try.func3, Try.ntmps3
  go_wp2_with fail
  rw [HW.out]
  refine HS.out.mono ?_
  rintro e w1 ⟨⟨r, rfl, hr⟩, hb1⟩
  have HR1 := Lib.hid hr
  have HBw1 := Lib.hid hb1
  clear hb1 c0
  by_cases hneg : r < 0
  · clear hr
    go_wp2_with fail
    go_ret
    exact ⟨rfl, HB.out.trans (HBw1.out.mono HB.out.size)⟩
  · have hsz : m.length ≤ 1048576 ∧ total m ≤ 1048576 ∧ 0 ≤ r ∧ r ≤ 1048576 := by omega
    have HSL := Lib.hid (szWindowS_calls BL L.length capL w1 r hlenL hsz.2.2.1 hsz.2.2.2)
    by_cases hneg2 : r < L.length
    · rw [if_pos hneg2] at HSL
      have hr0 := hsz.2.2.1
      clear hr hsz hneg2
      go_wp2_with fail
      refine HSL.out.mono ?_
      rintro e w1 ⟨rfl, rfl⟩
      go_wp2_with fail
      go_ret
      exact ⟨rfl, HB.out.trans (HBw1.out.mono HB.out.size)⟩
    · rw [if_neg hneg2] at HSL
      have hl20 : L.length ≤ 1048576 := by omega
      have hr0 := hsz.2.2.1
      have hrl : ¬ (r - (L.length : Int)) < 0 := by omega
      have hro : ∀ q ∈ m, q.length ≤ 1048576 := fun q hq => Nat.le_trans (row_le m q hq) hsz.2.1
      have HMS := Lib.hid (show m.length ≤ 2097152 ∧ total m ≤ 2097152 by omega)
      have HT := Lib.hid (fun W (hb : Below w0.heap.size w0 W) => toMemory_calls A cap m W ((HR.out.below (HB.out.trans (hb.mono HB.out.size))).more (Nat.le_trans HB.out.size hb.size)) hsz.1 hro)
      have HTL := Lib.hid (fun W (hb : Below w0.heap.size w0 W) => toWindowS_calls BL capL L W ((HRL.out.below (HB.out.trans (hb.mono HB.out.size))).more (Nat.le_trans HB.out.size hb.size)) hl20)
      have HSP : Hid (∀ W X kx Y ky, Rd2 W W.heap.size X m → RdW W W.heap.size Y L → Calls Try.prog 15 #[.agg #[.slice X m.length kx], .slice Y L.length ky] W fun e w' => ∃ v, e = .returned (.tuple #[v, .bool p]) ∧ w'.ownsRow W.heap.size 3 1 v R.length (intV .i64 R) ∧ Below W.heap.size W w') := Lib.hid (fun W X kx Y ky hx hy => by have hq := specMostApart_calls X kx m Y ky L W hx hlen hy hlenL; rw [hform] at hq; exact hq)
      have HIP : Hid (∀ W X kx Y ky, Rd2 W W.heap.size X m → RdW W W.heap.size Y L → Calls Try.prog 18 #[.agg #[.slice X m.length kx], .slice Y L.length ky] W fun e w' => ∃ v, e = .returned (.tuple #[v, .bool p]) ∧ w'.ownsRow W.heap.size 3 1 v R.length (intV .i64 R) ∧ Below W.heap.size W w') := Lib.hid (fun W X kx Y ky hx hy => by have hq := implMostApart_calls X kx m Y ky L W hx hlen hy hlenL HWA.out; rw [hform] at hq; exact hq)
      have HE := Lib.hid (fun W X Y cx cy (hx : Rd2 W W.heap.size X m) (hy : Rd2 W W.heap.size Y m) => eqSame_calls X Y cx cy m W hx hy hlen)
      have HEL := Lib.hid (fun W X Y cx cy (hx : RdW W W.heap.size X L) (hy : RdW W W.heap.size Y L) => eqWindowS_calls X Y cx cy L W hx hy hl20)
      have HER := Lib.hid (fun W X Y cx cy (hx : Rd W W.heap.size X (intV .i64 R)) (hy : Rd W W.heap.size Y (intV .i64 R)) => eqI_calls X Y cx cy W hx hy hR1)
      have hself : (p != p) = false := by simp
      clear hr hsz hro hform hneg2
      have d1 := HA.out w1 HBw1.out
      go_wp2_with fail
      refine HSL.out.mono ?_
      rintro e w1' ⟨rfl, rfl⟩
      go_wp2_with fail
      refine (HT.out _ HBw1.out).mono ?_
      rintro e w2 ⟨v2, rfl, ho2, hb2⟩
      obtain ⟨A2, k2, rfl, hk2⟩ := ho2.form
      have HO2 := Lib.hid ho2
      have HBw2 := Lib.hid (HBw1.out.trans (hb2.mono HBw1.out.size))
      clear ho2 hb2 hk2 d1
      go_wp2_with fail
      refine (HTL.out _ HBw2.out).mono ?_
      rintro e w3 ⟨v3, rfl, ho3, hb3⟩
      obtain ⟨A3, k3, rfl⟩ := ho3.form
      have HS3 := Lib.hid (HSP.out w3 A2 k2 A3 k3 (HO2.out.below hb3).reads ho3.rd)
      have HBw3 := Lib.hid (HBw2.out.trans (hb3.mono HBw2.out.size))
      clear ho3 hb3
      go_wp2_with fail
      refine HS3.out.mono ?_
      rintro e w4 ⟨vP, rfl, hoP, hb4⟩
      obtain ⟨AP, cP, rfl⟩ := own_form hoP
      have HP4 := Lib.hid (show OwnR w4 w3.heap.size w4.heap.size 3 (.slice AP R.length cP) (intV .i64 R) from OwnR.new (by rw [intV_len]; exact hoP))
      have HBw4 := Lib.hid (HBw3.out.trans (hb4.mono HBw3.out.size))
      have d4 := HA.out w4 HBw4.out
      clear hoP hb4
      go_wp2_with fail
      refine (HT.out _ HBw4.out).mono ?_
      rintro e w5 ⟨v5, rfl, ho5, hb5⟩
      obtain ⟨A5, k5, rfl, hk5⟩ := ho5.form
      obtain ⟨w6, hw6⟩ : ∃ w6, w5.alloc (.cells #[.slice A5 m.length k5] 31) = w6 := ⟨_, rfl⟩
      have hb6 : Below w5.heap.size w5 w6 := by rw [← hw6]; exact (Below.refl _ _).alloc (Nat.le_refl _) _
      have hx6 : w6.heap[w5.heap.size]? = some (.cells #[.slice A5 m.length k5] 31) := by rw [← hw6]; exact heap_alloc_new _ _
      have HX6 := Lib.hid (MBox.mk' (b := w4.heap.size) hx6 (ho5.below hb6) hb5.size (Nat.le_refl _) hb6.size (Nat.le_trans hb5.size hb6.size) (.inr (Nat.le_refl _)))
      have HP6 := Lib.hid ((HP4.out.below hb5).below hb6)
      have HBw6 := Lib.hid ((HBw4.out.trans (hb5.mono HBw4.out.size)).trans (hb6.mono (Nat.le_trans HBw4.out.size hb5.size)))
      have HW6 := Lib.hid hw6
      have HZ45 := Lib.hid hb5.size
      have HZ56 := Lib.hid hb6.size
      clear d4 ho5 hb5 hb6 hw6 hx6 hk5
      go_wp2_with fail
      rw [HW6.out]
      refine (HTL.out _ HBw6.out).mono ?_
      rintro e w7 ⟨v7, rfl, ho7, hb7⟩
      obtain ⟨A7, k7, rfl⟩ := ho7.form
      have HL7 := Lib.hid ho7
      have HZ67 := Lib.hid hb7.size
      have HX7 := Lib.hid (HX6.out.below hb7)
      have HP7 := Lib.hid (HP6.out.below hb7)
      have HBw7 := Lib.hid (HBw6.out.trans (hb7.mono HBw6.out.size))
      have x7 := HX7.out.cell
      have HI7 := Lib.hid (HIP.out w7 A5 k5 A7 k7 HX7.out.own.reads HL7.out.rd)
      clear ho7 hb7
      go_wp2_with fail
      refine HI7.out.mono ?_
      rintro e w8 ⟨vQ, rfl, hoQ, hb8⟩
      obtain ⟨AQ, cQ, rfl⟩ := own_form hoQ
      have HQ8 := Lib.hid (show OwnR w8 w7.heap.size w8.heap.size 3 (.slice AQ R.length cQ) (intV .i64 R) from OwnR.new (by rw [intV_len]; exact hoQ))
      have HP8 := Lib.hid (HP7.out.below hb8)
      have HX8 := Lib.hid (HX7.out.below hb8)
      have HL8 := Lib.hid (HL7.out.below hb8)
      have HZ78 := Lib.hid hb8.size
      have HBw8 := Lib.hid (HBw7.out.trans (hb8.mono HBw7.out.size))
      have HSZ8 := Lib.hid (Nat.le_refl w8.heap.size)
      clear x7 hb8 hoQ
      go_wp2_with fail
      refine (HER.out w8 AQ AP cQ cP (ownI_rd HQ8.out) (ownI_rd HP8.out)).mono ?_
      rintro e w9 ⟨rfl, hb9⟩
      have HX9 := Lib.hid (HX8.out.below hb9)
      have HL9 := Lib.hid (HL8.out.below hb9)
      have HP9 := Lib.hid (HP8.out.below hb9)
      have HQ9 := Lib.hid (HQ8.out.below hb9)
      have HBw9 := Lib.hid (HBw8.out.trans (hb9.mono HBw8.out.size))
      have HSZ9 := Lib.hid (Nat.le_trans HSZ8.out hb9.size)
      clear hb9
      have y1 : w9.drew.cell? ⟨w.heap.size, 0, none⟩ = some (.slice A m.length cap) := HA.out w9 HBw9.out
      have y2 : w9.drew.cell? ⟨w5.heap.size, 0, none⟩ = some (.slice A5 m.length k5) := HX9.out.cell
      have HD9 := Lib.hid ((Below.refl w9.heap.size w9).drew)
      go_wp2_with fail
      go_region_held3 (fun W => W.cell? ⟨w.heap.size, 0, none⟩ = some (.slice A m.length cap) ∧ W.cell? ⟨w5.heap.size, 0, none⟩ = some (.slice A5 m.length k5))
        (first | exact ⟨y1, y2⟩ | exact ⟨HA.out _ (HBw9.out.trans (hc10.mono HBw9.out.size)), (HX9.out.below hc10).cell⟩ | exact ⟨HA.out _ (HBw9.out.trans (hc11.mono HBw9.out.size)), (HX9.out.below hc11).cell⟩)
        (first | (go_at_call 16; refine (HT.out _ HBw9.out.drew).mono ?_; rintro e w10 ⟨v10, rfl, ho10, hb10⟩; obtain ⟨A10, k10, rfl, hk10⟩ := ho10.form; have hc10 := HD9.out.trans hb10) | (go_at_call 20; refine (HE.out w10 A5 A10 k5 k10 (HX9.out.below hc10).own.reads ho10.reads).mono ?_; rintro e w11 ⟨rfl, hb11⟩; have hc11 := hc10.trans (hb11.mono hc10.size)))
      have HX11 := Lib.hid (HX9.out.below hc11)
      have HL11 := Lib.hid (HL9.out.below hc11)
      have HP11 := Lib.hid (HP9.out.below hc11)
      have HQ11 := Lib.hid (HQ9.out.below hc11)
      have HBw11 := Lib.hid (HBw9.out.trans (hc11.mono HBw9.out.size))
      have HSZ11 := Lib.hid (Nat.le_trans HSZ9.out hc11.size)
      clear hb10 hb11 hc10 hc11 y1 y2 ho10 hk10
      go_wp2_with fail
      refine (HTL.out _ HBw11.out).mono ?_
      rintro e w12 ⟨v12, rfl, ho12, hb12⟩
      obtain ⟨A12, k12, rfl⟩ := ho12.form
      have HO12 := Lib.hid ho12
      have HX12 := Lib.hid (HX11.out.below hb12)
      have HL12 := Lib.hid (HL11.out.below hb12)
      have HP12 := Lib.hid (HP11.out.below hb12)
      have HQ12 := Lib.hid (HQ11.out.below hb12)
      have HBw12 := Lib.hid (HBw11.out.trans (hb12.mono HBw11.out.size))
      have HSZ12 := Lib.hid (Nat.le_trans HSZ11.out hb12.size)
      have HEL12 := Lib.hid (HEL.out w12 A7 A12 k7 k12 HL12.out.rd HO12.out.rd)
      clear ho12 hb12
      go_wp2_with fail
      refine HEL12.out.mono ?_
      rintro e w13 ⟨rfl, hb13⟩
      have HX13 := Lib.hid (HX12.out.below hb13)
      have HL13 := Lib.hid (HL12.out.below hb13)
      have HP13 := Lib.hid (HP12.out.below hb13)
      have HQ13 := Lib.hid (HQ12.out.below hb13)
      have HBw13 := Lib.hid (HBw12.out.trans (hb13.mono HBw12.out.size))
      have HSZ13 := Lib.hid (Nat.le_trans HSZ12.out hb13.size)
      clear hb13
      have HZ13 := Lib.hid (show w4.heap.size ≤ w13.heap.size ∧ w6.heap.size ≤ w13.heap.size ∧ w7.heap.size ≤ w13.heap.size ∧ w0.heap.size ≤ w4.heap.size by have := HSZ13.out; have := HZ45.out; have := HZ56.out; have := HZ67.out; have := HZ78.out; have := HBw4.out.size; omega)
      have HK := Lib.hid (mark1_calls A5 k5 w4.heap.size w5.heap.size m w13 HX13.out.own HMS.out.1 HMS.out.2 HZ13.out.1 HX13.out.hiW)
      have x1 := HX13.out.cell
      go_wp2_with fail
      refine HK.out.mono ?_
      rintro e w14 ⟨rfl, ho14, hs14⟩
      have HP14 := Lib.hid (HP13.out.span hs14 (.inl (Nat.le_refl _)))
      have HL14 := Lib.hid (HL13.out.span hs14 (.inr HZ56.out))
      have HQ14 := Lib.hid (HQ13.out.span hs14 (.inr (Nat.le_trans HZ56.out HZ67.out)))
      have HBw14 := Lib.hid (HBw13.out.trans ((hs14.below HZ13.out.1).mono HZ13.out.2.2.2))
      have HSZ14 := Lib.hid (Nat.le_trans HSZ13.out hs14.size)
      have HK2 : Hid (Calls Try.prog 23 #[.slice A7 L.length k7, .int .i64 (1 + (total m : Nat))] w14 fun e w' => e = .returned (.int .i64 (1 + (total m : Nat) + 4 * (L.length : Nat))) ∧ Span w6.heap.size w7.heap.size w14 w') := Lib.hid (by
        have hq := markWindowS_calls A7 k7 w6.heap.size w7.heap.size L (1 + total m) w14 HL14.out (by omega) (by have := HMS.out.2; omega)
        rw [show (((1 + total m : Nat) : Int)) = 1 + (total m : Nat) by omega] at hq
        exact hq)
      clear ho14 hs14 x1
      go_wp2_with fail
      refine HK2.out.mono ?_
      rintro e w15 ⟨rfl, hs15⟩
      have HP15 := Lib.hid (HP14.out.span hs15 (.inl (Nat.le_trans HZ45.out HZ56.out)))
      have HQ15 := Lib.hid (HQ14.out.span hs15 (.inr (Nat.le_refl _)))
      have HBw15 := Lib.hid (HBw14.out.trans ((hs15.below (Nat.le_trans (Nat.le_trans HZ67.out HZ78.out) HSZ14.out)).mono (Nat.le_trans HZ13.out.2.2.2 (Nat.le_trans HZ45.out HZ56.out))))
      have HSZ15 := Lib.hid (Nat.le_trans HSZ14.out hs15.size)
      have hpos : ¬ ((1 : Int) + (total m : Nat) + 4 * (L.length : Nat)) < 0 := by omega
      clear hs15
      go_wp2_with fail
      refine (HER.out w15 AQ AP cQ cP (ownI_rd HQ15.out) (ownI_rd HP15.out)).mono ?_
      rintro e w16 ⟨rfl, hb16⟩
      have HP16 := Lib.hid (HP15.out.below hb16)
      have HQ16 := Lib.hid (HQ15.out.below hb16)
      have HBw16 := Lib.hid (HBw15.out.trans (hb16.mono HBw15.out.size))
      have HSZ16 := Lib.hid (Nat.le_trans HSZ15.out hb16.size)
      have HK3 := Lib.hid (markI1_calls w16 HQ16.out hR1 (Nat.le_trans HZ78.out HSZ16.out))
      clear hb16 hpos
      go_wp2_with fail
      refine HK3.out.mono ?_
      rintro e w17 ⟨rfl, ho17, hs17⟩
      have HQ17 := Lib.hid ho17
      have HP17 := Lib.hid (HP16.out.span hs17 (.inl (Nat.le_trans HZ45.out (Nat.le_trans HZ56.out HZ67.out))))
      have HBw17 := Lib.hid (HBw16.out.trans ((hs17.below (Nat.le_trans HZ78.out HSZ16.out)).mono (Nat.le_trans HZ13.out.2.2.2 (Nat.le_trans HZ45.out (Nat.le_trans HZ56.out HZ67.out)))))
      have HH := Lib.hid (heldI1_calls w17 HQ17.out hR1)
      have hposR : ¬ ((1 : Int) + (R.length : Nat)) < 0 := by omega
      have hselfR : (((1 : Int) + (R.length : Nat)) != 1 + (R.length : Nat)) = false := by simp
      clear ho17 hs17
      go_wp2_with fail
      refine HH.out.mono ?_
      rintro e w18 ⟨rfl, hb18⟩
      have HQ18 := Lib.hid (HQ17.out.below hb18)
      have HP18 := Lib.hid (HP17.out.below hb18)
      have HBw18 := Lib.hid (HBw17.out.trans (hb18.mono HBw17.out.size))
      have d18 := HA.out w18 HBw18.out
      clear hb18
      go_wp2_with fail
      refine (HT.out _ HBw18.out).mono ?_
      rintro e w19 ⟨v19, rfl, ho19, hb19⟩
      obtain ⟨A19, k19, rfl, hk19⟩ := ho19.form
      have HO19 := Lib.hid ho19
      have HQ19 := Lib.hid (HQ18.out.below hb19)
      have HP19 := Lib.hid (HP18.out.below hb19)
      have HBw19 := Lib.hid (HBw18.out.trans (hb19.mono HBw18.out.size))
      clear ho19 hb19 hk19 d18
      go_wp2_with fail
      refine (HTL.out _ HBw19.out).mono ?_
      rintro e w20 ⟨v20, rfl, ho20, hb20⟩
      obtain ⟨A20, k20, rfl⟩ := ho20.form
      have HI20 := Lib.hid (HIP.out w20 A19 k19 A20 k20 (HO19.out.below hb20).reads ho20.rd)
      have HQ20 := Lib.hid (HQ19.out.below hb20)
      have HP20 := Lib.hid (HP19.out.below hb20)
      have HBw20 := Lib.hid (HBw19.out.trans (hb20.mono HBw19.out.size))
      clear ho20 hb20
      go_wp2_with fail
      refine HI20.out.mono ?_
      rintro e w21 ⟨vT, rfl, hoT, hb21⟩
      obtain ⟨AT, cT, rfl⟩ := own_form hoT
      have HT21 := Lib.hid (show OwnR w21 w20.heap.size w21.heap.size 3 (.slice AT R.length cT) (intV .i64 R) from OwnR.new (by rw [intV_len]; exact hoT))
      have HQ21 := Lib.hid (HQ20.out.below hb21)
      have HP21 := Lib.hid (HP20.out.below hb21)
      have HBw21 := Lib.hid (HBw20.out.trans (hb21.mono HBw20.out.size))
      clear hoT hb21
      go_wp2_with fail
      refine (HER.out w21 AT AP cT cP (ownI_rd HT21.out) (ownI_rd HP21.out)).mono ?_
      rintro e w22 ⟨rfl, hb22⟩
      have HQ22 := Lib.hid (HQ21.out.below hb22)
      have HBw22 := Lib.hid (HBw21.out.trans (hb22.mono HBw21.out.size))
      have HH2 := Lib.hid (heldI1_calls w22 HQ22.out hR1)
      clear hb22
      go_wp2_with fail
      refine HH2.out.mono ?_
      rintro e w23 ⟨rfl, hb23⟩
      have HBw23 := Lib.hid (HBw22.out.trans (hb23.mono HBw22.out.size))
      clear hb23
      go_wp2_with fail
      go_ret
      exact ⟨rfl, HB.out.trans (HBw23.out.mono HB.out.size)⟩
end Go.Proofs.Ytomgjhdknondmab
