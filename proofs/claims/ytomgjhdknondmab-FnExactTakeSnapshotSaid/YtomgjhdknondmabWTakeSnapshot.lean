/-
  FnExactTakeSnapshot: the walk.
-/
import Derived.Test.YtomgjhdknondmabBox
import Derived.Test.YtomgjhdknondmabWinsL
import Derived.Test.YtomgjhdknondmabSnapS
import Derived.Test.YtomgjhdknondmabSnapI
namespace Go.Proofs.Ytomgjhdknondmab
open Go.RowKit

set_option maxRecDepth 100000 in
set_option maxHeartbeats 12800000 in
theorem fnExactTakeSnapshot_walk (A : Option Addr) (len cap : Nat) (m : List (List Int)) (BL : Option Addr) (lenL capL : Nat) (L : List Win) (w : World) (h : MArg w A len cap m) (hL : WsArg w BL lenL capL L) :
    Calls Try.prog 5 #[.agg #[.slice A len cap], .slice BL lenL capL] w fun e w' => e = .returned (.bool true) ∧ Below w.heap.size w w' := by
  obtain ⟨rfl, h1, h2, hr, hzz⟩ := h
  obtain ⟨rfl, h3, h4, hrL, hwa⟩ := hL
  have hsm := snapR_small m L
  obtain ⟨R, p, hform⟩ : ∃ (R : List (List Int)) (p : Bool), snapR m L = (R, p) := ⟨_, _, rfl⟩
  rw [hform] at hsm
  obtain ⟨hR1, hR2, hR3⟩ := hsm.tot
  obtain ⟨w0, hw0⟩ : ∃ w0, (w.alloc (.cells #[.slice A m.length cap] 24)) = w0 := ⟨_, rfl⟩
  have hb0 : Below w.heap.size w w0 := by rw [← hw0]; exact (Below.refl _ _).alloc (Nat.le_refl _) _
  have hg0 : w0.heap[w.heap.size]? = some (.cells #[.slice A m.length cap] 24) := by rw [← hw0]; exact heap_alloc_new _ _
  have hlen : m.length ≤ maxLen := by omega
  have hlenL : L.length ≤ maxLen := by omega
  have HS := Lib.hid (szMemory_calls A cap m w0 1048576 ((hr.below hb0).more hb0.size) hlen (by omega) (by omega))
  have HB := Lib.hid hb0
  have HW := Lib.hid hw0
  have HR := Lib.hid hr
  have HRL := Lib.hid hrL
  have HWA := Lib.hid hwa
  have c0 := one_cell hg0
  have HA : Hid (∀ W, Below w0.heap.size w0 W → W.cell? ⟨w.heap.size, 0, none⟩ = some (.slice A m.length cap)) := Lib.hid fun W hb => one_cell ((hb.block _ (Array.getElem?_eq_some_iff.1 hg0).1).trans hg0)
  clear hr hrL hwa hb0 hw0 hg0 hzz hsm
  go_enter Try.func5, Try.ntmps5
  go_wp2_with fail
  rw [HW.out]
  refine HS.out.mono ?_
  rintro e w1 ⟨⟨r, rfl, hr⟩, hb1⟩
  have HR1 := Lib.hid hr
  have HBw1 := Lib.hid hb1
  clear hb1 c0
  by_cases hneg : r < 0
  · clear hr
    go_wp2_with fail
    go_ret
    exact ⟨rfl, HB.out.trans (HBw1.out.mono HB.out.size)⟩
  · have hsz : m.length ≤ 1048576 ∧ total m ≤ 1048576 ∧ 0 ≤ r ∧ r ≤ 1048576 := by omega
    have HSL := Lib.hid (szWindowS_calls BL L.length capL w1 r hlenL hsz.2.2.1 hsz.2.2.2)
    by_cases hneg2 : r < L.length
    · rw [if_pos hneg2] at HSL
      have hr0 := hsz.2.2.1
      clear hr hsz hneg2
      go_wp2_with fail
      refine HSL.out.mono ?_
      rintro e w1 ⟨rfl, rfl⟩
      go_wp2_with fail
      go_ret
      exact ⟨rfl, HB.out.trans (HBw1.out.mono HB.out.size)⟩
    · rw [if_neg hneg2] at HSL
      have hl20 : L.length ≤ 1048576 := by omega
      have hr0 := hsz.2.2.1
      have hrl : ¬ (r - (L.length : Int)) < 0 := by omega
      have hro : ∀ q ∈ m, q.length ≤ 1048576 := fun q hq => Nat.le_trans (row_le m q hq) hsz.2.1
      have HMS := Lib.hid (show m.length ≤ 2097152 ∧ total m ≤ 2097152 by omega)
      have HT := Lib.hid (fun W (hb : Below w0.heap.size w0 W) => toMemory_calls A cap m W ((HR.out.below (HB.out.trans (hb.mono HB.out.size))).more (Nat.le_trans HB.out.size hb.size)) hsz.1 hro)
      have HTL := Lib.hid (fun W (hb : Below w0.heap.size w0 W) => toWindowS_calls BL capL L W ((HRL.out.below (HB.out.trans (hb.mono HB.out.size))).more (Nat.le_trans HB.out.size hb.size)) hl20)
      have HSP : Hid (∀ W X kx Y ky, Rd2 W W.heap.size X m → RdW W W.heap.size Y L → Calls Try.prog 31 #[.agg #[.slice X m.length kx], .slice Y L.length ky] W fun e w' => ∃ v, e = .returned (.tuple #[.agg #[v], .bool p]) ∧ OwnM w' W.heap.size w'.heap.size v R ∧ Below W.heap.size W w') := Lib.hid (fun W X kx Y ky hx hy => by have hq := specTakeSnapshot_calls X kx m Y ky L W hx hlen hy hlenL; rw [hform] at hq; exact hq)
      have HIP : Hid (∀ W X kx Y ky, Rd2 W W.heap.size X m → RdW W W.heap.size Y L → Calls Try.prog 32 #[.agg #[.slice X m.length kx], .slice Y L.length ky] W fun e w' => ∃ v, e = .returned (.tuple #[.agg #[v], .bool p]) ∧ OwnM w' W.heap.size w'.heap.size v R ∧ Below W.heap.size W w') := Lib.hid (fun W X kx Y ky hx hy => by have hq := implTakeSnapshot_calls X kx m Y ky L W hx hlen hy hlenL HWA.out; rw [hform] at hq; exact hq)
      have HE := Lib.hid (fun W X Y cx cy (hx : Rd2 W W.heap.size X m) (hy : Rd2 W W.heap.size Y m) => eqSame_calls X Y cx cy m W hx hy hlen)
      have HEL := Lib.hid (fun W X Y cx cy (hx : RdW W W.heap.size X L) (hy : RdW W W.heap.size Y L) => eqWindowS_calls X Y cx cy L W hx hy hl20)
      have HER := Lib.hid (fun W X Y cx cy (hx : Rd2 W W.heap.size X R) (hy : Rd2 W W.heap.size Y R) => eqSame_calls X Y cx cy R W hx hy hR3)
      have hself : (p != p) = false := by simp
      clear hr hsz hro hform hneg2 hR3
      have d1 := HA.out w1 HBw1.out
      go_wp2_with fail
      refine HSL.out.mono ?_
      rintro e w1' ⟨rfl, rfl⟩
      go_wp2_with fail
      refine (HT.out _ HBw1.out).mono ?_
      rintro e w2 ⟨v2, rfl, ho2, hb2⟩
      obtain ⟨A2, k2, rfl, hk2⟩ := ho2.form
      have HO2 := Lib.hid ho2
      have HBw2 := Lib.hid (HBw1.out.trans (hb2.mono HBw1.out.size))
      clear ho2 hb2 hk2 d1
      go_wp2_with fail
      refine (HTL.out _ HBw2.out).mono ?_
      rintro e w3 ⟨v3, rfl, ho3, hb3⟩
      obtain ⟨A3, k3, rfl⟩ := ho3.form
      have HR3 := Lib.hid (HO2.out.below hb3).reads
      have HQ3 := Lib.hid ho3.rd
      have HBw3 := Lib.hid (HBw2.out.trans (hb3.mono HBw2.out.size))
      clear ho3 hb3
      have HCP := Lib.hid (HSP.out w3 A2 k2 A3 k3 (HR3.out) (HQ3.out))
      go_wp2_with fail
      refine HCP.out.mono ?_
      rintro e w3b ⟨vP, rfl, hoP, hbP⟩
      obtain ⟨AP, cP, rfl, hcP⟩ := hoP.form
      obtain ⟨w4, hw4⟩ : ∃ w4, w3b.alloc (.cells #[.slice AP R.length cP] 31) = w4 := ⟨_, rfl⟩
      have hbbP : Below w3b.heap.size w3b w4 := by rw [← hw4]; exact (Below.refl _ _).alloc (Nat.le_refl _) _
      have hxP : w4.heap[w3b.heap.size]? = some (.cells #[.slice AP R.length cP] 31) := by rw [← hw4]; exact heap_alloc_new _ _
      have HMP := Lib.hid (MBox.mk' (b := w3.heap.size) hxP (hoP.below hbbP) hbP.size (Nat.le_refl _) hbbP.size (Nat.le_trans hbP.size hbbP.size) (.inr (Nat.le_refl _)))
      have hbw4 : Below w3.heap.size w3 w4 := hbP.trans (hbbP.mono hbP.size)
      have HBP := Lib.hid hbw4
      have HFP := Lib.hid hw4
      clear hoP hbP hbbP hxP hcP hw4 hbw4
      go_upto_region 9 with fail
      rw [HFP.out]
      have HMP := HMP
      have HBw4 := Lib.hid (HBw3.out.trans (HBP.out.mono HBw3.out.size))
      have d4 := HA.out w4 HBw4.out
      go_wp2_with fail
      refine (HT.out _ HBw4.out).mono ?_
      rintro e w5 ⟨v5, rfl, ho5, hb5⟩
      obtain ⟨A5, k5, rfl, hk5⟩ := ho5.form
      obtain ⟨w6, hw6⟩ : ∃ w6, w5.alloc (.cells #[.slice A5 m.length k5] 31) = w6 := ⟨_, rfl⟩
      have hb6 : Below w5.heap.size w5 w6 := by rw [← hw6]; exact (Below.refl _ _).alloc (Nat.le_refl _) _
      have hx6 : w6.heap[w5.heap.size]? = some (.cells #[.slice A5 m.length k5] 31) := by rw [← hw6]; exact heap_alloc_new _ _
      have HMX6 := Lib.hid (MBox.mk' (b := w4.heap.size) hx6 (ho5.below hb6) hb5.size (Nat.le_refl _) hb6.size (Nat.le_trans hb5.size hb6.size) (.inr (Nat.le_refl _)))
      have HMP6 := Lib.hid ((HMP.out.below hb5).below hb6)
      have HBw6 := Lib.hid ((HBw4.out.trans (hb5.mono HBw4.out.size)).trans (hb6.mono (Nat.le_trans HBw4.out.size hb5.size)))
      have HW6 := Lib.hid hw6
      have HZ45 := Lib.hid hb5.size
      have HZ56 := Lib.hid (show w5.heap.size < w6.heap.size from (Array.getElem?_eq_some_iff.1 hx6).1)
      clear d4 ho5 hb5 hb6 hw6 hx6 hk5
      go_wp2_with fail
      rw [HW6.out]
      refine (HTL.out _ HBw6.out).mono ?_
      rintro e w7 ⟨v7, rfl, ho7, hb7⟩
      obtain ⟨A7, k7, rfl⟩ := ho7.form
      have HL7 := Lib.hid ho7
      have HZ67 := Lib.hid hb7.size
      have HMX7 := Lib.hid (HMX6.out.below hb7)
      have HMP7 := Lib.hid (HMP6.out.below hb7)
      have HBw7 := Lib.hid (HBw6.out.trans (hb7.mono HBw6.out.size))
      have x7 := HMX7.out.cell
      clear ho7 hb7
      have HCQ := Lib.hid (HIP.out w7 A5 k5 A7 k7 (HMX7.out.own.reads) (HL7.out.rd))
      go_wp2_with fail
      refine HCQ.out.mono ?_
      rintro e w7b ⟨vQ, rfl, hoQ, hbQ⟩
      obtain ⟨AQ, cQ, rfl, hcQ⟩ := hoQ.form
      obtain ⟨w8, hw8⟩ : ∃ w8, w7b.alloc (.cells #[.slice AQ R.length cQ] 31) = w8 := ⟨_, rfl⟩
      have hbbQ : Below w7b.heap.size w7b w8 := by rw [← hw8]; exact (Below.refl _ _).alloc (Nat.le_refl _) _
      have hxQ : w8.heap[w7b.heap.size]? = some (.cells #[.slice AQ R.length cQ] 31) := by rw [← hw8]; exact heap_alloc_new _ _
      have HMQ := Lib.hid (MBox.mk' (b := w7.heap.size) hxQ (hoQ.below hbbQ) hbQ.size (Nat.le_refl _) hbbQ.size (Nat.le_trans hbQ.size hbbQ.size) (.inr (Nat.le_refl _)))
      have hbw8 : Below w7.heap.size w7 w8 := hbQ.trans (hbbQ.mono hbQ.size)
      have HBQ := Lib.hid hbw8
      have HFQ := Lib.hid hw8
      clear hoQ hbQ hbbQ hxQ hcQ hw8 hbw8
      go_upto_region 12 with fail
      rw [HFQ.out]
      have hb8 := HBQ.out
      have HMP8 := Lib.hid (HMP7.out.below hb8)
      have HMX8 := Lib.hid (HMX7.out.below hb8)
      have HL8 := Lib.hid (HL7.out.below hb8)
      have HZ78 := Lib.hid hb8.size
      have HBw8 := Lib.hid (HBw7.out.trans (hb8.mono HBw7.out.size))
      have s1 := HMQ.out.cell
      have s2 := HMP8.out.cell
      clear hb8 x7
      go_wp2_with fail
      refine (HER.out w8 AQ AP cQ cP HMQ.out.own.reads HMP8.out.own.reads).mono ?_
      rintro e w9 ⟨rfl, hb9⟩
      have HMQ9 := Lib.hid (HMQ.out.below hb9)
      have HMP9 := Lib.hid (HMP8.out.below hb9)
      have HMX9 := Lib.hid (HMX8.out.below hb9)
      have HL9 := Lib.hid (HL8.out.below hb9)
      have HBw9 := Lib.hid (HBw8.out.trans (hb9.mono HBw8.out.size))
      have HZ89 := Lib.hid hb9.size
      clear hb9 s1 s2
      have y1 : w9.drew.cell? ⟨w.heap.size, 0, none⟩ = some (.slice A m.length cap) := HA.out w9 HBw9.out
      have y2 : w9.drew.cell? ⟨w5.heap.size, 0, none⟩ = some (.slice A5 m.length k5) := HMX9.out.cell
      have HD9 := Lib.hid ((Below.refl w9.heap.size w9).drew)
      go_wp2_with fail
      go_region_held3 (fun W => W.cell? ⟨w.heap.size, 0, none⟩ = some (.slice A m.length cap) ∧ W.cell? ⟨w5.heap.size, 0, none⟩ = some (.slice A5 m.length k5))
        (first | exact ⟨y1, y2⟩ | exact ⟨HA.out _ (HBw9.out.trans (hc9.mono HBw9.out.size)), (HMX9.out.below hc9).cell⟩ | exact ⟨HA.out _ (HBw9.out.trans (hc10.mono HBw9.out.size)), (HMX9.out.below hc10).cell⟩)
        (first | (go_at_call 16; refine (HT.out _ HBw9.out.drew).mono ?_; rintro e w10 ⟨v9, rfl, ho9, hb9⟩; obtain ⟨A9, k9, rfl, hk9⟩ := ho9.form; have hc9 := HD9.out.trans hb9) | (go_at_call 20; refine (HE.out w10 A5 A9 k5 k9 (HMX9.out.below hc9).own.reads ho9.reads).mono ?_; rintro e w11 ⟨rfl, hb10⟩; have hc10 := hc9.trans (hb10.mono hc9.size)))
      have HMQ11 := Lib.hid (HMQ9.out.below hc10)
      have HMP11 := Lib.hid (HMP9.out.below hc10)
      have HMX11 := Lib.hid (HMX9.out.below hc10)
      have HL11 := Lib.hid (HL9.out.below hc10)
      have HBw11 := Lib.hid (HBw9.out.trans (hc10.mono HBw9.out.size))
      have HZ911 := Lib.hid hc10.size
      clear hb9 hb10 hc9 hc10 y1 y2 ho9 hk9
      go_wp2_with fail
      refine (HTL.out _ HBw11.out).mono ?_
      rintro e w12 ⟨v12, rfl, ho12, hb12⟩
      obtain ⟨A12, k12, rfl⟩ := ho12.form
      have HL12 := Lib.hid (HL11.out.below hb12)
      have HMQ12 := Lib.hid (HMQ11.out.below hb12)
      have HMP12 := Lib.hid (HMP11.out.below hb12)
      have HMX12 := Lib.hid (HMX11.out.below hb12)
      have HBw12 := Lib.hid (HBw11.out.trans (hb12.mono HBw11.out.size))
      have HZ12 := Lib.hid hb12.size
      have HEL12 := Lib.hid (HEL.out w12 A7 A12 k7 k12 HL12.out.rd ho12.rd)
      clear ho12 hb12
      go_wp2_with fail
      refine HEL12.out.mono ?_
      rintro e w13 ⟨rfl, hb13⟩
      have HL13 := Lib.hid (HL12.out.below hb13)
      have HMQ13 := Lib.hid (HMQ12.out.below hb13)
      have HMP13 := Lib.hid (HMP12.out.below hb13)
      have HMX13 := Lib.hid (HMX12.out.below hb13)
      have HBw13 := Lib.hid (HBw12.out.trans (hb13.mono HBw12.out.size))
      have HZ13 := Lib.hid (show w7.heap.size ≤ w13.heap.size ∧ w6.heap.size ≤ w13.heap.size ∧ w4.heap.size ≤ w13.heap.size ∧ w0.heap.size ≤ w4.heap.size by have := HZ45.out; have := HZ56.out; have := HZ67.out; have := HZ78.out; have := HZ89.out; have := HZ911.out; have := HZ12.out; have := hb13.size; have := HBw4.out.size; omega)
      have HK := Lib.hid (mark1_calls A5 k5 w4.heap.size w5.heap.size m w13 HMX13.out.own HMS.out.1 HMS.out.2 HZ13.out.2.2.1 HMX13.out.hiW)
      have x1 := HMX13.out.cell
      clear hb13
      go_wp2_with fail
      refine HK.out.mono ?_
      rintro e w14 ⟨rfl, ho14, hs14⟩
      have HMP14 := Lib.hid (HMP13.out.span hs14 (.inl HMP.out.hiW) (.inl HMP.out.gW))
      have HMQ14 := Lib.hid (HMQ13.out.span hs14 (.inr (by have := HMQ.out.blo; have := HZ56.out; have := HZ67.out; omega)) (.inr (by have := HMQ.out.bg; have := HZ56.out; have := HZ67.out; omega)))
      have HL14 := Lib.hid (HL13.out.span hs14 (.inr (Nat.le_of_lt HZ56.out)))
      have HBw14 := Lib.hid (HBw13.out.trans ((hs14.below HZ13.out.2.2.1).mono HZ13.out.2.2.2))
      have HZ14 := Lib.hid (Nat.le_trans HZ13.out.1 hs14.size)
      have HK2 : Hid (Calls Try.prog 23 #[.slice A7 L.length k7, .int .i64 (1 + (total m : Nat))] w14 fun e w' => e = .returned (.int .i64 (1 + (total m : Nat) + 4 * (L.length : Nat))) ∧ Span w6.heap.size w7.heap.size w14 w') := Lib.hid (by
        have hq := markWindowS_calls A7 k7 w6.heap.size w7.heap.size L (1 + total m) w14 HL14.out (by omega) (by have := HMS.out.2; omega)
        rw [show (((1 + total m : Nat) : Int)) = 1 + (total m : Nat) by omega] at hq
        exact hq)
      clear ho14 hs14 x1
      go_wp2_with fail
      refine HK2.out.mono ?_
      rintro e w15 ⟨rfl, hs15⟩
      have HMP15 := Lib.hid (HMP14.out.span hs15 (.inl (by have := HMP.out.hiW; have := HZ45.out; have := HZ56.out; omega)) (.inl (by have := HMP.out.gW; have := HZ45.out; have := HZ56.out; omega)))
      have HMQ15 := Lib.hid (HMQ14.out.span hs15 (.inr HMQ.out.blo) (.inr HMQ.out.bg))
      have HBw15 := Lib.hid (HBw14.out.trans ((hs15.below (by have := HZ14.out; have := HZ67.out; omega)).mono (by have := HZ13.out.2.2.2; have := HZ45.out; have := HZ56.out; omega)))
      have HZ15 := Lib.hid (Nat.le_trans HZ14.out hs15.size)
      have s1 := HMQ15.out.cell
      have s2 := HMP15.out.cell
      have hpos : ¬ ((1 : Int) + (total m : Nat) + 4 * (L.length : Nat)) < 0 := by omega
      clear hs15
      go_wp2_with fail
      refine (HER.out w15 AQ AP cQ cP HMQ15.out.own.reads HMP15.out.own.reads).mono ?_
      rintro e w16 ⟨rfl, hb16⟩
      have HMQ16 := Lib.hid (HMQ15.out.below hb16)
      have HMP16 := Lib.hid (HMP15.out.below hb16)
      have HBw16 := Lib.hid (HBw15.out.trans (hb16.mono HBw15.out.size))
      have hz16 := HMQ16.out.hiW
      have hlohi := HMQ16.out.loW
      have HKQ := Lib.hid (mark1_calls AQ cQ w7.heap.size w7b.heap.size R w16 HMQ16.out.own hR1 hR2 hlohi hz16)
      have s3 := HMQ16.out.cell
      clear hb16 s1 s2 hpos
      go_wp2_with fail
      refine HKQ.out.mono ?_
      rintro e w17 ⟨rfl, ho17, hs17⟩
      have HMQ17 := Lib.hid (HMQ16.out.marked hs17 ho17)
      have HMP17 := Lib.hid (HMP16.out.span hs17 (.inl (by have := HMP.out.hiW; have := HMQ.out.blo; have := HZ45.out; have := HZ56.out; have := HZ67.out; omega)) (.inl (by have := HMP.out.gW; have := HMQ.out.blo; have := HZ45.out; have := HZ56.out; have := HZ67.out; omega)))
      have HBw17 := Lib.hid (HBw16.out.trans ((hs17.below hlohi).mono (by have := HMQ.out.blo; have := HBw7.out.size; omega)))
      have s4 := HMQ17.out.cell
      have HH := Lib.hid (held1_calls AQ cQ w7.heap.size w7b.heap.size R w17 HMQ17.out.own hR1 hR2)
      have hposR : ¬ ((1 : Int) + (total R : Nat)) < 0 := by omega
      clear ho17 hs17 s3
      go_wp2_with fail
      refine HH.out.mono ?_
      rintro e w18 ⟨rfl, hb18⟩
      have HMQ18 := Lib.hid (HMQ17.out.below hb18)
      have HMP18 := Lib.hid (HMP17.out.below hb18)
      have HBw18 := Lib.hid (HBw17.out.trans (hb18.mono HBw17.out.size))
      have hselfR : (((1 : Int) + (total R : Nat)) != 1 + (total R : Nat)) = false := by simp
      clear hb18 s4
      have d18 := HA.out w18 HBw18.out
      go_wp2_with fail
      refine (HT.out _ HBw18.out).mono ?_
      rintro e w18a ⟨v18, rfl, ho18, hb18a⟩
      obtain ⟨A18, k18, rfl, hk18⟩ := ho18.form
      have HO18 := Lib.hid ho18
      have HBw18a := Lib.hid (HBw18.out.trans (hb18a.mono HBw18.out.size))
      have HMQ18a := Lib.hid (HMQ18.out.below hb18a)
      have HMP18a := Lib.hid (HMP18.out.below hb18a)
      clear ho18 hb18a hk18 d18
      go_wp2_with fail
      refine (HTL.out _ HBw18a.out).mono ?_
      rintro e w18b ⟨v18b, rfl, ho18b, hb18b⟩
      obtain ⟨A18b, k18b, rfl⟩ := ho18b.form
      have HR18 := Lib.hid (HO18.out.below hb18b).reads
      have HQ18 := Lib.hid ho18b.rd
      have HBw18b := Lib.hid (HBw18a.out.trans (hb18b.mono HBw18a.out.size))
      have HMQ18b := Lib.hid (HMQ18a.out.below hb18b)
      have HMP18b := Lib.hid (HMP18a.out.below hb18b)
      clear ho18b hb18b
      have HCT := Lib.hid (HIP.out w18b A18 k18 A18b k18b (HR18.out) (HQ18.out))
      go_wp2_with fail
      refine HCT.out.mono ?_
      rintro e w18c ⟨vT, rfl, hoT, hbT⟩
      obtain ⟨AT, cT, rfl, hcT⟩ := hoT.form
      obtain ⟨w19, hw19⟩ : ∃ w19, w18c.alloc (.cells #[.slice AT R.length cT] 31) = w19 := ⟨_, rfl⟩
      have hbbT : Below w18c.heap.size w18c w19 := by rw [← hw19]; exact (Below.refl _ _).alloc (Nat.le_refl _) _
      have hxT : w19.heap[w18c.heap.size]? = some (.cells #[.slice AT R.length cT] 31) := by rw [← hw19]; exact heap_alloc_new _ _
      have HMT := Lib.hid (MBox.mk' (b := w18b.heap.size) hxT (hoT.below hbbT) hbT.size (Nat.le_refl _) hbbT.size (Nat.le_trans hbT.size hbbT.size) (.inr (Nat.le_refl _)))
      have hbw19 : Below w18b.heap.size w18b w19 := hbT.trans (hbbT.mono hbT.size)
      have HBT := Lib.hid hbw19
      have HFT := Lib.hid hw19
      clear hoT hbT hbbT hxT hcT hw19 hbw19
      go_upto_region 32 with fail
      rw [HFT.out]
      have hb19 := HBT.out
      have HMQ19 := Lib.hid (HMQ18b.out.below hb19)
      have HMP19 := Lib.hid (HMP18b.out.below hb19)
      have HBw19 := Lib.hid (HBw18b.out.trans (hb19.mono HBw18b.out.size))
      have s5 := HMT.out.cell
      have s6 := HMP19.out.cell
      clear hb19
      go_wp2_with fail
      refine (HER.out w19 AT AP cT cP HMT.out.own.reads HMP19.out.own.reads).mono ?_
      rintro e w20 ⟨rfl, hb20⟩
      have HMQ20 := Lib.hid (HMQ19.out.below hb20)
      have HBw20 := Lib.hid (HBw19.out.trans (hb20.mono HBw19.out.size))
      have s7 := HMQ20.out.cell
      have HH2 := Lib.hid (held1_calls AQ cQ w7.heap.size w7b.heap.size R w20 HMQ20.out.own hR1 hR2)
      clear hb20 s5 s6
      go_wp2_with fail
      refine HH2.out.mono ?_
      rintro e w21 ⟨rfl, hb21⟩
      have HBw21 := Lib.hid (HBw20.out.trans (hb21.mono HBw20.out.size))
      clear hb21 s7
      go_wp2_with fail
      go_ret
      exact ⟨rfl, HB.out.trans (HBw21.out.mono HB.out.size)⟩
end Go.Proofs.Ytomgjhdknondmab
