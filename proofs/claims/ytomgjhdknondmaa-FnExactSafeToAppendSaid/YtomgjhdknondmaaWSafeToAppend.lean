/-
  FnExactSafeToAppend: the walk.
-/
import Derived.Test.YtomgjhdknondmaaBox
import Derived.Test.YtomgjhdknondmaaWinsL
import Derived.Test.YtomgjhdknondmaaIntS
import Derived.Test.YtomgjhdknondmaaSafe
namespace Go.Proofs.Ytomgjhdknondmaa
open Go.RowKit

set_option maxRecDepth 100000 in
set_option maxHeartbeats 6400000 in
theorem fnExactSafeToAppend_walk (A : Option Addr) (len cap : Nat) (m : List (List Int)) (BL : Option Addr) (lenL capL : Nat) (L : List Win) (i : Int) (w : World) (h : MArg w A len cap m) (hL : WsArg w BL lenL capL L) (hi : (Lit.int .i64 i).wf = true) :
    Calls Try.prog 14 #[.agg #[.slice A len cap], .slice BL lenL capL, .int .i64 i] w fun e w' => e = .returned (.bool true) ∧ Below w.heap.size w w' := by
  obtain ⟨rfl, h1, h2, hr, hzz⟩ := h
  obtain ⟨rfl, h3, h4, hrL, hwa⟩ := hL
  obtain ⟨q, p, hform⟩ : ∃ (q : Int) (p : Bool), safeV m L i = .tuple #[.int .i64 q, .bool p] := by
    unfold safeV
    repeat' split
    all_goals exact ⟨_, _, rfl⟩
  obtain ⟨w0, hw0⟩ : ∃ w0, (w.alloc (.cells #[.slice A m.length cap] 75)) = w0 := ⟨_, rfl⟩
  have hb0 : Below w.heap.size w w0 := by rw [← hw0]; exact (Below.refl _ _).alloc (Nat.le_refl _) _
  have hg0 : w0.heap[w.heap.size]? = some (.cells #[.slice A m.length cap] 75) := by rw [← hw0]; exact heap_alloc_new _ _
  have hlen : m.length ≤ maxLen := by omega
  have hlenL : L.length ≤ maxLen := by omega
  have HS := Lib.hid (szMemory_calls A cap m w0 1048576 ((hr.below hb0).more hb0.size) hlen (by omega) (by omega))
  have HB := Lib.hid hb0
  have HW := Lib.hid hw0
  have HR := Lib.hid hr
  have HRL := Lib.hid hrL
  have HWA := Lib.hid hwa
  have c0 := one_cell hg0
  have HA : Hid (∀ W, Below w0.heap.size w0 W → W.cell? ⟨w.heap.size, 0, none⟩ = some (.slice A m.length cap)) := Lib.hid fun W hb => one_cell ((hb.block _ (Array.getElem?_eq_some_iff.1 hg0).1).trans hg0)
  clear hr hrL hwa hb0 hw0 hg0 hzz
  go_enter Try.func14, Try.ntmps14
  go_wp2_with fail
  rw [HW.out]
  refine HS.out.mono ?_
  rintro e w1 ⟨⟨r, rfl, hr⟩, hb1⟩
  have HR1 := Lib.hid hr
  have HBw1 := Lib.hid hb1
  clear hb1 c0
  by_cases hneg : r < 0
  · clear hr
    go_wp2_with fail
    go_ret
    exact ⟨rfl, HB.out.trans (HBw1.out.mono HB.out.size)⟩
  · have hsz : m.length ≤ 1048576 ∧ total m ≤ 1048576 ∧ 0 ≤ r ∧ r ≤ 1048576 := by omega
    have HSL := Lib.hid (szWindowS_calls BL L.length capL w1 r hlenL hsz.2.2.1 hsz.2.2.2)
    by_cases hneg2 : r < L.length
    · rw [if_pos hneg2] at HSL
      have hr0 := hsz.2.2.1
      clear hr hsz hneg2
      go_wp2_with fail
      refine HSL.out.mono ?_
      rintro e w1 ⟨rfl, rfl⟩
      go_wp2_with fail
      go_ret
      exact ⟨rfl, HB.out.trans (HBw1.out.mono HB.out.size)⟩
    · rw [if_neg hneg2] at HSL
      have hl20 : L.length ≤ 1048576 := by omega
      have hr0 := hsz.2.2.1
      have hrl : ¬ (r - (L.length : Int)) < 0 := by omega
      have hro : ∀ q ∈ m, q.length ≤ 1048576 := fun q hq => Nat.le_trans (row_le m q hq) hsz.2.1
      have HMS := Lib.hid (show m.length ≤ 2097152 ∧ total m ≤ 2097152 by omega)
      have HT := Lib.hid (fun W (hb : Below w0.heap.size w0 W) => toMemory_calls A cap m W ((HR.out.below (HB.out.trans (hb.mono HB.out.size))).more (Nat.le_trans HB.out.size hb.size)) hsz.1 hro)
      have HTL := Lib.hid (fun W (hb : Below w0.heap.size w0 W) => toWindowS_calls BL capL L W ((HRL.out.below (HB.out.trans (hb.mono HB.out.size))).more (Nat.le_trans HB.out.size hb.size)) hl20)
      have HSP : Hid (∀ W X kx Y ky, Rd2 W W.heap.size X m → RdW W W.heap.size Y L → Calls Try.prog 57 #[.agg #[.slice X m.length kx], .slice Y L.length ky, .int .i64 i] W fun e w' => e = .returned (.tuple #[.int .i64 q, .bool p]) ∧ Below W.heap.size W w') := Lib.hid (fun W X kx Y ky hx hy => by have hq := specSafeToAppend_calls X kx m Y ky L i W hx hlen hy hlenL; rw [hform] at hq; exact hq)
      have HIP : Hid (∀ W X kx Y ky, Rd2 W W.heap.size X m → RdW W W.heap.size Y L → Calls Try.prog 56 #[.agg #[.slice X m.length kx], .slice Y L.length ky, .int .i64 i] W fun e w' => e = .returned (.tuple #[.int .i64 q, .bool p]) ∧ Below W.heap.size W w') := Lib.hid (fun W X kx Y ky hx hy => by have hq := implSafeToAppend_calls X kx m Y ky L i W hx hlen hy hlenL HWA.out; rw [hform] at hq; exact hq)
      have HE := Lib.hid (fun W X Y cx cy (hx : Rd2 W W.heap.size X m) (hy : Rd2 W W.heap.size Y m) => eqSame_calls X Y cx cy m W hx hy hlen)
      have HEL := Lib.hid (fun W X Y cx cy (hx : RdW W W.heap.size X L) (hy : RdW W W.heap.size Y L) => eqWindowS_calls X Y cx cy L W hx hy hl20)
      have hselfq : (q != q) = false := by simp
      have hselfp : (p != p) = false := by simp
      clear hr hsz hro hform hneg2
      have d1 := HA.out w1 HBw1.out
      go_wp2_with fail
      refine HSL.out.mono ?_
      rintro e w1' ⟨rfl, rfl⟩
      go_wp2_with fail
      refine (HT.out _ HBw1.out).mono ?_
      rintro e w2 ⟨v2, rfl, ho2, hb2⟩
      obtain ⟨A2, k2, rfl, hk2⟩ := ho2.form
      have HO2 := Lib.hid ho2
      have HBw2 := Lib.hid (HBw1.out.trans (hb2.mono HBw1.out.size))
      clear ho2 hb2 hk2 d1
      go_wp2_with fail
      refine (HTL.out _ HBw2.out).mono ?_
      rintro e w3 ⟨v3, rfl, ho3, hb3⟩
      obtain ⟨A3, k3, rfl⟩ := ho3.form
      have HS3 := Lib.hid (HSP.out w3 A2 k2 A3 k3 (HO2.out.below hb3).reads ho3.rd)
      have HBw3 := Lib.hid (HBw2.out.trans (hb3.mono HBw2.out.size))
      clear ho3 hb3
      go_wp2_with fail
      refine HS3.out.mono ?_
      rintro e w4 ⟨rfl, hb4⟩
      have HBw4 := Lib.hid (HBw3.out.trans (hb4.mono HBw3.out.size))
      have d4 := HA.out w4 HBw4.out
      clear hb4
      go_wp2_with fail
      refine (HT.out _ HBw4.out).mono ?_
      rintro e w5 ⟨v5, rfl, ho5, hb5⟩
      obtain ⟨A5, k5, rfl, hk5⟩ := ho5.form
      obtain ⟨w6, hw6⟩ : ∃ w6, w5.alloc (.cells #[.slice A5 m.length k5] 26) = w6 := ⟨_, rfl⟩
      have hb6 : Below w5.heap.size w5 w6 := by rw [← hw6]; exact (Below.refl _ _).alloc (Nat.le_refl _) _
      have hx6 : w6.heap[w5.heap.size]? = some (.cells #[.slice A5 m.length k5] 26) := by rw [← hw6]; exact heap_alloc_new _ _
      have HX6 := Lib.hid (MBox.mk' (b := w4.heap.size) hx6 (ho5.below hb6) hb5.size (Nat.le_refl _) hb6.size (Nat.le_trans hb5.size hb6.size) (.inr (Nat.le_refl _)))
      have HBw6 := Lib.hid ((HBw4.out.trans (hb5.mono HBw4.out.size)).trans (hb6.mono (Nat.le_trans HBw4.out.size hb5.size)))
      have HW6 := Lib.hid hw6
      have HZ45 := Lib.hid hb5.size
      have HZ56 := Lib.hid hb6.size
      clear d4 ho5 hb5 hb6 hw6 hx6 hk5
      go_wp2_with fail
      rw [HW6.out]
      refine (HTL.out _ HBw6.out).mono ?_
      rintro e w7 ⟨v7, rfl, ho7, hb7⟩
      obtain ⟨A7, k7, rfl⟩ := ho7.form
      have HL7 := Lib.hid ho7
      have HZ67 := Lib.hid hb7.size
      have HX7 := Lib.hid (HX6.out.below hb7)
      have HBw7 := Lib.hid (HBw6.out.trans (hb7.mono HBw6.out.size))
      have x7 := HX7.out.cell
      have HI7 := Lib.hid (HIP.out w7 A5 k5 A7 k7 HX7.out.own.reads HL7.out.rd)
      clear ho7 hb7
      go_wp2_with fail
      refine HI7.out.mono ?_
      rintro e w8 ⟨rfl, hb8⟩
      have HX8 := Lib.hid (HX7.out.below hb8)
      have HL8 := Lib.hid (HL7.out.below hb8)
      have HZ78 := Lib.hid hb8.size
      have HBw8 := Lib.hid (HBw7.out.trans (hb8.mono HBw7.out.size))
      have HSZ8 := Lib.hid (Nat.le_refl w8.heap.size)
      clear x7 hb8
      have y1 : w8.drew.cell? ⟨w.heap.size, 0, none⟩ = some (.slice A m.length cap) := HA.out w8 HBw8.out
      have y2 : w8.drew.cell? ⟨w5.heap.size, 0, none⟩ = some (.slice A5 m.length k5) := HX8.out.cell
      have HD8 := Lib.hid ((Below.refl w8.heap.size w8).drew)
      go_wp2_with fail
      go_region_held3 (fun W => W.cell? ⟨w.heap.size, 0, none⟩ = some (.slice A m.length cap) ∧ W.cell? ⟨w5.heap.size, 0, none⟩ = some (.slice A5 m.length k5))
        (first | exact ⟨y1, y2⟩ | exact ⟨HA.out _ (HBw8.out.trans (hc10.mono HBw8.out.size)), (HX8.out.below hc10).cell⟩ | exact ⟨HA.out _ (HBw8.out.trans (hc11.mono HBw8.out.size)), (HX8.out.below hc11).cell⟩)
        (first | (go_at_call 61; refine (HT.out _ HBw8.out.drew).mono ?_; rintro e w10 ⟨v10, rfl, ho10, hb10⟩; obtain ⟨A10, k10, rfl, hk10⟩ := ho10.form; have hc10 := HD8.out.trans hb10) | (go_at_call 63; refine (HE.out w10 A5 A10 k5 k10 (HX8.out.below hc10).own.reads ho10.reads).mono ?_; rintro e w11 ⟨rfl, hb11⟩; have hc11 := hc10.trans (hb11.mono hc10.size)))
      have HX11 := Lib.hid (HX8.out.below hc11)
      have HL11 := Lib.hid (HL8.out.below hc11)
      have HBw11 := Lib.hid (HBw8.out.trans (hc11.mono HBw8.out.size))
      have HSZ11 := Lib.hid (Nat.le_trans HSZ8.out hc11.size)
      clear hb10 hb11 hc10 hc11 y1 y2 ho10 hk10
      go_wp2_with fail
      refine (HTL.out _ HBw11.out).mono ?_
      rintro e w12 ⟨v12, rfl, ho12, hb12⟩
      obtain ⟨A12, k12, rfl⟩ := ho12.form
      have HO12 := Lib.hid ho12
      have HX12 := Lib.hid (HX11.out.below hb12)
      have HL12 := Lib.hid (HL11.out.below hb12)
      have HBw12 := Lib.hid (HBw11.out.trans (hb12.mono HBw11.out.size))
      have HSZ12 := Lib.hid (Nat.le_trans HSZ11.out hb12.size)
      have HEL12 := Lib.hid (HEL.out w12 A7 A12 k7 k12 HL12.out.rd HO12.out.rd)
      clear ho12 hb12
      go_wp2_with fail
      refine HEL12.out.mono ?_
      rintro e w13 ⟨rfl, hb13⟩
      have HX13 := Lib.hid (HX12.out.below hb13)
      have HL13 := Lib.hid (HL12.out.below hb13)
      have HBw13 := Lib.hid (HBw12.out.trans (hb13.mono HBw12.out.size))
      have HSZ13 := Lib.hid (Nat.le_trans HSZ12.out hb13.size)
      clear hb13
      go_wp2_with fail
      go_ret
      exact ⟨rfl, HB.out.trans (HBw13.out.mono HB.out.size)⟩
end Go.Proofs.Ytomgjhdknondmaa
