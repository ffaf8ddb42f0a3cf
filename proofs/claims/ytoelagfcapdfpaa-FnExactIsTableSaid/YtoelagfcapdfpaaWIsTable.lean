/-
  FnExactIsTable: the walk.
-/
import Derived.Test.YtoelagfcapdfpaaTbF
import Derived.Test.YtoelagfcapdfpaaBox
namespace Go.Proofs.Ytoelagfcapdfpaa
open Go.RowKit

set_option maxRecDepth 100000 in
set_option maxHeartbeats 1600000 in
theorem fnExactIsTable_walk (A : Option Addr) (len cap : Nat) (m : List (List Int)) (B : Option Addr) (lenL capL : Nat) (L : List En) (w : World) (h : MArg w A len cap m) (hE : EsArg w B lenL capL L) :
    Calls Try.prog 7 #[.agg #[.slice A len cap], .slice B lenL capL] w fun e w' => e = .returned (.bool true) ∧ Below w.heap.size w w' := by
  obtain ⟨rfl, h1, h2, hr, _⟩ := h
  obtain ⟨rfl, g1, g2, hx, ha⟩ := hE
  obtain ⟨p, q, hform⟩ : ∃ p q, isTableR m L = (p, q) := ⟨_, _, rfl⟩
  obtain ⟨w0, hw0⟩ : ∃ w0, w.alloc (.cells #[.slice A m.length cap] 24) = w0 := ⟨_, rfl⟩
  have hb0 : Below w.heap.size w w0 := by rw [← hw0]; (repeat (first | (with_reducible exact Below.refl _ _) | (with_reducible refine Below.drew ?_) | ((with_reducible refine Below.alloc ?_ ?hB _); case hB => (first | (with_reducible exact Nat.le_refl _) | omega | (simp; done) | (simp; omega))) | ((with_reducible refine Below.setCell ?_ ?hB _); case hB => (first | (with_reducible exact Nat.le_refl _) | omega | (simp; done) | (simp; omega)))))
  have hg0 : w0.heap[w.heap.size]? = some (.cells #[.slice A m.length cap] 24) := by rw [← hw0]; exact heap_alloc_new _ _
  have hlen : m.length ≤ maxLen := by omega
  have hll : L.length ≤ maxLen := by omega
  have HS := Lib.hid (szMemory_calls A cap m w0 1048576 ((hr.below hb0).more hb0.size) hlen (by omega) (by omega))
  have HB := Lib.hid hb0
  have HW := Lib.hid hw0
  have HR := Lib.hid hr
  have HX := Lib.hid hx
  have c0 := one_cell hg0
  have HA : Hid (∀ W, Below w0.heap.size w0 W → W.cell? ⟨w.heap.size, 0, none⟩ = some (.slice A m.length cap)) := Lib.hid fun W hb => one_cell ((hb.block _ (Array.getElem?_eq_some_iff.1 hg0).1).trans hg0)
  have HSP : Hid (∀ W X k Y j, Rd2 W W.heap.size X m → RdE W W.heap.size Y L → Calls Try.prog 33 #[.agg #[.slice X m.length k], .slice Y L.length j] W fun e w' => e = .returned (.tuple #[.bool p, .bool q]) ∧ Below W.heap.size W w') := Lib.hid fun W X k Y j hx hy => by
    have hq := specIsTable_calls X k m Y j L W hx hlen hy hll ha
    rw [hform] at hq
    exact hq
  have HIP : Hid (∀ W X k Y j, Rd2 W W.heap.size X m → RdE W W.heap.size Y L → Calls Try.prog 35 #[.agg #[.slice X m.length k], .slice Y L.length j] W fun e w' => e = .returned (.tuple #[.bool p, .bool q]) ∧ Below W.heap.size W w') := Lib.hid fun W X k Y j hx hy => by
    have hq := implIsTable_calls X k m Y j L W hx hlen hy hll ha
    rw [hform] at hq
    exact hq
  have HE := Lib.hid (fun W X Y cx cy (hx : Rd2 W W.heap.size X m) (hy : Rd2 W W.heap.size Y m) => eqMemory_calls X Y cx cy m m W hx hy hlen hlen)
  clear hr hx ha hb0 hw0 hg0 hform
  go_enter Try.func7, Try.ntmps7
  go_wp2_with fail
  rw [HW.out]
  refine HS.out.mono ?_
  rintro e w1 ⟨⟨r, rfl, hr⟩, hb1⟩
  have HBw := Lib.hid hb1
  clear hb1 c0
  by_cases hneg : r < 0
  · clear hr
    go_wp2_with fail
    go_ret
    exact ⟨rfl, HB.out.trans (HBw.out.mono HB.out.size)⟩
  have hsz : m.length ≤ 1048576 ∧ total m ≤ 1048576 := by omega
  have hro : ∀ q ∈ m, q.length ≤ 1048576 := fun q hq => Nat.le_trans (row_le m q hq) hsz.2
  have HT := Lib.hid (fun W (hb : Below w0.heap.size w0 W) => toMemory_calls A cap m W ((HR.out.below (HB.out.trans (hb.mono HB.out.size))).more (Nat.le_trans HB.out.size hb.size)) hsz.1 hro)
  have hr01 : 0 ≤ r := by omega
  have hr02 : r ≤ 1048576 := by omega
  have HSL := Lib.hid (szEntryS_calls B L.length capL w1 r hll hr01 hr02)
  clear hr
  by_cases hneg2 : r < L.length
  · rw [if_pos hneg2] at HSL
    clear hneg2 hsz hro
    go_wp2_with fail
    refine HSL.out.mono ?_
    rintro e wz ⟨rfl, rfl⟩
    go_wp2_with fail
    go_ret
    exact ⟨rfl, HB.out.trans (HBw.out.mono HB.out.size)⟩
  rw [if_neg hneg2] at HSL
  have hlm : L.length ≤ 1048576 := by omega
  have hrl : ¬ (r - (L.length : Int)) < 0 := by omega
  clear hneg2 hsz hro
  go_wp2_with fail
  refine HSL.out.mono ?_
  rintro e wz ⟨rfl, rfl⟩
  have HTL := Lib.hid (fun W (hb : Below w0.heap.size w0 W) => toEntryS_calls B capL L W (HX.out.on (HB.out.trans (hb.mono HB.out.size))) hlm)
  have HEL := Lib.hid (fun W X Y cx cy (hx : RdE W W.heap.size X L) (hy : RdE W W.heap.size Y L) => eqEntryS_calls X Y cx cy L W hx hy hlm)
  have hself : (p != p) = false := by simp
  have hself2 : (q != q) = false := by simp
  have d0 := HA.out w1 HBw.out
  go_wp2_with fail
  refine (HT.out _ HBw.out).mono ?_
  rintro e w2 ⟨v2, rfl, ho2, hb2⟩
  obtain ⟨A2, k2, rfl, hk2⟩ := ho2.form
  have HRa := Lib.hid ho2.reads
  replace HBw := Lib.hid (HBw.out.trans (hb2.mono HBw.out.size))
  clear hb2 ho2 hk2 d0
  go_wp2_with fail
  refine (HTL.out _ HBw.out).mono ?_
  rintro e w3 ⟨v3, rfl, ho3, hb3⟩
  obtain ⟨A3, k3, rfl⟩ := ho3.form
  have HLa := Lib.hid ho3.rd
  replace HRa := Lib.hid ((HRa.out.below hb3).more hb3.size)
  replace HBw := Lib.hid (HBw.out.trans (hb3.mono HBw.out.size))
  clear hb3 ho3
  go_wp2_with fail
  refine (HSP.out w3 A2 k2 A3 k3 HRa.out HLa.out).mono ?_
  rintro e w4 ⟨rfl, hb4⟩
  replace HBw := Lib.hid (HBw.out.trans (hb4.mono HBw.out.size))
  clear hb4 HRa HLa
  have d0 := HA.out w4 HBw.out
  go_wp2_with fail
  refine (HT.out _ HBw.out).mono ?_
  rintro e w5 ⟨v5, rfl, ho5, hb5⟩
  obtain ⟨A5, k5, rfl, hk5⟩ := ho5.form
  obtain ⟨w6, hw6⟩ : ∃ w6, w5.alloc (.cells #[.slice A5 m.length k5] 31) = w6 := ⟨_, rfl⟩
  have hb6 : Below w5.heap.size w5 w6 := by rw [← hw6]; exact (Below.refl _ _).alloc (Nat.le_refl _) _
  have HX6 := Lib.hid (show w6.heap[w5.heap.size]? = some (.cells #[.slice A5 m.length k5] 31) by rw [← hw6]; exact heap_alloc_new _ _)
  have HO6 := Lib.hid (ho5.below hb6)
  replace HBw := Lib.hid ((HBw.out.trans (hb5.mono HBw.out.size)).trans (hb6.mono (Nat.le_trans HBw.out.size hb5.size)))
  have HW6 := Lib.hid hw6
  clear d0 ho5 hb5 hb6 hw6
  have HA6 : Hid (∀ W, Below w6.heap.size w6 W → W.cell? ⟨w5.heap.size, 0, none⟩ = some (.slice A5 m.length k5)) := Lib.hid fun W hb => one_cell ((hb.block _ (Array.getElem?_eq_some_iff.1 HX6.out).1).trans HX6.out)
  go_upto_region 10 with fail
  rw [HW6.out]
  go_wp2_with fail
  refine (HTL.out _ HBw.out).mono ?_
  rintro e w7 ⟨v7, rfl, ho7, hb7⟩
  obtain ⟨A7, k7, rfl⟩ := ho7.form
  have HO7 := Lib.hid ho7
  have HC7 := Lib.hid hb7
  replace HBw := Lib.hid (HBw.out.trans (hb7.mono HBw.out.size))
  have d1 := HA6.out w7 hb7
  clear ho7 hb7
  go_wp2_with fail
  refine (HIP.out w7 A5 k5 A7 k7 (HO6.out.below HC7.out).reads HO7.out.rd).mono ?_
  rintro e w8 ⟨rfl, hb8⟩
  have HC8 := Lib.hid (HC7.out.trans (hb8.mono HC7.out.size))
  replace HO7 := Lib.hid (HO7.out.below hb8)
  replace HBw := Lib.hid (HBw.out.trans (hb8.mono HBw.out.size))
  clear hb8 d1
  have y1 : w8.drew.cell? ⟨w.heap.size, 0, none⟩ = some (.slice A m.length cap) := HA.out w8 HBw.out
  have y2 : w8.drew.cell? ⟨w5.heap.size, 0, none⟩ = some (.slice A5 m.length k5) := HA6.out w8 HC8.out
  have HDM := Lib.hid (show decide (m = m) = true by simp)
  have HD8 := Lib.hid ((Below.refl w8.heap.size w8).drew)
  go_wp2_with fail
  go_region_held3 (fun W => W.cell? ⟨w.heap.size, 0, none⟩ = some (.slice A m.length cap) ∧ W.cell? ⟨w5.heap.size, 0, none⟩ = some (.slice A5 m.length k5))
    (first | exact ⟨y1, y2⟩ | exact ⟨HA.out _ (HBw.out.trans (hc9.mono HBw.out.size)), HA6.out _ (HC8.out.trans (hc9.mono HC8.out.size))⟩ | exact ⟨HA.out _ (HBw.out.trans (hc10.mono HBw.out.size)), HA6.out _ (HC8.out.trans (hc10.mono HC8.out.size))⟩)
    (first | (go_at_call 20; refine (HT.out _ HBw.out.drew).mono ?_; rintro e w10 ⟨v9, rfl, ho9, hb9⟩; obtain ⟨A9, k9, rfl, hk9⟩ := ho9.form; have hc9 := HD8.out.trans hb9) | (go_at_call 24; refine (HE.out w10 A5 A9 k5 k9 (HO6.out.below (HC8.out.trans (hc9.mono HC8.out.size))).reads ho9.reads).mono ?_; rintro e w11 ⟨rfl, hb10⟩; rw [HDM.out]; have hc10 := hc9.trans (hb10.mono hc9.size)))
  replace HO7 := Lib.hid (HO7.out.below hc10)
  have HB10 := Lib.hid (HBw.out.trans (hc10.mono HBw.out.size))
  clear hb9 hb10 hc9 hc10 y1 y2
  go_wp2_with fail
  refine (HTL.out _ HB10.out).mono ?_
  rintro e w12 ⟨v12, rfl, ho12, hb12⟩
  obtain ⟨A12, k12, rfl⟩ := ho12.form
  have HO12 := Lib.hid ho12
  have HL7 := Lib.hid (HO7.out.below hb12).rd
  have HB12 := Lib.hid (HB10.out.trans (hb12.mono HB10.out.size))
  clear hb12 ho12
  go_wp2_with fail
  refine (HEL.out w12 A7 A12 k7 k12 HL7.out HO12.out.rd).mono ?_
  rintro e w13 ⟨rfl, hb13⟩
  have HB13 := Lib.hid (HB12.out.trans (hb13.mono HB12.out.size))
  clear hb13
  go_wp2_with fail
  go_ret
  exact ⟨rfl, HB.out.trans (HB13.out.mono HB.out.size)⟩
end Go.Proofs.Ytoelagfcapdfpaa
