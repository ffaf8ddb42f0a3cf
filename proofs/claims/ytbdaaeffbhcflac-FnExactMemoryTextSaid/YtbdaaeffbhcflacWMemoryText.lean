/-
  FnExactMemoryText: the walk.
-/
import Derived.Test.YtbdaaeffbhcflacArgsC
import Derived.Deep.RegionHeld3
import Derived.Test.YtbdaaeffbhcflacTextI
namespace Go.Proofs.Ytbdaaeffbhcflac
open Go.RowKit

set_option maxRecDepth 100000 in
set_option maxHeartbeats 3200000 in
theorem fnExactMemoryText_walk (A : Option Addr) (len cap : Nat) (m : List (List Int))   (w : World) (h : MArg w A len cap m)   :
    Calls Try.prog 3 #[.agg #[.slice A len cap]] w fun e w' => e = .returned (.bool true) ∧ Below w.heap.size w w' := by
  obtain ⟨rfl, h1, h2, hr, hzz⟩ := h
  obtain ⟨q, p, hform⟩ : ∃ (q : ByteArray) (p : Bool), textV m = .tuple #[.string q, .bool p] := by
    unfold textV
    repeat' split
    all_goals exact ⟨_, _, rfl⟩
  skip
  obtain ⟨w0, hw0⟩ : ∃ w0, (w.alloc (.cells #[.slice A m.length cap] 24)) = w0 := ⟨_, rfl⟩
  have hb0 : Below w.heap.size w w0 := by rw [← hw0]; (repeat (first | (with_reducible exact Below.refl _ _) | (with_reducible refine Below.drew ?_) | ((with_reducible refine Below.alloc ?_ ?hB _); case hB => (first | (with_reducible exact Nat.le_refl _) | omega | (simp; done) | (simp; omega))) | ((with_reducible refine Below.setCell ?_ ?hB _); case hB => (first | (with_reducible exact Nat.le_refl _) | omega | (simp; done) | (simp; omega)))))
  have hg0 : w0.heap[w.heap.size]? = some (.cells #[.slice A m.length cap] 24) := by rw [← hw0]; exact heap_alloc_new _ _
  have hlen : m.length ≤ maxLen := by omega
  have HS := Lib.hid (szMemory_calls A cap m w0 1048576 ((hr.below hb0).more hb0.size) hlen (by omega) (by omega))
  have HB := Lib.hid hb0
  have HW := Lib.hid hw0
  have HR := Lib.hid hr
  have HZZ := Lib.hid (show ∀ r ∈ m, ∀ z ∈ r, IsB z from fun r hr z hz => isB_of (hzz r hr z hz))
  clear hzz
  have c0 := one_cell hg0
  have HA : Hid (∀ W, Below w0.heap.size w0 W → W.cell? ⟨w.heap.size, 0, none⟩ = some (.slice A m.length cap)) := Lib.hid fun W hb => by
    exact one_cell ((hb.block _ (Array.getElem?_eq_some_iff.1 hg0).1).trans hg0)
  clear hr hb0 hw0  hg0
  go_enter Try.func3, Try.ntmps3
  go_wp2_with fail
  rw [HW.out]
  refine HS.out.mono ?_
  rintro e w1 ⟨⟨r, rfl, hr⟩, hb1⟩
  have HR1 := Lib.hid hr
  have HB1 := Lib.hid hb1
  clear hb1 c0
  by_cases hneg : r < 0
  · clear hr
    go_wp2_with fail
    go_ret
    exact ⟨rfl, HB.out.trans (HB1.out.mono HB.out.size)⟩
  · have hsz : m.length ≤ 1048576 ∧ total m ≤ 1048576 := by omega
    have hro : ∀ q ∈ m, q.length ≤ 1048576 := fun q hq => Nat.le_trans (row_le m q hq) hsz.2
    have HT := Lib.hid (fun W (hb : Below w0.heap.size w0 W) => toMemory_calls A cap m W ((HR.out.below (HB.out.trans (hb.mono HB.out.size))).more (Nat.le_trans HB.out.size hb.size)) hsz.1 hro)
    have HSP := Lib.hid (fun W X k (hx : Rd2 W W.heap.size X m) => by have hq := specMemoryText_calls X k m  W hx hlen HZZ.out; rw [hform] at hq; exact hq)
    have HIP := Lib.hid (fun W X k (hx : Rd2 W W.heap.size X m) => by have hq := implMemoryText_calls X k m  W hx hlen HZZ.out; rw [hform] at hq; exact hq)
    have HE := Lib.hid (fun W X Y cx cy (hx : Rd2 W W.heap.size X m) (hy : Rd2 W W.heap.size Y m) => eqMemory_calls X Y cx cy m m W hx hy hlen hlen)
    clear hr hsz hro hform
    have a0 := HA.out w1 HB1.out
    go_wp2_with fail
    refine (HT.out _ HB1.out).mono ?_
    rintro e w2 ⟨v2, rfl, ho2, hb2⟩
    obtain ⟨A2, k2, rfl, hk2⟩ := ho2.form
    have HO2 := Lib.hid ho2.reads
    have HB2 := Lib.hid (HB1.out.trans (hb2.mono HB1.out.size))
    clear a0 ho2 hb2
    go_wp2_with fail
    refine (HSP.out w2 A2 k2 HO2.out).mono ?_
    rintro e w4 ⟨rfl, hb4⟩
    have HB4 := Lib.hid (HB2.out.trans (hb4.mono HB2.out.size))
    have d4 := HA.out w4 HB4.out
    clear hb4
    have HBo := HB4
    go_wp2_with fail
    refine (HT.out _ HBo.out).mono ?_
    rintro e w5 ⟨v5, rfl, ho5, hb5⟩
    obtain ⟨A5, k5, rfl, hk5⟩ := ho5.form
    have HO5 := Lib.hid ho5
    have HC5 := Lib.hid hb5
    have HB5 := Lib.hid (HBo.out.trans (hb5.mono HBo.out.size))
    clear ho5 hb5
    obtain ⟨w6, hw6⟩ : ∃ w6, w5.alloc (.cells #[.slice A5 m.length k5] 28) = w6 := ⟨_, rfl⟩
    have hb6 : Below w5.heap.size w5 w6 := by rw [← hw6]; exact (Below.refl _ _).alloc (Nat.le_refl _) _
    have hx6 : w6.heap[w5.heap.size]? = some (.cells #[.slice A5 m.length k5] 28) := by rw [← hw6]; exact heap_alloc_new _ _
    have HX6 := Lib.hid hx6
    have HO6 := Lib.hid (HO5.out.below hb6)
    have HC6 := Lib.hid (HC5.out.trans (hb6.mono HC5.out.size))
    have HB6 := Lib.hid (HB5.out.trans (hb6.mono HB5.out.size))
    have HW6 := Lib.hid hw6
    clear hb6 hx6 hw6
    have HXX : Hid (∀ W, Below w6.heap.size w6 W → W.cell? ⟨w5.heap.size, 0, none⟩ = some (.slice A5 m.length k5)) := Lib.hid fun W hb => one_cell ((hb.block _ (Array.getElem?_eq_some_iff.1 HX6.out).1).trans HX6.out)
    have HD6 := Lib.hid ((Below.refl w6.heap.size w6).drew)
    have x1 := one_cell HX6.out
    go_wp2_with fail
    rw [HW6.out]
    refine (HIP.out w6 A5 k5 HO6.out.reads).mono ?_
    rintro e w8 ⟨rfl, hb8⟩
    have HC8 := Lib.hid hb8
    have HB8 := Lib.hid (HB6.out.trans (hb8.mono HB6.out.size))
    clear x1 hb8
    have HCo := HC8
    have HB8o := HB8
    have hselfq : (!q.toList == q.toList) = false := eq_bool rfl
    have hselfp : (p != p) = false := by simp
    have y1 : w8.drew.cell? ⟨w.heap.size, 0, none⟩ = some (.slice A m.length cap) := HA.out w8 HB8o.out
    have y2 : w8.drew.cell? ⟨w5.heap.size, 0, none⟩ = some (.slice A5 m.length k5) := HXX.out w8 HCo.out
    have HDM := Lib.hid (show decide (m = m) = true by simp)
    have HD8 := Lib.hid ((Below.refl w8.heap.size w8).drew)
    go_wp2_with fail
    go_region_held3 (fun W => W.cell? ⟨w.heap.size, 0, none⟩ = some (.slice A m.length cap) ∧ W.cell? ⟨w5.heap.size, 0, none⟩ = some (.slice A5 m.length k5))
      (first | exact ⟨y1, y2⟩ | exact ⟨HA.out _ (HB8o.out.trans (hc9.mono HB8o.out.size)), HXX.out _ (HCo.out.trans (hc9.mono HCo.out.size))⟩ | exact ⟨HA.out _ (HB8o.out.trans (hc10.mono HB8o.out.size)), HXX.out _ (HCo.out.trans (hc10.mono HCo.out.size))⟩)
      (first | (go_at_call 7; refine (HT.out _ HB8o.out.drew).mono ?_; rintro e w9 ⟨v9, rfl, ho9, hb9⟩; obtain ⟨A9, k9, rfl, hk9⟩ := ho9.form; have hc9 := HD8.out.trans hb9) | (go_at_call 9; refine (HE.out w9 A5 A9 k5 k9 (HO6.out.below (HCo.out.trans (hc9.mono HCo.out.size))).reads ho9.reads).mono ?_; rintro e w10 ⟨rfl, hb10⟩; rw [HDM.out]; have hc10 := hc9.trans (hb10.mono hc9.size)))
    have HB10 := Lib.hid (HB8o.out.trans (hc10.mono HB8o.out.size))
    clear hb9 hb10 hc9 hc10 y1 y2
    go_wp2_with fail
    go_ret
    exact ⟨rfl, HB.out.trans (HB10.out.mono HB.out.size)⟩
end Go.Proofs.Ytbdaaeffbhcflac
