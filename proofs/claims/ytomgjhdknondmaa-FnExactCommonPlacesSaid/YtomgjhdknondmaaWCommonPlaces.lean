/-
  FnExactCommonPlaces: the walk.
-/
import Derived.Test.YtomgjhdknondmaaLawW
import Derived.Test.YtomgjhdknondmaaShare
namespace Go.Proofs.Ytomgjhdknondmaa
open Go.RowKit

set_option maxRecDepth 100000 in
set_option maxHeartbeats 3200000 in
theorem fnExactCommonPlaces_walk (A : Option Addr) (len cap : Nat) (m : List (List Int)) (x : Win) (xy : Win)  (w : World) (h : MArg w A len cap m) (hx : WArg x) (hxy : WArg xy)  :
    Calls Try.prog 7 #[.agg #[.slice A len cap], x.val, xy.val] w fun e w' => e = .returned (.bool true) ∧ Below w.heap.size w w' := by
  obtain ⟨rfl, h1, h2, hr, hzz⟩ := h
  obtain ⟨a, b, p, hform⟩ : ∃ (a : Int) (b : Int) (p : Bool), commonV m x xy = .tuple #[.int .i64 a, .int .i64 b, .bool p] := by
    unfold commonV
    repeat' split
    all_goals exact ⟨_, _, _, rfl⟩
  unfold Win.val
  obtain ⟨w0, hw0⟩ : ∃ w0, (((w.alloc (.cells #[.slice A m.length cap] 75)).alloc (.cells #[.int .i64 x.arr, .int .i64 x.start, .int .i64 x.len, .int .i64 x.cap] 83)).alloc (.cells #[.int .i64 xy.arr, .int .i64 xy.start, .int .i64 xy.len, .int .i64 xy.cap] 83)) = w0 := ⟨_, rfl⟩
  have hb0 : Below w.heap.size w w0 := by rw [← hw0]; (repeat (first | (with_reducible exact Below.refl _ _) | (with_reducible refine Below.drew ?_) | ((with_reducible refine Below.alloc ?_ ?hB _); case hB => (first | (with_reducible exact Nat.le_refl _) | omega | (simp; done) | (simp; omega))) | ((with_reducible refine Below.setCell ?_ ?hB _); case hB => (first | (with_reducible exact Nat.le_refl _) | omega | (simp; done) | (simp; omega)))))
  have hg0 : w0.heap[w.heap.size]? = some (.cells #[.slice A m.length cap] 75) := by rw [← hw0]; exact alloc_old _ (alloc_old _ (heap_alloc_new _ _))
  have hg1 : w0.heap[w.heap.size + 1]? = some (.cells #[.int .i64 x.arr, .int .i64 x.start, .int .i64 x.len, .int .i64 x.cap] 83) := by rw [← hw0]; exact alloc_old _ ((by simpa using heap_alloc_new (w.alloc (.cells #[.slice A m.length cap] 75)) (.cells #[.int .i64 x.arr, .int .i64 x.start, .int .i64 x.len, .int .i64 x.cap] 83)))
  have hg2 : w0.heap[w.heap.size + 1 + 1]? = some (.cells #[.int .i64 xy.arr, .int .i64 xy.start, .int .i64 xy.len, .int .i64 xy.cap] 83) := by rw [← hw0]; exact (by simpa using heap_alloc_new ((w.alloc (.cells #[.slice A m.length cap] 75)).alloc (.cells #[.int .i64 x.arr, .int .i64 x.start, .int .i64 x.len, .int .i64 x.cap] 83)) (.cells #[.int .i64 xy.arr, .int .i64 xy.start, .int .i64 xy.len, .int .i64 xy.cap] 83))
  have hlen : m.length ≤ maxLen := by omega
  have HS := Lib.hid (szMemory_calls A cap m w0 1048576 ((hr.below hb0).more hb0.size) hlen (by omega) (by omega))
  have HB := Lib.hid hb0
  have HW := Lib.hid hw0
  have HR := Lib.hid hr
  have HXx := Lib.hid hx
  have HXxy := Lib.hid hxy
  clear hzz
  have c0 := one_cell hg0
  have HA : Hid (∀ W, Below w0.heap.size w0 W → W.cell? ⟨w.heap.size, 0, none⟩ = some (.slice A m.length cap) ∧ W.cell? ⟨w.heap.size + 1, 0, none⟩ = some (.int .i64 x.arr) ∧ W.cell? ⟨w.heap.size + 1, 1, none⟩ = some (.int .i64 x.start) ∧ W.cell? ⟨w.heap.size + 1, 2, none⟩ = some (.int .i64 x.len) ∧ W.cell? ⟨w.heap.size + 1, 3, none⟩ = some (.int .i64 x.cap) ∧ W.cell? ⟨w.heap.size + 1 + 1, 0, none⟩ = some (.int .i64 xy.arr) ∧ W.cell? ⟨w.heap.size + 1 + 1, 1, none⟩ = some (.int .i64 xy.start) ∧ W.cell? ⟨w.heap.size + 1 + 1, 2, none⟩ = some (.int .i64 xy.len) ∧ W.cell? ⟨w.heap.size + 1 + 1, 3, none⟩ = some (.int .i64 xy.cap)) := Lib.hid fun W hb => by
    obtain ⟨e00, e01, e02, e03⟩ := four_cells ((hb.block _ (Array.getElem?_eq_some_iff.1 hg1).1).trans hg1)
    obtain ⟨e10, e11, e12, e13⟩ := four_cells ((hb.block _ (Array.getElem?_eq_some_iff.1 hg2).1).trans hg2)
    exact ⟨one_cell ((hb.block _ (Array.getElem?_eq_some_iff.1 hg0).1).trans hg0), e00, e01, e02, e03, e10, e11, e12, e13⟩
  clear hr hb0 hw0 hx hxy hg0 hg1 hg2
  go_enter Try.func7, Try.ntmps7
  go_wp2_with fail
  rw [HW.out]
  refine HS.out.mono ?_
  rintro e w1 ⟨⟨r, rfl, hr⟩, hb1⟩
  have HR1 := Lib.hid hr
  have HB1 := Lib.hid hb1
  clear hb1 c0
  by_cases hneg : r < 0
  · clear hr
    go_wp2_with fail
    go_ret
    exact ⟨rfl, HB.out.trans (HB1.out.mono HB.out.size)⟩
  · have hsz : m.length ≤ 1048576 ∧ total m ≤ 1048576 := by omega
    have hro : ∀ q ∈ m, q.length ≤ 1048576 := fun q hq => Nat.le_trans (row_le m q hq) hsz.2
    have HT := Lib.hid (fun W (hb : Below w0.heap.size w0 W) => toMemory_calls A cap m W ((HR.out.below (HB.out.trans (hb.mono HB.out.size))).more (Nat.le_trans HB.out.size hb.size)) hsz.1 hro)
    have HSP := Lib.hid (fun W X k (hx : Rd2 W W.heap.size X m) => by have hq := specCommonPlaces_calls X k m x xy W hx hlen; rw [hform] at hq; exact hq)
    have HIP := Lib.hid (fun W X k (hx : Rd2 W W.heap.size X m) => by have hq := implCommonPlaces_calls X k m x xy W hx hlen HXx.out HXxy.out; rw [hform] at hq; exact hq)
    have HE := Lib.hid (fun W X Y cx cy (hx : Rd2 W W.heap.size X m) (hy : Rd2 W W.heap.size Y m) => eqMemory_calls X Y cx cy m m W hx hy hlen hlen)
    clear hr hsz hro hform
    obtain ⟨a0, a1, a2, a3, a4, a5, a6, a7, a8⟩ := HA.out w1.drew HB1.out.drew
    go_wp2_with fail
    go_region_held3 (fun W => W.cell? ⟨w.heap.size, 0, none⟩ = some (.slice A m.length cap) ∧ W.cell? ⟨w.heap.size + 1, 0, none⟩ = some (.int .i64 x.arr) ∧ W.cell? ⟨w.heap.size + 1, 1, none⟩ = some (.int .i64 x.start) ∧ W.cell? ⟨w.heap.size + 1, 2, none⟩ = some (.int .i64 x.len) ∧ W.cell? ⟨w.heap.size + 1, 3, none⟩ = some (.int .i64 x.cap) ∧ W.cell? ⟨w.heap.size + 1 + 1, 0, none⟩ = some (.int .i64 xy.arr) ∧ W.cell? ⟨w.heap.size + 1 + 1, 1, none⟩ = some (.int .i64 xy.start) ∧ W.cell? ⟨w.heap.size + 1 + 1, 2, none⟩ = some (.int .i64 xy.len) ∧ W.cell? ⟨w.heap.size + 1 + 1, 3, none⟩ = some (.int .i64 xy.cap))
      (first | exact ⟨a0, a1, a2, a3, a4, a5, a6, a7, a8⟩ | exact HA.out _ hc2 | exact HA.out _ hc3a | exact HA.out _ hc3b | exact HA.out _ hc4)
      (first | (go_at_call 61; refine (HT.out _ HB1.out.drew).mono ?_; rintro e w2 ⟨v2, rfl, ho2, hb2⟩; obtain ⟨A2, k2, rfl, hk2⟩ := ho2.form; have hc2 := HB1.out.drew.trans (hb2.mono HB1.out.drew.size); have hr2 := ho2.reads) | (go_at_call 65; refine (toWin_calls _ _ _ _ w2).mono ?_; rintro e w3a ⟨rfl, hb3a⟩; have hc3a := hc2.trans (hb3a.mono hc2.size); have hr3a := (hr2.below hb3a).more hb3a.size) | (go_at_call 65; refine (toWin_calls _ _ _ _ w3a).mono ?_; rintro e w3b ⟨rfl, hb3b⟩; have hc3b := hc3a.trans (hb3b.mono hc3a.size); have hr3b := (hr3a.below hb3b).more hb3b.size) | (go_at_call 18; refine (HSP.out w3b A2 k2 hr3b).mono ?_; rintro e w4 ⟨rfl, hb4⟩; have hc4 := hc3b.trans (hb4.mono hc3b.size)))
    have HB4 := Lib.hid hc4
    have d4 := (HA.out w4 hc4).1
    clear a0 a1 a2 a3 a4 a5 a6 a7 a8 hb2 hb3a hb3b hb4 hc2 hc3a hc3b hc4 ho2 hr2 hr3a hr3b
    have HBo := HB4
    go_wp2_with fail
    refine (HT.out _ HBo.out).mono ?_
    rintro e w5 ⟨v5, rfl, ho5, hb5⟩
    obtain ⟨A5, k5, rfl, hk5⟩ := ho5.form
    have HO5 := Lib.hid ho5
    have HC5 := Lib.hid hb5
    have HB5 := Lib.hid (HBo.out.trans (hb5.mono HBo.out.size))
    clear ho5 hb5
    obtain ⟨w6, hw6⟩ : ∃ w6, w5.alloc (.cells #[.slice A5 m.length k5] 26) = w6 := ⟨_, rfl⟩
    have hb6 : Below w5.heap.size w5 w6 := by rw [← hw6]; exact (Below.refl _ _).alloc (Nat.le_refl _) _
    have hx6 : w6.heap[w5.heap.size]? = some (.cells #[.slice A5 m.length k5] 26) := by rw [← hw6]; exact heap_alloc_new _ _
    have HX6 := Lib.hid hx6
    have HO6 := Lib.hid (HO5.out.below hb6)
    have HC6 := Lib.hid (HC5.out.trans (hb6.mono HC5.out.size))
    have HB6 := Lib.hid (HB5.out.trans (hb6.mono HB5.out.size))
    have HW6 := Lib.hid hw6
    clear hb6 hx6 hw6
    have HXX : Hid (∀ W, Below w6.heap.size w6 W → W.cell? ⟨w5.heap.size, 0, none⟩ = some (.slice A5 m.length k5)) := Lib.hid fun W hb => one_cell ((hb.block _ (Array.getElem?_eq_some_iff.1 HX6.out).1).trans HX6.out)
    have HD6 := Lib.hid ((Below.refl w6.heap.size w6).drew)
    obtain ⟨a0, a1, a2, a3, a4, a5, a6, a7, a8⟩ := HA.out w6.drew HB6.out.drew
    have x1 : w6.drew.cell? ⟨w5.heap.size, 0, none⟩ = some (.slice A5 m.length k5) := one_cell HX6.out
    go_wp2_with fail
    rw [HW6.out]
    go_region_held3 (fun W => W.cell? ⟨w5.heap.size, 0, none⟩ = some (.slice A5 m.length k5) ∧ W.cell? ⟨w.heap.size + 1, 0, none⟩ = some (.int .i64 x.arr) ∧ W.cell? ⟨w.heap.size + 1, 1, none⟩ = some (.int .i64 x.start) ∧ W.cell? ⟨w.heap.size + 1, 2, none⟩ = some (.int .i64 x.len) ∧ W.cell? ⟨w.heap.size + 1, 3, none⟩ = some (.int .i64 x.cap) ∧ W.cell? ⟨w.heap.size + 1 + 1, 0, none⟩ = some (.int .i64 xy.arr) ∧ W.cell? ⟨w.heap.size + 1 + 1, 1, none⟩ = some (.int .i64 xy.start) ∧ W.cell? ⟨w.heap.size + 1 + 1, 2, none⟩ = some (.int .i64 xy.len) ∧ W.cell? ⟨w.heap.size + 1 + 1, 3, none⟩ = some (.int .i64 xy.cap))
      (first | exact ⟨x1, a1, a2, a3, a4, a5, a6, a7, a8⟩ | exact ⟨HXX.out _ hc7a, (HA.out _ (HB6.out.trans (hc7a.mono HB6.out.size))).2⟩ | exact ⟨HXX.out _ hc7b, (HA.out _ (HB6.out.trans (hc7b.mono HB6.out.size))).2⟩ | exact ⟨HXX.out _ hc8, (HA.out _ (HB6.out.trans (hc8.mono HB6.out.size))).2⟩)
      (first | (go_at_call 65; refine (toWin_calls _ _ _ _ w6.drew).mono ?_; rintro e w7a ⟨rfl, hb7a⟩; have hc7a := HD6.out.trans hb7a) | (go_at_call 65; refine (toWin_calls _ _ _ _ w7a).mono ?_; rintro e w7b ⟨rfl, hb7b⟩; have hc7b := hc7a.trans (hb7b.mono hc7a.size)) | (go_at_call 17; refine (HIP.out w7b A5 k5 (HO6.out.below hc7b).reads).mono ?_; rintro e w8 ⟨rfl, hb8⟩; have hc8 := hc7b.trans (hb8.mono hc7b.size)))
    have HC8 := Lib.hid hc8
    have HB8 := Lib.hid (HB6.out.trans (hc8.mono HB6.out.size))
    clear a0 a1 a2 a3 a4 a5 a6 a7 a8 x1 hb7a hb7b hb8 hc7a hc7b hc8
    have HCo := HC8
    have HB8o := HB8
    have hselfa : (a != a) = false := by simp
    have hselfb : (b != b) = false := by simp
    have hselfp : (p != p) = false := by simp
    have y1 : w8.drew.cell? ⟨w.heap.size, 0, none⟩ = some (.slice A m.length cap) := (HA.out w8 HB8o.out).1
    have y2 : w8.drew.cell? ⟨w5.heap.size, 0, none⟩ = some (.slice A5 m.length k5) := HXX.out w8 HCo.out
    have HDM := Lib.hid (show decide (m = m) = true by simp)
    have HD8 := Lib.hid ((Below.refl w8.heap.size w8).drew)
    go_wp2_with fail
    go_region_held3 (fun W => W.cell? ⟨w.heap.size, 0, none⟩ = some (.slice A m.length cap) ∧ W.cell? ⟨w5.heap.size, 0, none⟩ = some (.slice A5 m.length k5))
      (first | exact ⟨y1, y2⟩ | exact ⟨(HA.out _ (HB8o.out.trans (hc9.mono HB8o.out.size))).1, HXX.out _ (HCo.out.trans (hc9.mono HCo.out.size))⟩ | exact ⟨(HA.out _ (HB8o.out.trans (hc10.mono HB8o.out.size))).1, HXX.out _ (HCo.out.trans (hc10.mono HCo.out.size))⟩)
      (first | (go_at_call 61; refine (HT.out _ HB8o.out.drew).mono ?_; rintro e w9 ⟨v9, rfl, ho9, hb9⟩; obtain ⟨A9, k9, rfl, hk9⟩ := ho9.form; have hc9 := HD8.out.trans hb9) | (go_at_call 63; refine (HE.out w9 A5 A9 k5 k9 (HO6.out.below (HCo.out.trans (hc9.mono HCo.out.size))).reads ho9.reads).mono ?_; rintro e w10 ⟨rfl, hb10⟩; rw [HDM.out]; have hc10 := hc9.trans (hb10.mono hc9.size)))
    have HB10 := Lib.hid (HB8o.out.trans (hc10.mono HB8o.out.size))
    clear hb9 hb10 hc9 hc10 y1 y2
    go_wp2_with fail
    go_ret
    exact ⟨rfl, HB.out.trans (HB10.out.mono HB.out.size)⟩
end Go.Proofs.Ytomgjhdknondmaa
