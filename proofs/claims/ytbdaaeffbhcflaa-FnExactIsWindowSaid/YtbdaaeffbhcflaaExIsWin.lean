/-
  FnExactIsWindow: the walk.
-/
import Derived.Test.YtbdaaeffbhcflaaLawW
namespace Go.Proofs.Ytbdaaeffbhcflaa
open Go.RowKit

set_option maxRecDepth 100000 in
set_option maxHeartbeats 1600000 in
theorem fnExactIsWindow_walk (A : Option Addr) (len cap : Nat) (m : List (List Int)) (x : Win) (w : World) (h : MArg w A len cap m) (hx : WArg x) :
    Calls Try.prog 7 #[.agg #[.slice A len cap], x.val] w fun e w' => e = .returned (.bool true) ∧ Below w.heap.size w w' := by
  obtain ⟨rfl, h1, h2, hr, _⟩ := h
  unfold Win.val
  obtain ⟨w0, hw0, hb0, hz0, hlw⟩ := enterLW A m.length cap x.arr x.start x.len x.cap w
  have hlen : m.length ≤ maxLen := by omega
  have HS := Lib.hid (szMemory_calls A cap m w0 1048576 ((hr.below hb0).more hb0.size) hlen (by omega) (by omega))
  have HB := Lib.hid hb0
  have HW := Lib.hid hw0
  have HR := Lib.hid hr
  have HX := Lib.hid hx
  have hs0 := Lib.hid hlw
  have c0 := one_cell hlw.mem
  have HA : Hid (∀ W, Below w0.heap.size w0 W → W.cell? ⟨w.heap.size, 0, none⟩ = some (.slice A m.length cap) ∧ W.cell? ⟨w.heap.size + 1, 0, none⟩ = some (.int .i64 x.arr) ∧ W.cell? ⟨w.heap.size + 1, 1, none⟩ = some (.int .i64 x.start) ∧ W.cell? ⟨w.heap.size + 1, 2, none⟩ = some (.int .i64 x.len) ∧ W.cell? ⟨w.heap.size + 1, 3, none⟩ = some (.int .i64 x.cap)) :=
    Lib.hid fun W hb => (hlw.below hb).cells
  clear hr hb0 hw0 hx hlw
  go_enter Try.func7, Try.ntmps7
  go_wp2_with fail
  rw [HW.out]
  refine HS.out.mono ?_
  rintro e w1 ⟨⟨r, rfl, hr⟩, hb1⟩
  have HR1 := Lib.hid hr
  have HB1 := Lib.hid hb1
  clear hb1 c0
  by_cases hneg : r < 0
  · clear hr
    go_wp2_with fail
    go_ret
    exact ⟨rfl, HB.out.trans (HB1.out.mono HB.out.size)⟩
  · have hsz : m.length ≤ 1048576 ∧ total m ≤ 1048576 := by omega
    have HZ := Lib.hid hsz
    have hro : ∀ q ∈ m, q.length ≤ 1048576 := fun q hq => Nat.le_trans (row_le m q hq) hsz.2
    have HT := Lib.hid (fun W (hb : Below w0.heap.size w0 W) => toMemory_calls A cap m W ((HR.out.below (HB.out.trans (hb.mono HB.out.size))).more (Nat.le_trans HB.out.size hb.size)) hsz.1 hro)
    have HSP := Lib.hid (fun W X k (hx : Rd2 W W.heap.size X m) => specIsWindow_calls X k m x W hx hlen)
    have HIP := Lib.hid (fun W X k (hx : Rd2 W W.heap.size X m) => implIsWindow_calls X k m x W hx hlen HX.out)
    have HE := Lib.hid (fun W X Y cx cy (hx : Rd2 W W.heap.size X m) (hy : Rd2 W W.heap.size Y m) => eqMemory_calls X Y cx cy m m W hx hy hlen hlen)
    clear hr hsz hro
    obtain ⟨a1, a2, a3, a4, a5⟩ := HA.out w1.drew HB1.out.drew
    go_wp2_with fail
    go_region_held3 (fun W => W.cell? ⟨w.heap.size, 0, none⟩ = some (.slice A m.length cap) ∧ W.cell? ⟨w.heap.size + 1, 0, none⟩ = some (.int .i64 x.arr) ∧ W.cell? ⟨w.heap.size + 1, 1, none⟩ = some (.int .i64 x.start) ∧ W.cell? ⟨w.heap.size + 1, 2, none⟩ = some (.int .i64 x.len) ∧ W.cell? ⟨w.heap.size + 1, 3, none⟩ = some (.int .i64 x.cap))
      (first | exact ⟨a1, a2, a3, a4, a5⟩ | exact HA.out _ hc2 | exact HA.out _ hc3 | exact HA.out _ hc4)
      (first | (go_at_call 59; refine (HT.out _ HB1.out.drew).mono ?_; rintro e w2 ⟨v2, rfl, ho2, hb2⟩; obtain ⟨A2, k2, rfl, hk2⟩ := ho2.form; have hc2 := HB1.out.drew.trans (hb2.mono HB1.out.drew.size)) | (go_at_call 62; refine (toWin_calls _ _ _ _ _).mono ?_; rintro e w3 ⟨rfl, hb3⟩; have hc3 := hc2.trans (hb3.mono hc2.size)) | (go_at_call 61; refine (HSP.out w3 A2 k2 ((ho2.reads.below hb3).more hb3.size)).mono ?_; rintro e w4 ⟨rfl, hb4⟩; have hc4 := hc3.trans (hb4.mono hc3.size)))
    have HB4 := Lib.hid hc4
    have d4 := (HA.out w4 hc4).1
    clear a1 a2 a3 a4 a5 hb2 hb3 hb4 hc2 hc3 hc4 ho2
    go_wp2_with fail
    refine (HT.out _ HB4.out).mono ?_
    rintro e w5 ⟨v5, rfl, ho5, hb5⟩
    obtain ⟨A5, k5, rfl, hk5⟩ := ho5.form
    have HO5 := Lib.hid ho5
    have HB5 := Lib.hid (HB4.out.trans (hb5.mono HB4.out.size))
    clear d4 ho5 hb5
    obtain ⟨w6, hw6⟩ : ∃ w6, w5.alloc (.cells #[.slice A5 m.length k5] 26) = w6 := ⟨_, rfl⟩
    have hb6 : Below w5.heap.size w5 w6 := by rw [← hw6]; exact (Below.refl _ _).alloc (Nat.le_refl _) _
    have hx6 : w6.heap[w5.heap.size]? = some (.cells #[.slice A5 m.length k5] 26) := by rw [← hw6]; exact heap_alloc_new _ _
    have HX6 := Lib.hid hx6
    have HO6 := Lib.hid (HO5.out.below hb6)
    have HB6 := Lib.hid (HB5.out.trans (hb6.mono HB5.out.size))
    have HW6 := Lib.hid hw6
    clear hb6 hx6 hw6
    obtain ⟨a1, a2, a3, a4, a5⟩ := HA.out w6.drew HB6.out.drew
    have x1 : w6.drew.cell? ⟨w5.heap.size, 0, none⟩ = some (.slice A5 m.length k5) := one_cell HX6.out
    have HXX : Hid (∀ W, Below w6.heap.size w6 W → W.cell? ⟨w5.heap.size, 0, none⟩ = some (.slice A5 m.length k5)) := Lib.hid fun W hb => one_cell ((hb.block _ (Array.getElem?_eq_some_iff.1 HX6.out).1).trans HX6.out)
    have HD6 := Lib.hid ((Below.refl w6.heap.size w6).drew)
    go_wp2_with fail
    rw [HW6.out]
    go_region_held3 (fun W => W.cell? ⟨w5.heap.size, 0, none⟩ = some (.slice A5 m.length k5) ∧ W.cell? ⟨w.heap.size + 1, 0, none⟩ = some (.int .i64 x.arr) ∧ W.cell? ⟨w.heap.size + 1, 1, none⟩ = some (.int .i64 x.start) ∧ W.cell? ⟨w.heap.size + 1, 2, none⟩ = some (.int .i64 x.len) ∧ W.cell? ⟨w.heap.size + 1, 3, none⟩ = some (.int .i64 x.cap))
      (first | exact ⟨x1, a2, a3, a4, a5⟩ | exact ⟨HXX.out _ hc7, (HA.out _ (HB6.out.trans (hc7.mono HB6.out.size))).2⟩ | exact ⟨HXX.out _ hc8, (HA.out _ (HB6.out.trans (hc8.mono HB6.out.size))).2⟩)
      (first | (go_at_call 62; refine (toWin_calls _ _ _ _ _).mono ?_; rintro e w7 ⟨rfl, hb7⟩; have hc7 := HD6.out.trans hb7) | (go_at_call 63; refine (HIP.out w7 A5 k5 (HO6.out.below hc7).reads).mono ?_; rintro e w8 ⟨rfl, hb8⟩; have hc8 := hc7.trans (hb8.mono hc7.size)))
    have HC8 := Lib.hid hc8
    have HB8 := Lib.hid (HB6.out.trans (hc8.mono HB6.out.size))
    clear a1 a2 a3 a4 a5 x1 hb7 hb8 hc7 hc8
    have hself1 : (decide (WinOK m x) != decide (WinOK m x)) = false := by simp
    have hself2 : (decide (MemOK m) != decide (MemOK m)) = false := by simp
    have y1 : w8.drew.cell? ⟨w.heap.size, 0, none⟩ = some (.slice A m.length cap) := (HA.out w8 HB8.out).1
    have y2 : w8.drew.cell? ⟨w5.heap.size, 0, none⟩ = some (.slice A5 m.length k5) := HXX.out w8 HC8.out
    have HDM := Lib.hid (show decide (m = m) = true by simp)
    have HD8 := Lib.hid ((Below.refl w8.heap.size w8).drew)
    go_wp2_with fail
    go_region_held3 (fun W => W.cell? ⟨w.heap.size, 0, none⟩ = some (.slice A m.length cap) ∧ W.cell? ⟨w5.heap.size, 0, none⟩ = some (.slice A5 m.length k5))
      (first | exact ⟨y1, y2⟩ | exact ⟨(HA.out _ (HB8.out.trans (hc9.mono HB8.out.size))).1, HXX.out _ (HC8.out.trans (hc9.mono HC8.out.size))⟩ | exact ⟨(HA.out _ (HB8.out.trans (hc10.mono HB8.out.size))).1, HXX.out _ (HC8.out.trans (hc10.mono HC8.out.size))⟩)
      (first | (go_at_call 59; refine (HT.out _ HB8.out.drew).mono ?_; rintro e w9 ⟨v9, rfl, ho9, hb9⟩; obtain ⟨A9, k9, rfl, hk9⟩ := ho9.form; have hc9 := HD8.out.trans hb9) | (go_at_call 60; refine (HE.out w9 A5 A9 k5 k9 (HO6.out.below (HC8.out.trans (hc9.mono HC8.out.size))).reads ho9.reads).mono ?_; rintro e w10 ⟨rfl, hb10⟩; rw [HDM.out]; have hc10 := hc9.trans (hb10.mono hc9.size)))
    have HB10 := Lib.hid (HB8.out.trans (hc10.mono HB8.out.size))
    clear hb9 hb10 hc9 hc10 y1 y2
    go_wp2_with fail
    go_ret
    exact ⟨rfl, HB.out.trans (HB10.out.mono HB.out.size)⟩
end Go.Proofs.Ytbdaaeffbhcflaa
