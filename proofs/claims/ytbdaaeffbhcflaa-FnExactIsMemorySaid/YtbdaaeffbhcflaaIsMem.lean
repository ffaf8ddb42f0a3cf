/-
  FnExactIsMemory: the walk.
-/
import Derived.Test.YtbdaaeffbhcflaaSpecM
import Derived.Test.YtbdaaeffbhcflaaImplA
import Derived.Test.YtbdaaeffbhcflaaArgs
import Derived.Deep.RegionHeld3
namespace Go.Proofs.Ytbdaaeffbhcflaa
open Go.RowKit

theorem fnExactIsMemory_walk (A : Option Addr) (len cap : Nat) (m : List (List Int)) (w : World) (h : MArg w A len cap m) :
    Calls Try.prog 6 #[.agg #[.slice A len cap]] w fun e w' => e = .returned (.bool true) ∧ Below w.heap.size w w' := by
  obtain ⟨rfl, h1, h2, hr, _⟩ := h
  obtain ⟨w0, hw0⟩ : ∃ w0, (w.alloc (.cells #[.slice A m.length cap] 66)) = w0 := ⟨_, rfl⟩
  have hb0 : Below w.heap.size w w0 := by rw [← hw0]; exact (Below.refl _ _).alloc (Nat.le_refl _) _
  have hH : w0.heap[w.heap.size]? = some (.cells #[.slice A m.length cap] 66) := by rw [← hw0]; exact heap_alloc_new _ _
  have hlen : m.length ≤ maxLen := by omega
  have HS := Lib.hid (szMemory_calls A cap m w0 1048576 ((hr.below hb0).more hb0.size) hlen (by omega) (by omega))
  have HB := Lib.hid hb0
  have HW := Lib.hid hw0
  have HR := Lib.hid hr
  have HH := Lib.hid hH
  have c0 := one_cell hH
  clear hr hb0 hw0 hH
  go_enter Try.func6, Try.ntmps6
  go_wp2_with fail
  rw [HW.out]
  refine HS.out.mono ?_
  rintro e w1 ⟨⟨r, rfl, hr⟩, hb1⟩
  have HR1 := Lib.hid hr
  have HB1 := Lib.hid hb1
  have hs0 : w.heap.size < w0.heap.size := (Array.getElem?_eq_some_iff.1 HH.out).1
  clear hb1 c0
  by_cases hneg : r < 0
  · clear hr
    go_wp2_with fail
    go_ret
    exact ⟨rfl, HB.out.trans (HB1.out.mono HB.out.size)⟩
  · have hsz : m.length ≤ 1048576 ∧ total m ≤ 1048576 := by omega
    have HZ := Lib.hid hsz
    have hro : ∀ q ∈ m, q.length ≤ 1048576 := fun q hq => Nat.le_trans (row_le m q hq) hsz.2
    have HT := Lib.hid (fun W (hb : Below w0.heap.size w0 W) => toMemory_calls A cap m W ((HR.out.below (HB.out.trans (hb.mono HB.out.size))).more (Nat.le_trans HB.out.size hb.size)) hsz.1 hro)
    have HA := Lib.hid (fun W (hb : Below w0.heap.size w0 W) => one_cell ((hb.block _ hs0).trans HH.out))
    clear hr hsz hro
    have c1 := HA.out w1 HB1.out
    go_wp2_with fail
    refine (HT.out _ HB1.out).mono ?_
    rintro e w2 ⟨v2, rfl, ho2, hb2⟩
    obtain ⟨A2, k2, rfl, hk2⟩ := ho2.form
    have HC2 := Lib.hid (specIsMemory_calls A2 k2 m w2 ho2.reads hlen)
    have HB2 := Lib.hid (HB1.out.trans (hb2.mono HB1.out.size))
    clear c1 ho2 hb2
    go_wp2_with fail
    refine HC2.out.mono ?_
    rintro e w3 ⟨rfl, hb3⟩
    have HB3 := Lib.hid (HB2.out.trans (hb3.mono HB2.out.size))
    have c3 := HA.out w3 HB3.out
    clear hb3
    go_wp2_with fail
    refine (HT.out _ HB3.out).mono ?_
    rintro e w4 ⟨v4, rfl, ho4, hb4⟩
    obtain ⟨A4, k4, rfl, hk4⟩ := ho4.form
    have HO4 := Lib.hid ho4
    have HB4 := Lib.hid (HB3.out.trans (hb4.mono HB3.out.size))
    clear c3 ho4 hb4
    go_wp2_with fail
    obtain ⟨w5, hw5⟩ : ∃ w5, w4.alloc (.cells #[.slice A4 m.length k4] 26) = w5 := ⟨_, rfl⟩
    have hb5 : Below w4.heap.size w4 w5 := by rw [← hw5]; exact (Below.refl _ _).alloc (Nat.le_refl _) _
    have hx5 : w5.heap[w4.heap.size]? = some (.cells #[.slice A4 m.length k4] 26) := by rw [← hw5]; exact heap_alloc_new _ _
    have HS5 := Lib.hid (Array.getElem?_eq_some_iff.1 hx5).1
    have HX5 := Lib.hid hx5
    have HO5 := Lib.hid (HO4.out.below hb5)
    have HB5 := Lib.hid (HB4.out.trans (hb5.mono HB4.out.size))
    have HC5 := Lib.hid (implIsMemory_calls A4 k4 m w5 HO5.out.reads hlen)
    rw [hw5]
    clear hb5 hx5 hw5
    refine HC5.out.mono ?_
    rintro e w6 ⟨rfl, hb6⟩
    have HO6 := Lib.hid (HO5.out.below hb6)
    have HB6 := Lib.hid (HB5.out.trans (hb6.mono HB5.out.size))
    have HX6 := Lib.hid ((hb6.block _ HS5.out).trans HX5.out)
    have c6 := HA.out w6 HB6.out
    have x6 := one_cell HX6.out
    have hself : (decide (MemOK m) != decide (MemOK m)) = false := by simp
    clear hb6
    have l1 := cell_lt c6
    have l2 := cell_lt x6
    have HD6 := Lib.hid ((Below.refl w6.heap.size w6).drew)
    have HE := Lib.hid (fun W X Y cx cy (hx : Rd2 W W.heap.size X m) (hy : Rd2 W W.heap.size Y m) => eqMemory_calls X Y cx cy m m W hx hy hlen hlen)
    have hdm : decide (m = m) = true := by simp
    have HDM := Lib.hid hdm
    clear hdm
    go_wp2_with fail
    go_region_held3 (fun W => W.cell? ⟨w.heap.size, 0, none⟩ = some (.slice A m.length cap) ∧ W.cell? ⟨w4.heap.size, 0, none⟩ = some (.slice A4 m.length k4))
      (first | exact ⟨c6, x6⟩ | exact ⟨(hb7.cell (p := ⟨w.heap.size, 0, none⟩) l1).trans c6, (hb7.cell (p := ⟨w4.heap.size, 0, none⟩) l2).trans x6⟩ | exact ⟨(hb78.cell (p := ⟨w.heap.size, 0, none⟩) l1).trans c6, (hb78.cell (p := ⟨w4.heap.size, 0, none⟩) l2).trans x6⟩)
      (first | (go_at_call 59; refine (HT.out _ HB6.out.drew).mono ?_; rintro e w7 ⟨v7, rfl, ho7, hb7⟩; obtain ⟨A7, k7, rfl, hk7⟩ := ho7.form) | (go_at_call 60; refine (HE.out w7 A4 A7 k4 k7 ((HO6.out.reads.below (HD6.out.trans hb7)).more hb7.size) ho7.reads).mono ?_; rintro e w8 ⟨rfl, hb8⟩; rw [HDM.out]; have hb78 : Below w6.heap.size w6.drew w8 := hb7.trans (hb8.mono hb7.size)))
    have HB8 := Lib.hid (HB6.out.trans ((HD6.out.trans hb78).mono HB6.out.size))
    clear hb7 hb8 hb78
    go_wp2_with fail
    go_ret
    exact ⟨rfl, HB.out.trans (HB8.out.mono HB.out.size)⟩
end Go.Proofs.Ytbdaaeffbhcflaa
