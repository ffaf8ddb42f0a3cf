/-
  What the model answers of windows, where the answer is no window: IsWindow, ReadAt of spec.
-/
import Derived.Test.YtmcabnbmjbepjaaDoorWinI
namespace Go.Proofs.YtmcabnbmjbepjaaDoor
open Go.RowKit

theorem specIsWindow_calls (A : Option Addr) (c : Nat) (m : List (List Int)) (x : Win) (w : World) (hr : Rd2 w w.heap.size A m) (hn : m.length ≤ maxLen) :
    Calls Tryd.prog 13 #[.agg #[.slice A m.length c], .agg #[.int .i64 x.arr, .int .i64 x.start, .int .i64 x.len, .int .i64 x.cap]] w fun e w' => e = .returned (.tuple #[.bool (decide (WinOK m x)), .bool (decide (MemOK m))]) ∧ Below w.heap.size w w' := by
  obtain ⟨w0, hw0, hb0, hz0, hmw⟩ := enterMW A m.length c x.arr x.start x.len x.cap w
  have HC := Lib.hid (specMemory_calls A c m w0 ((hr.below hb0).more hb0.size) hn)
  have HB := Lib.hid hb0
  have HR := Lib.hid hr
  have HW := Lib.hid hw0
  have HMW := Lib.hid hmw
  clear hr hb0 hw0 hmw
  go_enter Tryd.func13, Tryd.ntmps13
  go_wp2_with fail
  rw [HW.out]
  refine HC.out.mono ?_
  rintro e w2 ⟨rfl, hb2⟩
  have HB2 := Lib.hid (HB.out.trans (hb2.mono HB.out.size))
  have hmw2 := HMW.out.below hb2
  have c1 := one_cell hmw2.mem
  obtain ⟨d0, d1, d2, d3⟩ := four_cells hmw2.win
  clear hb2 hmw2
  by_cases hm : MemOK m
  · have hd : decide (MemOK m) = true := decide_eq_true hm
    have HF := Lib.hid (specWindow_calls A c m x w2 ((HR.out.below HB2.out).more HB2.out.size) hn)
    clear hm
    go_wp2_with fail
    refine HF.out.mono ?_
    rintro e w3 ⟨rfl, hb3⟩
    have HB3 := Lib.hid (HB2.out.trans (hb3.mono HB2.out.size))
    clear hb3
    go_wp2_with fail
    go_ret2
    exact ⟨by rw [hd]; rfl, HB3.out⟩
  · have hd : decide (MemOK m) = false := decide_eq_false hm
    have hd2 : decide (WinOK m x) = false := decide_eq_false fun h => hm h.1
    clear hm
    go_wp2_with fail
    go_ret2
    exact ⟨by rw [hd, hd2]; rfl, HB2.out⟩

end Go.Proofs.YtmcabnbmjbepjaaDoor
