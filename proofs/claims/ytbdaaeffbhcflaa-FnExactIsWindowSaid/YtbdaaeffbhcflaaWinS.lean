/-
  What the model answers of windows, where the answer is no window: IsWindow, ReadAt of spec.
-/
import Derived.Test.YtbdaaeffbhcflaaWinI
namespace Go.Proofs.Ytbdaaeffbhcflaa
open Go.RowKit

theorem specIsWindow_calls (A : Option Addr) (c : Nat) (m : List (List Int)) (x : Win) (w : World) (hr : Rd2 w w.heap.size A m) (hn : m.length ≤ maxLen) :
    Calls Try.prog 61 #[.agg #[.slice A m.length c], .agg #[.int .i64 x.arr, .int .i64 x.start, .int .i64 x.len, .int .i64 x.cap]] w fun e w' => e = .returned (.tuple #[.bool (decide (WinOK m x)), .bool (decide (MemOK m))]) ∧ Below w.heap.size w w' := by
  obtain ⟨w0, hw0, hb0, hz0, hmw⟩ := enterMW A m.length c x.arr x.start x.len x.cap w
  have HC := Lib.hid (specMemory_calls A c m w0 ((hr.below hb0).more hb0.size) hn)
  have HB := Lib.hid hb0
  have HR := Lib.hid hr
  have HW := Lib.hid hw0
  have HMW := Lib.hid hmw
  clear hr hb0 hw0 hmw
  go_enter Try.func61, Try.ntmps61
  go_wp2_with fail
  rw [HW.out]
  refine HC.out.mono ?_
  rintro e w2 ⟨rfl, hb2⟩
  have HB2 := Lib.hid (HB.out.trans (hb2.mono HB.out.size))
  have hmw2 := HMW.out.below hb2
  have c1 := one_cell hmw2.mem
  obtain ⟨d0, d1, d2, d3⟩ := four_cells hmw2.win
  clear hb2 hmw2
  by_cases hm : MemOK m
  · have hd : decide (MemOK m) = true := decide_eq_true hm
    have HF := Lib.hid (specWindow_calls A c m x w2 ((HR.out.below HB2.out).more HB2.out.size) hn)
    clear hm
    go_wp2_with fail
    refine HF.out.mono ?_
    rintro e w3 ⟨rfl, hb3⟩
    have HB3 := Lib.hid (HB2.out.trans (hb3.mono HB2.out.size))
    clear hb3
    go_wp2_with fail
    go_ret2
    exact ⟨by rw [hd]; rfl, HB3.out⟩
  · have hd : decide (MemOK m) = false := decide_eq_false hm
    have hd2 : decide (WinOK m x) = false := decide_eq_false fun h => hm h.1
    clear hm
    go_wp2_with fail
    go_ret2
    exact ⟨by rw [hd, hd2]; rfl, HB2.out⟩

set_option maxRecDepth 100000 in
set_option maxHeartbeats 800000 in
theorem specReadAt_calls (A : Option Addr) (cm : Nat) (m : List (List Int)) (x : Win) (i : Int) (w : World) (hr : Rd2 w w.heap.size A m) (hn : m.length ≤ maxLen) :
    Calls Try.prog 20 #[.agg #[.slice A m.length cm], .agg #[.int .i64 x.arr, .int .i64 x.start, .int .i64 x.len, .int .i64 x.cap], .int .i64 i] w fun e w' => e = .returned (readV m x i) ∧ Below w.heap.size w w' := by
  obtain ⟨w0, hw0, hb0, hz0, hmw⟩ := enterMW A m.length cm x.arr x.start x.len x.cap w
  have HC := Lib.hid (specWindow_calls A cm m x w0 ((hr.below hb0).more hb0.size) hn)
  have HB := Lib.hid hb0
  have HR := Lib.hid hr
  have HW := Lib.hid hw0
  have HMW := Lib.hid hmw
  clear hr hb0 hmw hw0
  go_enter Try.func20, Try.ntmps20
  go_wp2_with fail
  rw [HW.out]
  refine HC.out.mono ?_
  rintro e w2 ⟨rfl, hb2⟩
  have HB2 := Lib.hid (HB.out.trans (hb2.mono HB.out.size))
  have hmw2 := HMW.out.below hb2
  have c1 := one_cell hmw2.mem
  obtain ⟨d0, d1, d2, d3⟩ := four_cells hmw2.win
  clear hb2 hmw2
  by_cases hm : WinOK m x
  · have hd : decide (WinOK m x) = true := decide_eq_true hm
    have HM := Lib.hid hm
    obtain ⟨n, s, l, c, rfl, hnl, hlc, hsc, h1, h64, h16⟩ := hm.nat
    clear hm
    dsimp only at *
    have hl64 : (l : Int) ≤ 64 := by omega
    have HL := Lib.hid (specIn_calls i 0 (l - 1) w2)
    by_cases h0 : 0 ≤ i ∧ i < l
    · obtain ⟨j, rfl⟩ : ∃ j : Nat, i = j := ⟨i.toNat, by omega⟩
      have hj : j < l := by omega
      have hsj : s + j < m[n].length := by omega
      rw [show decide ((0 : Int) ≤ (j : Int) ∧ (j : Int) ≤ (l : Int) - 1) = true from decide_eq_true (by omega)] at HL
      have HV : Hid (readV m ⟨n, s, l, c⟩ j = .tuple #[.int .u8 m[n][s + j], .bool true]) := Lib.hid (by
        have e1 : ((s : Int) + (j : Int)).toNat = s + j := by omega
        rw [readV, if_pos ⟨HM.out, h0⟩]
        simp only [Int.toNat_natCast, e1, getD_eq hnl]
        rw [List.getD_eq_getElem?_getD, List.getElem?_eq_getElem (by omega)]; rfl)
      have HS := Lib.hid (specAt_calls A cm m n s j l c w2 ((HR.out.below HB2.out).more HB2.out.size) hnl h16 (by omega) h64)
      go_wp2_with fail
      refine HL.out.mono ?_
      rintro e w3 ⟨rfl, rfl⟩
      go_wp2_with fail
      refine HS.out.mono ?_
      rintro e w3 ⟨rfl, hb3⟩
      have HB3 := Lib.hid (HB2.out.trans (hb3.mono HB2.out.size))
      clear hb3
      generalize m[n][s + j] = q at *
      go_wp2_with fail
      go_ret2
      exact ⟨HV.out.symm ▸ rfl, HB3.out⟩
    · have HV : Hid (readV m ⟨n, s, l, c⟩ i = .tuple #[.int .u8 0, .bool false]) := Lib.hid (by rw [readV, if_neg (fun h => h0 h.2)])
      rw [show decide ((0 : Int) ≤ i ∧ i ≤ (l : Int) - 1) = false from decide_eq_false (by omega)] at HL
      clear h0
      go_wp2_with fail
      refine HL.out.mono ?_
      rintro e w3 ⟨rfl, rfl⟩
      go_wp2_with fail
      go_ret2
      exact ⟨HV.out.symm ▸ rfl, HB2.out⟩
  · have hd : decide (WinOK m x) = false := decide_eq_false hm
    have HV : Hid (readV m x i = .tuple #[.int .u8 0, .bool false]) := Lib.hid (by rw [readV, if_neg (fun h => hm h.1)])
    clear hm
    go_wp2_with fail
    go_ret2
    exact ⟨HV.out.symm ▸ rfl, HB2.out⟩
end Go.Proofs.Ytbdaaeffbhcflaa
