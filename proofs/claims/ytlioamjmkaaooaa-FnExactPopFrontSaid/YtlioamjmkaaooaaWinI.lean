/-
  What the program answers of windows, where the answer is no window: IsWindow, ReadAt, AreApart of impl.
-/
import Derived.Test.YtlioamjmkaaooaaImplC
namespace Go.Proofs.Ytlioamjmkaaooaa
open Go.RowKit

/-- What ReadAt answers. -/
def readV (m : List (List Int)) (x : Win) (i : Int) : Value :=
  if WinOK m x ∧ 0 ≤ i ∧ i < x.len then .tuple #[.int .u8 ((m.getD x.arr.toNat []).getD (x.start + i).toNat 0), .bool true] else .tuple #[.int .u8 0, .bool false]
set_option maxRecDepth 100000 in
set_option maxHeartbeats 800000 in
theorem implReadAt_calls (A : Option Addr) (cm : Nat) (m : List (List Int)) (x : Win) (i : Int) (w : World) (hr : Rd2 w w.heap.size A m) (hn : m.length ≤ maxLen) (hx : WArg x) :
    Calls Try.prog 101 #[.agg #[.slice A m.length cm], .agg #[.int .i64 x.arr, .int .i64 x.start, .int .i64 x.len, .int .i64 x.cap], .int .i64 i] w fun e w' => e = .returned (readV m x i) ∧ Below w.heap.size w w' := by
  obtain ⟨w0, hw0, hb0, hz0, hmw⟩ := enterMW A m.length cm x.arr x.start x.len x.cap w
  have HC := Lib.hid (areOne_calls A cm m x w0 ((hr.below hb0).more hb0.size) hn hx (w.heap.size + 1 + 1) (by omega))
  have HB := Lib.hid hb0
  have HR := Lib.hid hr
  have HW := Lib.hid hw0
  have HMW := Lib.hid hmw
  clear hr hb0 hmw hw0
  have hrb := run_win1
  go_enter Try.func101, Try.ntmps101
  go_wp2_with fail
  rw [HW.out]
  clear hrb
  refine HC.out.mono ?_
  rintro e w2 ⟨rfl, hb2⟩
  have HB2 := Lib.hid (HB.out.trans (hb2.mono HB.out.size))
  have hmw2 := HMW.out.below hb2
  have c1 := one_cell hmw2.mem
  obtain ⟨d0, d1, d2, d3⟩ := four_cells hmw2.win
  clear hb2 hmw2
  by_cases hm : WinOK m x
  · have hd : decide (WinOK m x) = true := decide_eq_true hm
    have HM := Lib.hid hm
    obtain ⟨n, s, l, c, rfl, hnl, hlc, hsc, h1, h64, h16⟩ := hm.nat
    clear hm
    dsimp only at *
    by_cases h0 : 0 ≤ i
    · by_cases h2 : i < l
      · obtain ⟨j, rfl⟩ : ∃ j : Nat, i = j := ⟨i.toNat, by omega⟩
        have hj : j < l := by omega
        have HV : Hid (readV m ⟨n, s, l, c⟩ j = .tuple #[.int .u8 m[n][s + j], .bool true]) := Lib.hid (by
          have e1 : ((s : Int) + (j : Int)).toNat = s + j := by omega
          rw [readV, if_pos ⟨HM.out, by omega, h2⟩]
          simp only [Int.toNat_natCast, e1, getD_eq hnl]
          rw [List.getD_eq_getElem?_getD, List.getElem?_eq_getElem (by omega)]; rfl)
        have HS := Lib.hid (seenR_calls A cm m n s l c w2 ((HR.out.below HB2.out).more HB2.out.size) hnl h16 hlc hsc h1 h64)
        go_wp2_with fail
        refine HS.out.mono ?_
        rintro e w3 ⟨⟨b, hb, hsp, rfl, hrd⟩, hb3⟩
        obtain ⟨bb, bo, bs⟩ := b
        obtain rfl : bs = none := hsp
        have hlen : (wb m n s l).length = l := wb_len hnl (by omega)
        obtain ⟨b2, off2, e2, hbb2, hc2⟩ := (hrd.below hb3).int (i := j) (by rw [hlen]; exact hj)
        injection e2 with e2; injection e2 with e2 e3; subst e2; subst e3
        rw [wb_get hnl _ (by omega)] at hc2
        have HB3 := Lib.hid (HB2.out.trans (hb3.mono HB2.out.size))
        clear hrd hb3
        generalize m[n][s + j] = q at *
        go_wp2_with fail
        go_ret2
        exact ⟨HV.out.symm ▸ rfl, HB3.out⟩
      · have HV : Hid (readV m ⟨n, s, l, c⟩ i = .tuple #[.int .u8 0, .bool false]) := Lib.hid (by rw [readV, if_neg (fun h => h2 h.2.2)])
        go_wp2_with fail
        go_ret2
        exact ⟨HV.out.symm ▸ rfl, HB2.out⟩
    · have HV : Hid (readV m ⟨n, s, l, c⟩ i = .tuple #[.int .u8 0, .bool false]) := Lib.hid (by rw [readV, if_neg (fun h => h0 h.2.1)])
      go_wp2_with fail
      go_ret2
      exact ⟨HV.out.symm ▸ rfl, HB2.out⟩
  · have hd : decide (WinOK m x) = false := decide_eq_false hm
    have HV : Hid (readV m x i = .tuple #[.int .u8 0, .bool false]) := Lib.hid (by rw [readV, if_neg (fun h => hm h.1)])
    clear hm
    go_wp2_with fail
    go_ret2
    exact ⟨HV.out.symm ▸ rfl, HB2.out⟩
end Go.Proofs.Ytlioamjmkaaooaa
