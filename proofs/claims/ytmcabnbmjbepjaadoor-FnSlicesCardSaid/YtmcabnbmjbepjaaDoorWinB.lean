/-
  WindowBytes of spec and impl.
-/
import Derived.Test.YtmcabnbmjbepjaaDoorCopyM
import Derived.Test.YtmcabnbmjbepjaaDoorBytes
import Derived.Test.YtmcabnbmjbepjaaDoorBox2
namespace Go.Proofs.YtmcabnbmjbepjaaDoor
open Go.RowKit

/-- What WindowBytes answers. -/
def bytesR (m : List (List Int)) (x : Win) : List Int × Bool := if WinOK m x then (wb m x.arr.toNat x.start.toNat x.len.toNat, true) else ([], false)
theorem bytesR_small (m : List (List Int)) (x : Win) : (bytesR m x).1.length ≤ 2097152 := by
  unfold bytesR
  split
  · rename_i h
    obtain ⟨n, s, l, c, rfl, hnl, hlc, hsc, h1, h64, h16⟩ := h.nat
    simp only [Int.toNat_natCast]
    rw [wb_len hnl (by omega)]
    omega
  · simp
theorem clone_some (b off : Nat) (c : Nat) (zs : List Int) (w : World) {B : Nat} (hr : Rd w B (some ⟨b, off, none⟩) (intV .u8 zs)) (hn : zs.length ≤ 1000) :
    Calls Tryd.prog 31 #[.slice (some ⟨b, off, none⟩) zs.length c] w fun e w' => ∃ v, e = .returned v ∧ w'.ownsRow w.heap.size 5 1 v zs.length (intV .u8 zs) ∧ Below w.heap.size w w' := by
  refine (Tryd.bytes_Clone_at ⟨b, off, none⟩ zs.length c zs w rfl (by omega) (fun i hi => ?_)).mono ?_
  · obtain ⟨b2, off2, e2, hb2, hc2⟩ := hr.int (i := i) hi
    injection e2 with e2; injection e2 with e2 e3; subst e2; subst e3
    rw [List.getD_eq_getElem?_getD, List.getElem?_eq_getElem hi]
    rw [show (some zs[i]).getD 0 = zs[i] from rfl, ← hc2]
    simp [Addr.add]
    by_cases h0 : i = 0 <;> simp [h0]
  · rintro e w' ⟨v, rfl, ho, _, hbw⟩
    exact ⟨v, rfl, ho, hbw⟩

set_option maxRecDepth 100000 in
set_option maxHeartbeats 1600000 in
theorem implWindowBytes_calls (A : Option Addr) (cm : Nat) (m : List (List Int)) (x : Win) (w : World) (hr : Rd2 w w.heap.size A m) (hn : m.length ≤ maxLen) (hx : WArg x) :
    Calls Tryd.prog 15 #[.agg #[.slice A m.length cm], .agg #[.int .i64 x.arr, .int .i64 x.start, .int .i64 x.len, .int .i64 x.cap]] w fun e w' => ∃ v, e = .returned (.tuple #[v, .bool (bytesR m x).2]) ∧ w'.ownsRow w.heap.size 5 1 v (bytesR m x).1.length (intV .u8 (bytesR m x).1) ∧ Below w.heap.size w w' := by
  obtain ⟨w0, hw0, hb0, hz0, hmw⟩ := enterMW A m.length cm x.arr x.start x.len x.cap w
  have HC := Lib.hid (areOne_calls A cm m x w0 ((hr.below hb0).more hb0.size) hn hx (w.heap.size + 1 + 1) (by omega))
  have HB := Lib.hid hb0
  have HR := Lib.hid hr
  have HW := Lib.hid hw0
  have HMW := Lib.hid hmw
  have hrb := run_win1
  clear hr hb0 hmw hw0
  go_enter Tryd.func15, Tryd.ntmps15
  go_wp2_with fail
  rw [HW.out]
  clear hrb
  refine HC.out.mono ?_
  rintro e w2 ⟨rfl, hb2⟩
  have HB2 := Lib.hid (HB.out.trans (hb2.mono HB.out.size))
  have hmw2 := HMW.out.below hb2
  have c1 := one_cell hmw2.mem
  obtain ⟨d0, d1, d2, d3⟩ := four_cells hmw2.win
  clear hb2 hmw2
  by_cases hm : WinOK m x
  · have hd : decide (WinOK m x) = true := decide_eq_true hm
    obtain ⟨n, s, l, c, rfl, hnl, hlc, hsc, h1, h64, h16⟩ := hm.nat
    have HV : Hid (bytesR m ⟨n, s, l, c⟩ = (wb m n s l, true)) := Lib.hid (by rw [bytesR, if_pos hm]; simp only [Int.toNat_natCast])
    clear hm
    dsimp only at *
    have HS := Lib.hid (seenR_calls A cm m n s l c w2 ((HR.out.below HB2.out).more HB2.out.size) hnl h16 hlc hsc h1 h64)
    have HLEN := Lib.hid (show (wb m n s l).length = l from wb_len hnl (by omega))
    rw [hd]
    clear hd
    go_wp2_with fail
    refine HS.out.mono ?_
    rintro e w3 ⟨⟨⟨b3, o3, p3⟩, hbb, hsp, rfl, hrd⟩, hb3⟩
    obtain rfl : p3 = none := hsp
    have HB3 := Lib.hid (HB2.out.trans (hb3.mono HB2.out.size))
    have HCL : Hid (Calls Tryd.prog 31 #[.slice (some ⟨b3, o3, none⟩) l c] w3 fun e w' => ∃ v, e = .returned v ∧ w'.ownsRow w3.heap.size 5 1 v l (intV .u8 (wb m n s l)) ∧ Below w3.heap.size w3 w') := Lib.hid (by
      have h := clone_some b3 o3 c (wb m n s l) w3 (hrd.below hb3) (by rw [HLEN.out]; omega)
      rw [HLEN.out] at h
      exact h)
    clear hrd hb3
    go_wp2_with fail
    refine HCL.out.mono ?_
    rintro e w4 ⟨v, rfl, ho, hb4⟩
    obtain ⟨Av, cv, rfl⟩ := own_form ho
    have HO := Lib.hid ho
    have HB4 := Lib.hid (HB3.out.trans (hb4.mono HB3.out.size))
    have hl3 := HB3.out.size
    clear ho hb4
    go_wp2_with fail
    go_ret2
    exact ⟨_, by rw [HV.out]; rfl, by rw [HV.out]; simp only [HLEN.out]; exact (OwnR.mono (hi := w4.heap.size) ⟨by rw [intV_len, HLEN.out]; exact HO.out, fun g hg => (HO.out.lt g hg).2⟩ hl3 (Nat.le_refl _)).1 |> fun h => by rw [intV_len, HLEN.out] at h; exact h, HB4.out⟩
  · have hd : decide (WinOK m x) = false := decide_eq_false hm
    have HV : Hid (bytesR m x = ([], false)) := Lib.hid (by rw [bytesR, if_neg hm])
    clear hm
    have HO := Lib.hid (World.ownsRow_made (base := w.heap.size) (e := 5) (size := 1) w2 #[] 0 HB2.out.size (Nat.zero_le _) rfl)
    go_wp2_with fail
    go_ret2
    exact ⟨_, by rw [HV.out]; rfl, by rw [HV.out]; exact HO.out, by have hl := HB2.out.size; (repeat (first | (with_reducible exact Below.refl _ _) | (with_reducible refine Below.drew ?_) | ((with_reducible refine Below.alloc ?_ ?hB _); case hB => (first | (with_reducible exact Nat.le_refl _) | omega | (simp; done) | (simp; omega))) | ((with_reducible refine Below.setCell ?_ ?hB _); case hB => (first | (with_reducible exact Nat.le_refl _) | omega | (simp; done) | (simp; omega))))); exact HB2.out⟩

set_option maxRecDepth 100000 in
set_option maxHeartbeats 1600000 in
theorem specWindowBytes_calls (A : Option Addr) (cm : Nat) (m : List (List Int)) (x : Win) (w : World) (hr : Rd2 w w.heap.size A m) (hn : m.length ≤ maxLen) :
    Calls Tryd.prog 16 #[.agg #[.slice A m.length cm], .agg #[.int .i64 x.arr, .int .i64 x.start, .int .i64 x.len, .int .i64 x.cap]] w fun e w' => ∃ v, e = .returned (.tuple #[v, .bool (bytesR m x).2]) ∧ w'.ownsRow w.heap.size 5 1 v (bytesR m x).1.length (intV .u8 (bytesR m x).1) ∧ Below w.heap.size w w' := by
  obtain ⟨w0, hw0, hb0, hz0, hmw⟩ := enterMW A m.length cm x.arr x.start x.len x.cap w
  have HC := Lib.hid (specWindow_calls A cm m x w0 ((hr.below hb0).more hb0.size) hn)
  have HB := Lib.hid hb0
  have HR := Lib.hid hr
  have HW := Lib.hid hw0
  have HMW := Lib.hid hmw
  clear hr hb0 hmw hw0
  go_enter Tryd.func16, Tryd.ntmps16
  go_wp2_with fail
  rw [HW.out]
  refine HC.out.mono ?_
  rintro e w2 ⟨rfl, hb2⟩
  have HB2 := Lib.hid (HB.out.trans (hb2.mono HB.out.size))
  have hmw2 := HMW.out.below hb2
  have c1 := one_cell hmw2.mem
  obtain ⟨d0, d1, d2, d3⟩ := four_cells hmw2.win
  clear hb2 hmw2
  by_cases hm : WinOK m x
  · have hd : decide (WinOK m x) = true := decide_eq_true hm
    obtain ⟨n, s, l, c, rfl, hnl, hlc, hsc, h1, h64, h16⟩ := hm.nat
    have HV : Hid (bytesR m ⟨n, s, l, c⟩ = (wb m n s l, true)) := Lib.hid (by rw [bytesR, if_pos hm]; simp only [Int.toNat_natCast])
    clear hm
    dsimp only at *
    have HS := Lib.hid (specBytes_calls A cm m n s l c w2 ((HR.out.below HB2.out).more HB2.out.size) hnl h16 (by omega) h64)
    have HLEN := Lib.hid (show (wb m n s l).length = l from wb_len hnl (by omega))
    rw [hd]
    clear hd
    go_wp2_with fail
    refine HS.out.mono ?_
    rintro e w4 ⟨g4, cv, rfl, ho, hb4⟩
    have HO := Lib.hid ho
    have HB4 := Lib.hid (HB2.out.trans (hb4.mono HB2.out.size))
    have hl3 := HB2.out.size
    clear ho hb4
    go_wp2_with fail
    go_ret2
    exact ⟨_, by rw [HV.out]; rfl, by rw [HV.out]; simp only [HLEN.out]; exact (OwnR.mono (hi := w4.heap.size) ⟨by rw [intV_len, HLEN.out]; exact HO.out, fun g hg => (HO.out.lt g hg).2⟩ hl3 (Nat.le_refl _)).1 |> fun h => by rw [intV_len, HLEN.out] at h; exact h, HB4.out⟩
  · have hd : decide (WinOK m x) = false := decide_eq_false hm
    have HV : Hid (bytesR m x = ([], false)) := Lib.hid (by rw [bytesR, if_neg hm])
    clear hm
    have HO := Lib.hid (World.ownsRow_made (base := w.heap.size) (e := 5) (size := 1) w2 #[] 0 HB2.out.size (Nat.zero_le _) rfl)
    go_wp2_with fail
    go_ret2
    exact ⟨_, by rw [HV.out]; rfl, by rw [HV.out]; exact HO.out, by have hl := HB2.out.size; (repeat (first | (with_reducible exact Below.refl _ _) | (with_reducible refine Below.drew ?_) | ((with_reducible refine Below.alloc ?_ ?hB _); case hB => (first | (with_reducible exact Nat.le_refl _) | omega | (simp; done) | (simp; omega))) | ((with_reducible refine Below.setCell ?_ ?hB _); case hB => (first | (with_reducible exact Nat.le_refl _) | omega | (simp; done) | (simp; omega))))); exact HB2.out⟩
end Go.Proofs.YtmcabnbmjbepjaaDoor
