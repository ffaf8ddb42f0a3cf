/-
  TakeSnapshot: what it answers; l3Shot of spec.
-/
import Derived.Test.YtomgjhdknondmabChgM
import Derived.Test.YtomgjhdknondmabBytes
import Derived.Deep.RegionLaw
namespace Go.Proofs.Ytomgjhdknondmab
open Go.RowKit

/-- The array of a window in a snapshot. -/
def shotRow (m : List (List Int)) (x : Win) : List Int := if x.len = 0 then [0] else seenW m x
def snapR (m : List (List Int)) (L : List Win) : List (List Int) × Bool := if Watched m L then (L.map (shotRow m), true) else ([], false)
theorem shotRow_len {m : List (List Int)} {x : Win} (h : WinOK m x) : (shotRow m x).length = shotN x ∧ 1 ≤ (shotRow m x).length ∧ (shotRow m x).length ≤ 64 := by
  obtain ⟨n, s, l, c, rfl, hnl, hlc, hsc, h1, h64, h16⟩ := h.nat
  unfold shotRow shotN seenW
  simp only [Int.toNat_natCast]
  by_cases h0 : l = 0
  · subst h0; simp
  · rw [if_neg (by omega), wb_len hnl (by omega)]
    omega
theorem snapR_small (m : List (List Int)) (L : List Win) : Small (snapR m L).1 := by
  unfold snapR
  split
  · rename_i h
    refine ⟨by have := h.2.1; simp; omega, fun r hr => ?_⟩
    obtain ⟨x, hx, rfl⟩ := List.mem_map.1 hr
    exact (shotRow_len (h.2.2 x hx)).2.2
  · exact ⟨by simp, fun r hr => by simp at hr⟩

set_option maxRecDepth 100000 in
set_option maxHeartbeats 800000 in
theorem specShot_calls (A : Option Addr) (cm : Nat) (m : List (List Int)) (x : Win) (w : World) (hr : Rd2 w w.heap.size A m) (hx : WinOK m x) :
    Calls Try.prog 96 #[.agg #[.slice A m.length cm], .agg #[.int .i64 x.arr, .int .i64 x.start, .int .i64 x.len, .int .i64 x.cap]] w fun e w' => ∃ g cap, e = .returned (.slice (some ⟨g, 0, none⟩) (shotRow m x).length cap) ∧ w'.ownsRow w.heap.size 5 1 (.slice (some ⟨g, 0, none⟩) (shotRow m x).length cap) (shotRow m x).length (intV .u8 (shotRow m x)) ∧ Below w.heap.size w w' := by
  obtain ⟨n, s, l, c, rfl, hnl, hlc, hsc, h1, h64, h16⟩ := hx.nat
  dsimp only
  obtain ⟨w0, hw0, hb0, hz0, hmw⟩ := enterMW A m.length cm n s l c w
  have c1 := one_cell hmw.mem
  obtain ⟨d0, d1, d2, d3⟩ := four_cells hmw.win
  by_cases h0 : l = 0
  · have HV := Lib.hid (show shotRow m ⟨n, s, l, c⟩ = [0] by unfold shotRow; rw [if_pos (show (l : Int) = 0 by omega)])
    rw [HV.out]
    have hl0 : ((l : Int) == 0) = true := by simp [h0]
    have HB := Lib.hid hb0
    have HO : Hid ((w0.alloc (.cells #[.int .u8 0] 5)).ownsRow w.heap.size 5 1 (.slice (some ⟨w0.heap.size, 0, none⟩) 1 1) 1 [.int .u8 0]) := Lib.hid ⟨rfl, .inr ⟨w0.heap.size, 1, #[.int .u8 0], rfl, hb0.size, heap_alloc_new _ _, Nat.le_refl _, by simp only [maxLen]; omega, rfl, rfl⟩⟩
    have HW := Lib.hid hw0
    clear h0 hr hmw hb0 hz0 hw0 c1 d0 d1 d3
    go_enter Try.func96, Try.ntmps96
    go_upto_region 1 with fail
    rw [HW.out]
    go_wp2_with fail
    go_ret
    exact ⟨_, _, rfl, HO.out, by have hs := HB.out.size; (repeat (first | (with_reducible exact Below.refl _ _) | (with_reducible refine Below.drew ?_) | ((with_reducible refine Below.alloc ?_ ?hB _); case hB => (first | (with_reducible exact Nat.le_refl _) | omega | (simp; done) | (simp; omega))) | ((with_reducible refine Below.setCell ?_ ?hB _); case hB => (first | (with_reducible exact Nat.le_refl _) | omega | (simp; done) | (simp; omega))))); exact HB.out⟩
  · have HV := Lib.hid (show shotRow m ⟨n, s, l, c⟩ = wb m n s l by unfold shotRow seenW; rw [if_neg (show ¬ (l : Int) = 0 by omega)]; simp only [Int.toNat_natCast])
    have HLEN := Lib.hid (show (wb m n s l).length = l from wb_len hnl (by omega))
    rw [HV.out, HLEN.out]
    have hl0 : ((l : Int) == 0) = false := by simp [h0]
    have HS := Lib.hid (specBytes_calls A cm m n s l c w0 ((hr.below hb0).more hb0.size) hnl h16 (by omega) h64)
    have HB := Lib.hid hb0
    have HW := Lib.hid hw0
    clear h0 hr hmw hb0 hz0 hw0
    go_enter Try.func96, Try.ntmps96
    go_upto_region 1 with fail
    rw [HW.out]
    go_wp2_with fail
    refine HS.out.mono ?_
    rintro e w4 ⟨g4, cv, rfl, ho, hb4⟩
    have HO := Lib.hid (own_mono0 ho HB.out.size)
    have HB4 := Lib.hid (HB.out.trans (hb4.mono HB.out.size))
    clear ho hb4
    go_wp2_with fail
    go_ret
    exact ⟨_, _, rfl, HO.out, HB4.out⟩
end Go.Proofs.Ytomgjhdknondmab
