/-
  Windows that are answered: SliceTwo of spec and impl.
-/
import Derived.Test.YtadmllfcnjekcaaWin2
namespace Go.Proofs.Ytadmllfcnjekcaa
open Go.RowKit

set_option maxRecDepth 100000 in
set_option maxHeartbeats 800000 in
theorem implSliceTwo_calls (A : Option Addr) (cm : Nat) (m : List (List Int)) (x : Win) (i j : Int) (w : World) (hr : Rd2 w w.heap.size A m) (hn : m.length ≤ maxLen) (hx : WArg x) :
    Calls Try.prog 133 #[.agg #[.slice A m.length cm], .agg #[.int .i64 x.arr, .int .i64 x.start, .int .i64 x.len, .int .i64 x.cap], .int .i64 i, .int .i64 j] w fun e w' => e = .returned (sliceV m x i j x.cap) ∧ Below w.heap.size w w' := by
  obtain ⟨w0, hw0, hb0, hz0, hmw⟩ := enterMWR A m.length cm x.arr x.start x.len x.cap w
  have HC := Lib.hid (implSliceThree_calls A cm m x i j x.cap w0 ((hr.below hb0).more hb0.size) hn hx)
  have HB := Lib.hid hb0
  have HW := Lib.hid hw0
  have HMW := Lib.hid hmw
  obtain ⟨p0, p1, p2, p3, p4, hv⟩ : ∃ p0 p1 p2 p3 p4, sliceV m x i j x.cap = .tuple #[.agg #[.int .i64 p0, .int .i64 p1, .int .i64 p2, .int .i64 p3], .bool p4] := by
    unfold sliceV
    split
    · exact ⟨_, _, _, _, _, rfl⟩
    · exact ⟨_, _, _, _, _, rfl⟩
  rw [hv] at HC ⊢
  clear hr hb0 hmw hw0 hv
  go_enter Try.func133, Try.ntmps133
  go_wp2_with fail
  rw [HW.out]
  refine HC.out.mono ?_
  rintro e w2 ⟨rfl, hb2⟩
  have HB2 := Lib.hid (HB.out.trans (hb2.mono HB.out.size))
  have hmw2 := HMW.out.below hb2
  obtain ⟨r0, r1, r2, r3⟩ := four_cells hmw2.res
  obtain ⟨f0, f1, f2, f3⟩ := four_frozen hmw2.res
  clear hb2 hmw2
  go_wp2_with fail
  refine bodyPost_ret (v := .tuple #[.agg #[.int .i64 p0, .int .i64 p1, .int .i64 p2, .int .i64 p3], .bool p4]) (by simp [results, Try.results133, go_sem, r0, r1, r2, r3]) rfl ⟨rfl, by (repeat (first | (with_reducible exact Below.refl _ _) | (with_reducible refine Below.drew ?_) | ((with_reducible refine Below.alloc ?_ ?hB _); case hB => (first | (with_reducible exact Nat.le_refl _) | omega | (simp; done) | (simp; omega))) | ((with_reducible refine Below.setCell ?_ ?hB _); case hB => (first | (with_reducible exact Nat.le_refl _) | omega | (simp; done) | (simp; omega))))); exact HB2.out⟩

end Go.Proofs.Ytadmllfcnjekcaa
