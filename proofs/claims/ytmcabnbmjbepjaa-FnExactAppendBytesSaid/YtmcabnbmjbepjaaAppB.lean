/-
  AppendBytes of spec.
-/
import Derived.Test.YtmcabnbmjbepjaaAppW
namespace Go.Proofs.Ytmcabnbmjbepjaa
open Go.RowKit

set_option maxRecDepth 100000 in
set_option maxHeartbeats 6400000 in
theorem specAppendBytes_calls (A : Option Addr) (cm : Nat) (m : List (List Int)) (x : Win) (LA : Option Addr) (lc : Nat) (xs : List Int) (w : World) (hr : Rd2 w w.heap.size A m) (hn : m.length ≤ maxLen) (hxs : xs.length ≤ 2097152) (hxc : xs.length ≤ lc) (hlr : Rd w w.heap.size LA (intV .u8 xs)) :
    Calls Try.prog 13 #[.agg #[.slice A m.length cm], .agg #[.int .i64 x.arr, .int .i64 x.start, .int .i64 x.len, .int .i64 x.cap], .slice LA xs.length lc] w fun e w' => ∃ v, e = .returned (.tuple #[.agg #[v], .agg #[.int .i64 (appendR m x xs).2.1.arr, .int .i64 (appendR m x xs).2.1.start, .int .i64 (appendR m x xs).2.1.len, .int .i64 (appendR m x xs).2.1.cap], .bool (appendR m x xs).2.2]) ∧ OwnM w' w.heap.size w'.heap.size v (appendR m x xs).1 ∧ Below w.heap.size w w' := by
  obtain ⟨w0, hw0, hb0, hz0, hmw⟩ := enterMWMW A m.length cm x.arr x.start x.len x.cap w
  have HC := Lib.hid (specWindow_calls A cm m x w0 ((hr.below hb0).more hb0.size) hn)
  unfold Win.val at HC
  have HB := Lib.hid hb0
  have HR := Lib.hid hr
  have HLR := Lib.hid hlr
  have HW := Lib.hid hw0
  have HMW := Lib.hid hmw
  obtain ⟨t0, t1, t2, t3⟩ := four_cells hmw.mw.win
  have t4 := one_cell hmw.mw.mem
  clear hr hb0 hmw hw0 hlr
  go_enter Try.func13, Try.ntmps13
  go_wp2_with fail
  rw [HW.out]
  refine HC.out.mono ?_
  rintro e w2 ⟨rfl, hb2⟩
  have HB2 := Lib.hid (HB.out.trans (hb2.mono HB.out.size))
  have HMW2 := Lib.hid (HMW.out.below hb2)
  have hs02 := hb2.size
  have hs0 := HB.out.size
  clear hb2 t0 t1 t2 t3 t4
  by_cases hm : WinOK m x
  · rw [show decide (WinOK m x) = true from decide_eq_true hm]
    have HOK := Lib.hid hm.1
    obtain ⟨n, s, l, c, rfl, hnl, hlc, hsc, h1, h64, h16⟩ := hm.nat
    obtain ⟨R, p, b, hre⟩ : ∃ (R : List (List Int)) (p : Win) (b : Bool), appR m n s l c xs = (R, p, b) := ⟨_, _, _, rfl⟩
    have HRE2 := Lib.hid hre
    have HV : Hid (appendR m ⟨n, s, l, c⟩ xs = (R, p, b)) := Lib.hid (by rw [appendR, if_pos hm]; simp only [Int.toNat_natCast]; exact hre)
    clear hm hre
    dsimp only at *
    have HAB : Hid (∀ W, Below w2.heap.size w2 W → Calls Try.prog 113 #[.agg #[.slice A m.length cm], .agg #[.int .i64 n, .int .i64 s, .int .i64 l, .int .i64 c], .slice LA xs.length lc] W fun e w' => ∃ v, e = .returned (.tuple #[.agg #[v], .agg #[.int .i64 p.arr, .int .i64 p.start, .int .i64 p.len, .int .i64 p.cap], .bool b]) ∧ OwnM w' W.heap.size w'.heap.size v R ∧ Below W.heap.size W w') := Lib.hid fun W hb => by
      have h := specAppend_calls A cm m n s l c LA lc xs W ((HR.out.below (HB2.out.trans (hb.mono HB2.out.size))).more (Nat.le_trans HB2.out.size hb.size)) HOK.out hnl hlc hsc hxs hxc ((HLR.out.below (HB2.out.trans (hb.mono HB2.out.size))).more (Nat.le_trans HB2.out.size hb.size))
      rw [HRE2.out] at h
      exact h
    have HA2 : Hid (∀ W, Below w2.heap.size w2 W → W.cell? ⟨w.heap.size, 0, none⟩ = some (.slice A m.length cm) ∧ W.cell? ⟨w.heap.size + 1, 0, none⟩ = some (.int .i64 n) ∧ W.cell? ⟨w.heap.size + 1, 1, none⟩ = some (.int .i64 s) ∧ W.cell? ⟨w.heap.size + 1, 2, none⟩ = some (.int .i64 l) ∧ W.cell? ⟨w.heap.size + 1, 3, none⟩ = some (.int .i64 c)) := Lib.hid fun W hb => by
      have h := HMW2.out.below hb
      obtain ⟨d0, d1, d2, d3⟩ := four_cells h.mw.win
      exact ⟨one_cell h.mw.mem, d0, d1, d2, d3⟩
    obtain ⟨c1, d0, d1, d2, d3⟩ := HA2.out w2 (Below.refl _ _)
    have HABW := Lib.hid (HAB.out w2 (Below.refl _ _))
    go_wp2_with fail
    refine HABW.out.mono ?_
    rintro e w4 ⟨v, rfl, ho, hb4⟩
    obtain ⟨Av, cv, rfl, hcv⟩ := ho.form
    have HO4 := Lib.hid (show OwnM w4 w2.heap.size w4.heap.size (.slice Av R.length cv) R from ho)
    have HMW4 := Lib.hid (HMW2.out.below hb4)
    have HB4 := Lib.hid (HB2.out.trans (hb4.mono HB2.out.size))
    have r0 := one_cell HMW4.out.resM
    have rf := one_frozen HMW4.out.resM
    obtain ⟨q0, q1, q2, q3⟩ := four_cells HMW4.out.resW
    obtain ⟨f0, f1, f2, f3⟩ := oneM HMW4.out.resW
    have hs4 := hb4.size
    clear hb4 ho c1 d0 d1 d2 d3
    go_wp2_with fail
    refine bodyPost_ret (v := .tuple #[.agg #[.slice Av R.length cv], .agg #[.int .i64 p.arr, .int .i64 p.start, .int .i64 p.len, .int .i64 p.cap], .bool b]) (by simp [results, Try.results13, go_sem, r0, q0, q1, q2, q3]) rfl ⟨_, by rw [HV.out], ?_, by (repeat (first | (with_reducible exact Below.refl _ _) | (with_reducible refine Below.drew ?_) | ((with_reducible refine Below.alloc ?_ ?hB _); case hB => (first | (with_reducible exact Nat.le_refl _) | omega | (simp; done) | (simp; omega))) | ((with_reducible refine Below.setCell ?_ ?hB _); case hB => (first | (with_reducible exact Nat.le_refl _) | omega | (simp; done) | (simp; omega))))); exact HB4.out⟩
    rw [HV.out]
    with_reducible exact own_fin5c HO4.out (by omega) (by omega) (by omega)
  · rw [show decide (WinOK m x) = false from decide_eq_false hm]
    have HV : Hid (appendR m x xs = ([], ⟨0, 0, 0, 0⟩, false)) := Lib.hid (by rw [appendR, if_neg hm])
    have c1 := one_cell HMW2.out.mw.mem
    have r0 := one_cell HMW2.out.resM
    have rf := one_frozen HMW2.out.resM
    obtain ⟨q0, q1, q2, q3⟩ := four_cells HMW2.out.resW
    obtain ⟨f0, f1, f2, f3⟩ := oneM HMW2.out.resW
    clear hm
    go_wp2_with fail
    refine bodyPost_ret (v := .tuple #[.agg #[.slice none 0 0], .agg #[.int .i64 0, .int .i64 0, .int .i64 0, .int .i64 0], .bool false]) (by simp [results, Try.results13, go_sem, r0, q0, q1, q2, q3]) rfl ⟨_, by rw [HV.out], by rw [HV.out]; exact own_none _ _ _, by (repeat (first | (with_reducible exact Below.refl _ _) | (with_reducible refine Below.drew ?_) | ((with_reducible refine Below.alloc ?_ ?hB _); case hB => (first | (with_reducible exact Nat.le_refl _) | omega | (simp; done) | (simp; omega))) | ((with_reducible refine Below.setCell ?_ ?hB _); case hB => (first | (with_reducible exact Nat.le_refl _) | omega | (simp; done) | (simp; omega))))); exact HB2.out⟩
end Go.Proofs.Ytmcabnbmjbepjaa
