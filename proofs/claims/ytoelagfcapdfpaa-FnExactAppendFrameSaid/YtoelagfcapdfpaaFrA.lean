/-
  AppendFrame of both.
-/
import Derived.Test.YtoelagfcapdfpaaAppI
import Derived.Test.YtoelagfcapdfpaaFrE
namespace Go.Proofs.Ytoelagfcapdfpaa
open Go.RowKit

/-- What AppendFrame answers. -/
def appFrR (m : List (List Int)) (x : Win) (t : Int) (xs : List Int) : List (List Int) × Win × Bool := if 30 < xs.length then ([], ⟨0, 0, 0, 0⟩, false) else appendR m x (frameL t xs)
theorem appFrR_small (m : List (List Int)) (x : Win) (t : Int) (xs : List Int) : Small (appFrR m x t xs).1 := by
  unfold appFrR
  split
  · exact ⟨by simp, fun r hr => by simp at hr⟩
  · exact appendR_small m x _

set_option maxRecDepth 100000 in
set_option maxHeartbeats 6400000 in
theorem specAppendFrame_calls (A : Option Addr) (cm : Nat) (m : List (List Int)) (x : Win) (t : Int) (LA : Option Addr) (lc : Nat) (xs : List Int) (w : World) (hr : Rd2 w w.heap.size A m) (hn : m.length ≤ maxLen) (hxs : xs.length ≤ 1048576) (hA : LA = none → lc = 0) (hlr : Rd w w.heap.size LA (intV .u8 xs)) :
    Calls Try.prog 66 #[.agg #[.slice A m.length cm], .agg #[.int .i64 x.arr, .int .i64 x.start, .int .i64 x.len, .int .i64 x.cap], .int .u8 t, .slice LA xs.length lc] w fun e w' => ∃ v, e = .returned (.tuple #[.agg #[v], .agg #[.int .i64 (appFrR m x t xs).2.1.arr, .int .i64 (appFrR m x t xs).2.1.start, .int .i64 (appFrR m x t xs).2.1.len, .int .i64 (appFrR m x t xs).2.1.cap], .bool (appFrR m x t xs).2.2]) ∧ OwnM w' w.heap.size w'.heap.size v (appFrR m x t xs).1 ∧ Below w.heap.size w w' := by
  obtain ⟨w0, hw0, hb0, hz0, hmw⟩ := enterMWMW A m.length cm x.arr x.start x.len x.cap w
  have HEF := Lib.hid (specEncodeFrame_calls t LA lc xs w0 ((hlr.below hb0).more hb0.size) hA hxs)
  have HB := Lib.hid hb0
  have HR := Lib.hid hr
  have HW := Lib.hid hw0
  have HMW := Lib.hid hmw
  clear hr hb0 hmw hw0 hlr
  by_cases h30 : 30 < xs.length
  · have HV : Hid (appFrR m x t xs = ([], ⟨0, 0, 0, 0⟩, false)) := Lib.hid (by rw [appFrR, if_pos h30])
    have HE : Hid (encR t xs = ([], false)) := Lib.hid (by rw [encR, if_pos h30])
    rw [HE.out] at HEF
    clear h30
    go_enter Try.func66, Try.ntmps66
    go_wp2_with fail
    rw [HW.out]
    refine HEF.out.mono ?_
    rintro e w1 ⟨v, rfl, _, hb1⟩
    have HB2 := Lib.hid (HB.out.trans (hb1.mono HB.out.size))
    have HMW2 := Lib.hid (HMW.out.below hb1)
    have hs02 := hb1.size
    have c1 := one_cell HMW2.out.mw.mem
    have r0 := one_cell HMW2.out.resM
    have rf := one_frozen HMW2.out.resM
    obtain ⟨q0, q1, q2, q3⟩ := four_cells HMW2.out.resW
    obtain ⟨f0, f1, f2, f3⟩ := oneM HMW2.out.resW
    clear hb1
    go_wp2_with fail
    refine bodyPost_ret (v := .tuple #[.agg #[.slice none 0 0], .agg #[.int .i64 0, .int .i64 0, .int .i64 0, .int .i64 0], .bool false]) (by simp [results, Try.results66, go_sem, r0, q0, q1, q2, q3]) rfl ⟨_, by rw [HV.out], by rw [HV.out]; exact own_none _ _ _, by (repeat (first | (with_reducible exact Below.refl _ _) | (with_reducible refine Below.drew ?_) | ((with_reducible refine Below.alloc ?_ ?hB _); case hB => (first | (with_reducible exact Nat.le_refl _) | omega | (simp; done) | (simp; omega))) | ((with_reducible refine Below.setCell ?_ ?hB _); case hB => (first | (with_reducible exact Nat.le_refl _) | omega | (simp; done) | (simp; omega))))); exact HB2.out⟩
  · have HV : Hid (appFrR m x t xs = appendR m x (frameL t xs)) := Lib.hid (by rw [appFrR, if_neg h30])
    have HE : Hid (encR t xs = (frameL t xs, true)) := Lib.hid (by rw [encR, if_neg h30])
    have hfl := encR_small t xs
    rw [HE.out] at HEF hfl
    obtain ⟨F, hF⟩ : ∃ F, frameL t xs = F := ⟨_, rfl⟩
    rw [hF] at HEF HV hfl
    have hfl2 : F.length ≤ 33 := hfl
    clear h30 HE hF hfl hxs hA
    go_enter Try.func66, Try.ntmps66
    go_wp2_with fail
    rw [HW.out]
    refine HEF.out.mono ?_
    rintro e w1 ⟨vf, rfl, hof, hb1⟩
    obtain ⟨LF, kf, rfl⟩ := own_form hof
    have hkf : F.length ≤ kf := own_cap hof
    have HLR : Hid (Rd w1 w1.heap.size LF (intV .u8 F)) := Lib.hid (Rd.of_own hof)
    have HB1 := Lib.hid (HB.out.trans (hb1.mono HB.out.size))
    have HMW1 := Lib.hid (HMW.out.below hb1)
    have hs01 := hb1.size
    dsimp only
    clear hof hb1
    have HC := Lib.hid (specWindow_calls A cm m x w1 ((HR.out.below HB1.out).more HB1.out.size) hn)
    unfold Win.val at HC
    obtain ⟨t0, t1, t2, t3⟩ := four_cells HMW1.out.mw.win
    have t4 := one_cell HMW1.out.mw.mem
    go_wp2_with fail
    refine HC.out.mono ?_
    rintro e w2 ⟨rfl, hb2⟩
    have HB2 := Lib.hid (HB1.out.trans (hb2.mono HB1.out.size))
    have HMW2 := Lib.hid (HMW1.out.below hb2)
    replace HLR := Lib.hid ((HLR.out.below hb2).more hb2.size)
    have hs02 := Nat.le_trans hs01 hb2.size
    have hs0 := HB.out.size
    clear hb2 t0 t1 t2 t3 t4 HMW1 HB1
    by_cases hm : WinOK m x
    · rw [show decide (WinOK m x) = true from decide_eq_true hm]
      have HOK := Lib.hid hm.1
      obtain ⟨n, s, l, c, rfl, hnl, hlc, hsc, h1, h64, h16⟩ := hm.nat
      obtain ⟨R, p, b, hre⟩ : ∃ (R : List (List Int)) (p : Win) (b : Bool), appR m n s l c F = (R, p, b) := ⟨_, _, _, rfl⟩
      have HRE2 := Lib.hid hre
      have HV2 : Hid (appFrR m ⟨n, s, l, c⟩ t xs = (R, p, b)) := Lib.hid (by rw [HV.out, appendR, if_pos hm]; simp only [Int.toNat_natCast]; exact hre)
      clear hm hre
      dsimp only at *
      have HABW : Hid (Calls Try.prog 100 #[.agg #[.slice A m.length cm], .agg #[.int .i64 n, .int .i64 s, .int .i64 l, .int .i64 c], .slice LF F.length kf] w2 fun e w' => ∃ v, e = .returned (.tuple #[.agg #[v], .agg #[.int .i64 p.arr, .int .i64 p.start, .int .i64 p.len, .int .i64 p.cap], .bool b]) ∧ OwnM w' w2.heap.size w'.heap.size v R ∧ Below w2.heap.size w2 w') := Lib.hid (by
        have h := specAppend_calls A cm m n s l c LF kf F w2 ((HR.out.below HB2.out).more HB2.out.size) HOK.out hnl hlc hsc (by omega) hkf HLR.out
        rw [HRE2.out] at h
        exact h)
      obtain ⟨d0, d1, d2, d3⟩ := four_cells HMW2.out.mw.win
      have c1 := one_cell HMW2.out.mw.mem
      go_wp2_with fail
      refine HABW.out.mono ?_
      rintro e w4 ⟨v, rfl, ho, hb4⟩
      obtain ⟨Av, cv, rfl, hcv⟩ := ho.form
      have HO4 := Lib.hid (show OwnM w4 w2.heap.size w4.heap.size (.slice Av R.length cv) R from ho)
      have HMW4 := Lib.hid (HMW2.out.below hb4)
      have HB4 := Lib.hid (HB2.out.trans (hb4.mono HB2.out.size))
      have r0 := one_cell HMW4.out.resM
      have rf := one_frozen HMW4.out.resM
      obtain ⟨q0, q1, q2, q3⟩ := four_cells HMW4.out.resW
      obtain ⟨f0, f1, f2, f3⟩ := oneM HMW4.out.resW
      have hs4 := hb4.size
      clear hb4 ho c1 d0 d1 d2 d3
      go_wp2_with fail
      refine bodyPost_ret (v := .tuple #[.agg #[.slice Av R.length cv], .agg #[.int .i64 p.arr, .int .i64 p.start, .int .i64 p.len, .int .i64 p.cap], .bool b]) (by simp [results, Try.results66, go_sem, r0, q0, q1, q2, q3]) rfl ⟨_, by rw [HV2.out], ?_, by (repeat (first | (with_reducible exact Below.refl _ _) | (with_reducible refine Below.drew ?_) | ((with_reducible refine Below.alloc ?_ ?hB _); case hB => (first | (with_reducible exact Nat.le_refl _) | omega | (simp; done) | (simp; omega))) | ((with_reducible refine Below.setCell ?_ ?hB _); case hB => (first | (with_reducible exact Nat.le_refl _) | omega | (simp; done) | (simp; omega))))); exact HB4.out⟩
      rw [HV2.out]
      with_reducible exact own_fin5c HO4.out (by omega) (by omega) (by omega)
    · rw [show decide (WinOK m x) = false from decide_eq_false hm]
      have HV2 : Hid (appFrR m x t xs = ([], ⟨0, 0, 0, 0⟩, false)) := Lib.hid (by rw [HV.out, appendR, if_neg hm])
      have c1 := one_cell HMW2.out.mw.mem
      have r0 := one_cell HMW2.out.resM
      have rf := one_frozen HMW2.out.resM
      obtain ⟨q0, q1, q2, q3⟩ := four_cells HMW2.out.resW
      obtain ⟨f0, f1, f2, f3⟩ := oneM HMW2.out.resW
      clear hm
      go_wp2_with fail
      refine bodyPost_ret (v := .tuple #[.agg #[.slice none 0 0], .agg #[.int .i64 0, .int .i64 0, .int .i64 0, .int .i64 0], .bool false]) (by simp [results, Try.results66, go_sem, r0, q0, q1, q2, q3]) rfl ⟨_, by rw [HV2.out], by rw [HV2.out]; exact own_none _ _ _, by (repeat (first | (with_reducible exact Below.refl _ _) | (with_reducible refine Below.drew ?_) | ((with_reducible refine Below.alloc ?_ ?hB _); case hB => (first | (with_reducible exact Nat.le_refl _) | omega | (simp; done) | (simp; omega))) | ((with_reducible refine Below.setCell ?_ ?hB _); case hB => (first | (with_reducible exact Nat.le_refl _) | omega | (simp; done) | (simp; omega))))); exact HB2.out⟩

set_option maxRecDepth 100000 in
set_option maxHeartbeats 6400000 in
theorem implAppendFrame_calls (A : Option Addr) (cm : Nat) (m : List (List Int)) (x : Win) (t : Int) (LA : Option Addr) (lc : Nat) (xs : List Int) (w : World) (hr : Rd2 w w.heap.size A m) (hn : m.length ≤ maxLen) (hx : WArg x) (hxs : xs.length ≤ 1048576) (hA : LA = none → lc = 0) (hlr : Rd w w.heap.size LA (intV .u8 xs)) :
    Calls Try.prog 67 #[.agg #[.slice A m.length cm], .agg #[.int .i64 x.arr, .int .i64 x.start, .int .i64 x.len, .int .i64 x.cap], .int .u8 t, .slice LA xs.length lc] w fun e w' => ∃ v, e = .returned (.tuple #[.agg #[v], .agg #[.int .i64 (appFrR m x t xs).2.1.arr, .int .i64 (appFrR m x t xs).2.1.start, .int .i64 (appFrR m x t xs).2.1.len, .int .i64 (appFrR m x t xs).2.1.cap], .bool (appFrR m x t xs).2.2]) ∧ OwnM w' w.heap.size w'.heap.size v (appFrR m x t xs).1 ∧ Below w.heap.size w w' := by
  obtain ⟨w0, hw0, hb0, hz0, hmw⟩ := enterMWMW A m.length cm x.arr x.start x.len x.cap w
  have HEF := Lib.hid (implEncodeFrame_calls t LA lc xs w0 ((hlr.below hb0).more hb0.size) hA hxs)
  have HB := Lib.hid hb0
  have HR := Lib.hid hr
  have HW := Lib.hid hw0
  have HMW := Lib.hid hmw
  clear hr hb0 hmw hw0 hlr
  by_cases h30 : 30 < xs.length
  · have HV : Hid (appFrR m x t xs = ([], ⟨0, 0, 0, 0⟩, false)) := Lib.hid (by rw [appFrR, if_pos h30])
    have HE : Hid (encR t xs = ([], false)) := Lib.hid (by rw [encR, if_pos h30])
    rw [HE.out] at HEF
    clear h30
    go_enter Try.func67, Try.ntmps67
    go_wp2_with fail
    rw [HW.out]
    refine HEF.out.mono ?_
    rintro e w1 ⟨v, rfl, _, hb1⟩
    have HB2 := Lib.hid (HB.out.trans (hb1.mono HB.out.size))
    have HMW2 := Lib.hid (HMW.out.below hb1)
    have hs02 := hb1.size
    have c1 := one_cell HMW2.out.mw.mem
    have r0 := one_cell HMW2.out.resM
    have rf := one_frozen HMW2.out.resM
    obtain ⟨q0, q1, q2, q3⟩ := four_cells HMW2.out.resW
    obtain ⟨f0, f1, f2, f3⟩ := oneM HMW2.out.resW
    clear hb1
    go_wp2_with fail
    refine bodyPost_ret (v := .tuple #[.agg #[.slice none 0 0], .agg #[.int .i64 0, .int .i64 0, .int .i64 0, .int .i64 0], .bool false]) (by simp [results, Try.results67, go_sem, r0, q0, q1, q2, q3]) rfl ⟨_, by rw [HV.out], by rw [HV.out]; exact own_none _ _ _, by (repeat (first | (with_reducible exact Below.refl _ _) | (with_reducible refine Below.drew ?_) | ((with_reducible refine Below.alloc ?_ ?hB _); case hB => (first | (with_reducible exact Nat.le_refl _) | omega | (simp; done) | (simp; omega))) | ((with_reducible refine Below.setCell ?_ ?hB _); case hB => (first | (with_reducible exact Nat.le_refl _) | omega | (simp; done) | (simp; omega))))); exact HB2.out⟩
  · have HV : Hid (appFrR m x t xs = appendR m x (frameL t xs)) := Lib.hid (by rw [appFrR, if_neg h30])
    have HE : Hid (encR t xs = (frameL t xs, true)) := Lib.hid (by rw [encR, if_neg h30])
    have hfl := encR_small t xs
    rw [HE.out] at HEF hfl
    obtain ⟨F, hF⟩ : ∃ F, frameL t xs = F := ⟨_, rfl⟩
    rw [hF] at HEF HV hfl
    have hfl2 : F.length ≤ 33 := hfl
    clear h30 HE hF hfl hxs hA
    go_enter Try.func67, Try.ntmps67
    go_wp2_with fail
    rw [HW.out]
    refine HEF.out.mono ?_
    rintro e w1 ⟨vf, rfl, hof, hb1⟩
    obtain ⟨LF, kf, rfl⟩ := own_form hof
    have hkf : F.length ≤ kf := own_cap hof
    have HLR : Hid (Rd w1 w1.heap.size LF (intV .u8 F)) := Lib.hid (Rd.of_own hof)
    have HB1 := Lib.hid (HB.out.trans (hb1.mono HB.out.size))
    have HMW1 := Lib.hid (HMW.out.below hb1)
    have hs01 := hb1.size
    dsimp only
    clear hof hb1
    obtain ⟨R, p, b, hre⟩ : ∃ (R : List (List Int)) (p : Win) (b : Bool), appendR m x F = (R, p, b) := ⟨_, _, _, rfl⟩
    have HV2 : Hid (appFrR m x t xs = (R, p, b)) := Lib.hid (by rw [HV.out, hre])
    have HABW := Lib.hid (implAppendBytes_calls A cm m x LF kf F w1 ((HR.out.below HB1.out).more HB1.out.size) hn hx (by omega) HLR.out)
    rw [hre] at HABW
    clear hre hx
    obtain ⟨d0, d1, d2, d3⟩ := four_cells HMW1.out.mw.win
    have c1 := one_cell HMW1.out.mw.mem
    have hs0 := HB.out.size
    go_wp2_with fail
    refine HABW.out.mono ?_
    rintro e w4 ⟨v, rfl, ho, hb4⟩
    obtain ⟨Av, cv, rfl, hcv⟩ := ho.form
    have HO4 := Lib.hid (show OwnM w4 w1.heap.size w4.heap.size (.slice Av R.length cv) R from ho)
    have HMW4 := Lib.hid (HMW1.out.below hb4)
    have HB4 := Lib.hid (HB1.out.trans (hb4.mono HB1.out.size))
    have r0 := one_cell HMW4.out.resM
    have rf := one_frozen HMW4.out.resM
    obtain ⟨q0, q1, q2, q3⟩ := four_cells HMW4.out.resW
    obtain ⟨f0, f1, f2, f3⟩ := oneM HMW4.out.resW
    have hs4 := hb4.size
    clear hb4 ho c1 d0 d1 d2 d3
    dsimp only
    go_wp2_with fail
    refine bodyPost_ret (v := .tuple #[.agg #[.slice Av R.length cv], .agg #[.int .i64 p.arr, .int .i64 p.start, .int .i64 p.len, .int .i64 p.cap], .bool b]) (by simp [results, Try.results67, go_sem, r0, q0, q1, q2, q3]) rfl ⟨_, by rw [HV2.out], ?_, by (repeat (first | (with_reducible exact Below.refl _ _) | (with_reducible refine Below.drew ?_) | ((with_reducible refine Below.alloc ?_ ?hB _); case hB => (first | (with_reducible exact Nat.le_refl _) | omega | (simp; done) | (simp; omega))) | ((with_reducible refine Below.setCell ?_ ?hB _); case hB => (first | (with_reducible exact Nat.le_refl _) | omega | (simp; done) | (simp; omega))))); exact HB4.out⟩
    rw [HV2.out]
    with_reducible exact own_fin5c HO4.out (by omega) (by omega) (by omega)

end Go.Proofs.Ytoelagfcapdfpaa
