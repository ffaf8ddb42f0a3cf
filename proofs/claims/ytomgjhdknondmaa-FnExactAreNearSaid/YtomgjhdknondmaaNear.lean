/-
  AreNear of spec and impl.
-/
import Derived.Test.YtomgjhdknondmaaShare
import Derived.Deep.DeepCutAuto
import Derived.Test.YtomgjhdknondmaaBox
namespace Go.Proofs.Ytomgjhdknondmaa
open Go.RowKit

/-- A window that sees its room, too. -/
def fullW (x : Win) : Win := ⟨x.arr, x.start, x.cap, x.cap⟩
theorem Tame.full {x : Win} (h : Tame x) : Tame (fullW x) := ⟨h.s0, h.s1, h.c0, h.c1, h.c0, h.c1⟩
def nearV (m : List (List Int)) (x y : Win) : Value := if WinOK m x ∧ WinOK m y then .tuple #[.bool (decide (0 < ovl (fullW x) (fullW y))), .bool true] else .tuple #[.bool false, .bool false]

theorem set_two {w : World} {g : Nat} {u0 u1 u2 u3 v : Value} {t : TypeId} (h : w.heap[g]? = some (.cells #[u0, u1, u2, u3] t)) : (w.setCell ⟨g, 2, none⟩ v).heap[g]? = some (.cells #[u0, u1, v, u3] t) := by
  have h1 := heap_set_same w g 2 _ t v h (by simp)
  simpa using h1
theorem keep_one {w : World} {g k i : Nat} {o : Obj} {u : Value} (z : w.heap[g]? = some o) (hn : g ≠ k) : (w.setCell ⟨k, i, none⟩ u).heap[g]? = some o := (Below.heap_setCell w ⟨k, i, none⟩ u g hn).trans z
theorem set_two_a {w : World} {g k i : Nat} {u0 u1 u2 u3 v v2 : Value} {t : TypeId} (h : w.heap[g]? = some (.cells #[u0, u1, u2, u3] t)) (hn : g ≠ k) : ((w.setCell ⟨g, 2, none⟩ v).setCell ⟨k, i, none⟩ v2).heap[g]? = some (.cells #[u0, u1, v, u3] t) := keep_one (set_two h) hn
theorem set_two_b {w : World} {g k i : Nat} {u0 u1 u2 u3 v v2 : Value} {t : TypeId} (h : w.heap[g]? = some (.cells #[u0, u1, u2, u3] t)) (hn : g ≠ k) : ((w.setCell ⟨k, i, none⟩ v2).setCell ⟨g, 2, none⟩ v).heap[g]? = some (.cells #[u0, u1, v, u3] t) := set_two (keep_one h hn)

set_option maxRecDepth 100000 in
theorem specFull_calls (x : Win) (w : World) (hx : Tame x) :
    Calls Try.prog 82 #[.agg #[.int .i64 x.arr, .int .i64 x.start, .int .i64 x.len, .int .i64 x.cap]] w fun e w' => e = .returned (.agg #[.int .i64 (fullW x).arr, .int .i64 (fullW x).start, .int .i64 (fullW x).len, .int .i64 (fullW x).cap]) ∧ Below w.heap.size w w' := by
  obtain ⟨n, s, l, c⟩ := x
  obtain ⟨x1, x2, x3, x4, x5, x6⟩ := hx
  dsimp only [fullW] at *
  obtain ⟨g1, g2, g3, g4⟩ := enter2 w (.cells #[.int .i64 n, .int .i64 s, .int .i64 l, .int .i64 c] 28) (.cells #[.int .i64 0, .int .i64 0, .int .i64 0, .int .i64 0] 28)
  obtain ⟨w0, hw0⟩ : ∃ w0, (w.alloc (.cells #[.int .i64 n, .int .i64 s, .int .i64 l, .int .i64 c] 28)).alloc (.cells #[.int .i64 0, .int .i64 0, .int .i64 0, .int .i64 0] 28) = w0 := ⟨_, rfl⟩
  rw [hw0] at g1 g2 g3 g4
  have HB := Lib.hid g1
  have HW := Lib.hid hw0
  have HG := Lib.hid g3
  obtain ⟨d0, d1, d2, d3⟩ := four_cells g2
  have HC := Lib.hid (specSlice_calls n s l c 0 c c w0 (by omega) (by omega) (by omega) (by omega))
  rw [Int.add_zero, Int.sub_zero] at HC
  clear g1 g2 g3 g4 hw0
  go_enter Try.func82, Try.ntmps82
  go_wp2_with fail
  rw [HW.out]
  refine HC.out.mono ?_
  rintro e w2 ⟨rfl, hb2⟩
  have HB2 := Lib.hid (HB.out.trans (hb2.mono HB.out.size))
  have hg2 := (hb2.block _ (Array.getElem?_eq_some_iff.1 HG.out).1).trans HG.out
  obtain ⟨r0, r1, r2, r3⟩ := four_cells hg2
  obtain ⟨f0, f1, f2, f3⟩ := four_frozen hg2
  clear hb2 hg2 d0 d1 d2 d3
  go_wp2_with fail
  refine bodyPost_ret (v := .agg #[.int .i64 n, .int .i64 s, .int .i64 c, .int .i64 c]) (by simp [results, Try.results82, go_sem, r0, r1, r2, r3]) rfl ⟨rfl, by (repeat (first | (with_reducible exact Below.refl _ _) | (with_reducible refine Below.drew ?_) | ((with_reducible refine Below.alloc ?_ ?hB _); case hB => (first | (with_reducible exact Nat.le_refl _) | omega | (simp; done) | (simp; omega))) | ((with_reducible refine Below.setCell ?_ ?hB _); case hB => (first | (with_reducible exact Nat.le_refl _) | omega | (simp; done) | (simp; omega))))); exact HB2.out⟩

set_option maxRecDepth 100000 in
set_option maxHeartbeats 1600000 in
theorem specAreNear_calls (A : Option Addr) (cm : Nat) (m : List (List Int)) (x y : Win) (w : World) (hr : Rd2 w w.heap.size A m) (hn : m.length ≤ maxLen) :
    Calls Try.prog 22 #[.agg #[.slice A m.length cm], .agg #[.int .i64 x.arr, .int .i64 x.start, .int .i64 x.len, .int .i64 x.cap], .agg #[.int .i64 y.arr, .int .i64 y.start, .int .i64 y.len, .int .i64 y.cap]] w fun e w' => e = .returned (nearV m x y) ∧ Below w.heap.size w w' := by
  obtain ⟨w0, hw0, hb0, hz0, hmw⟩ := enterMW2 A m.length cm x y w
  have HC := Lib.hid (specBoth_calls A cm m x y w0 ((hr.below hb0).more hb0.size) hn)
  have HB := Lib.hid hb0
  have HW := Lib.hid hw0
  have HMW := Lib.hid hmw
  clear hr hb0 hmw hw0
  go_enter Try.func22, Try.ntmps22
  go_wp2_with fail
  rw [HW.out]
  refine HC.out.mono ?_
  rintro e w2 ⟨rfl, hb2⟩
  have HB2 := Lib.hid (HB.out.trans (hb2.mono HB.out.size))
  have hmw2 := HMW.out.below hb2
  have HMW2 := Lib.hid hmw2
  obtain ⟨d0, d1, d2, d3⟩ := four_cells hmw2.win
  obtain ⟨e0, e1, e2, e3⟩ := four_cells hmw2.win2
  clear hb2 hmw2
  by_cases hm : WinOK m x ∧ WinOK m y
  · rw [show decide (WinOK m x ∧ WinOK m y) = true from decide_eq_true hm]
    have HV := Lib.hid (show nearV m x y = .tuple #[.bool (decide (0 < ovl (fullW x) (fullW y))), .bool true] by rw [nearV, if_pos hm])
    have HF1 := Lib.hid (fun W => specFull_calls x W hm.1.tame)
    have HF2 := Lib.hid (fun W => specFull_calls y W hm.2.tame)
    have HS := Lib.hid (fun W => specOvl_calls (fullW x) (fullW y) W hm.1.tame.full hm.2.tame.full)
    have HA : Hid (∀ W, Below w2.heap.size w2 W → W.cell? ⟨w.heap.size + 1, 0, none⟩ = some (.int .i64 x.arr) ∧ W.cell? ⟨w.heap.size + 1, 1, none⟩ = some (.int .i64 x.start) ∧ W.cell? ⟨w.heap.size + 1, 2, none⟩ = some (.int .i64 x.len) ∧ W.cell? ⟨w.heap.size + 1, 3, none⟩ = some (.int .i64 x.cap) ∧ W.cell? ⟨w.heap.size + 1 + 1, 0, none⟩ = some (.int .i64 y.arr) ∧ W.cell? ⟨w.heap.size + 1 + 1, 1, none⟩ = some (.int .i64 y.start) ∧ W.cell? ⟨w.heap.size + 1 + 1, 2, none⟩ = some (.int .i64 y.len) ∧ W.cell? ⟨w.heap.size + 1 + 1, 3, none⟩ = some (.int .i64 y.cap)) := Lib.hid fun W hb => by
      have hk := HMW2.out.below hb
      obtain ⟨d0, d1, d2, d3⟩ := four_cells hk.win
      obtain ⟨e0, e1, e2, e3⟩ := four_cells hk.win2
      exact ⟨d0, d1, d2, d3, e0, e1, e2, e3⟩
    clear hm
    generalize ovl (fullW x) (fullW y) = q at *
    generalize fullW x = fx at *
    generalize fullW y = fy at *
    go_wp2_with fail
    go_region_held3 (fun W => W.cell? ⟨w.heap.size + 1, 0, none⟩ = some (.int .i64 x.arr) ∧ W.cell? ⟨w.heap.size + 1, 1, none⟩ = some (.int .i64 x.start) ∧ W.cell? ⟨w.heap.size + 1, 2, none⟩ = some (.int .i64 x.len) ∧ W.cell? ⟨w.heap.size + 1, 3, none⟩ = some (.int .i64 x.cap) ∧ W.cell? ⟨w.heap.size + 1 + 1, 0, none⟩ = some (.int .i64 y.arr) ∧ W.cell? ⟨w.heap.size + 1 + 1, 1, none⟩ = some (.int .i64 y.start) ∧ W.cell? ⟨w.heap.size + 1 + 1, 2, none⟩ = some (.int .i64 y.len) ∧ W.cell? ⟨w.heap.size + 1 + 1, 3, none⟩ = some (.int .i64 y.cap))
      (first | exact ⟨d0, d1, d2, d3, e0, e1, e2, e3⟩ | exact HA.out _ hc3 | exact HA.out _ hc4 | exact HA.out _ hc5)
      (first | (go_at_call 82; refine (HF1.out _).mono ?_; rintro e w3 ⟨rfl, hb3⟩; have hc3 : Below w2.heap.size w2 w3 := ⟨hb3.os, hb3.tape, hb3.output, hb3.size, hb3.block⟩) | (go_at_call 82; refine (HF2.out _).mono ?_; rintro e w4 ⟨rfl, hb4⟩; have hc4 : Below w2.heap.size w2 w4 := hc3.trans (hb4.mono hc3.size)) | (go_at_call 79; refine (HS.out _).mono ?_; rintro e w5 ⟨rfl, hb5⟩; have hc5 : Below w2.heap.size w2 w5 := hc4.trans (hb5.mono hc4.size)))
    have HB5 := Lib.hid (HB2.out.trans (hc5.mono HB2.out.size))
    clear hb3 hb4 hb5 hc3 hc4 hc5 d0 d1 d2 d3 e0 e1 e2 e3
    go_wp2_with fail
    go_ret2
    exact ⟨by rw [HV.out]; rfl, HB5.out⟩
  · rw [show decide (WinOK m x ∧ WinOK m y) = false from decide_eq_false hm]
    have HV := Lib.hid (show nearV m x y = .tuple #[.bool false, .bool false] by rw [nearV, if_neg hm])
    clear hm
    go_wp2_with fail
    go_ret2
    exact ⟨HV.out.symm ▸ rfl, HB2.out⟩

set_option maxRecDepth 100000 in
set_option maxHeartbeats 1600000 in
theorem implAreNear_calls (A : Option Addr) (cm : Nat) (m : List (List Int)) (x y : Win) (w : World) (hr : Rd2 w w.heap.size A m) (hn : m.length ≤ maxLen) (hx : WArg x) (hy : WArg y) :
    Calls Try.prog 21 #[.agg #[.slice A m.length cm], .agg #[.int .i64 x.arr, .int .i64 x.start, .int .i64 x.len, .int .i64 x.cap], .agg #[.int .i64 y.arr, .int .i64 y.start, .int .i64 y.len, .int .i64 y.cap]] w fun e w' => e = .returned (nearV m x y) ∧ Below w.heap.size w w' := by
  obtain ⟨w0, hw0, hb0, hz0, hmw⟩ := enterMW2 A m.length cm x y w
  have HC := Lib.hid (areTwo_calls A cm m x y w0 ((hr.below hb0).more hb0.size) hn hx hy (w.heap.size + 1 + 1 + 1) (by omega))
  have HB := Lib.hid hb0
  have HW := Lib.hid hw0
  have HMW := Lib.hid hmw
  have hrb := run_win2
  clear hr hb0 hmw hw0
  go_enter Try.func21, Try.ntmps21
  go_wp2_with fail
  rw [HW.out]
  clear hrb
  refine HC.out.mono ?_
  rintro e w2 ⟨rfl, hb2⟩
  have HB2 := Lib.hid (HB.out.trans (hb2.mono HB.out.size))
  have hmw2 := HMW.out.below hb2
  have HMW2 := Lib.hid hmw2
  obtain ⟨d0, d1, d2, d3⟩ := four_cells hmw2.win
  obtain ⟨e0, e1, e2, e3⟩ := four_cells hmw2.win2
  obtain ⟨f0, f1, f2, f3⟩ := four_frozen hmw2.win
  obtain ⟨k0, k1, k2, k3⟩ := four_frozen hmw2.win2
  clear hb2 hmw2
  by_cases hm : WinOK m x ∧ WinOK m y
  · rw [show decide (WinOK m x ∧ WinOK m y) = true from decide_eq_true hm]
    have HV := Lib.hid (show nearV m x y = .tuple #[.bool (decide (0 < ovl (fullW x) (fullW y))), .bool true] by rw [nearV, if_pos hm])
    have HS := Lib.hid (fun W => shares_calls (fullW x) (fullW y) W hm.1.tame.full hm.2.tame.full)
    clear hm
    unfold fullW at HS
    go_upto_region 3 with fail
    go_cut [] (fun wx => Below w.heap.size w wx ∧ wx.heap[w.heap.size + 1]? = some (.cells #[.int .i64 x.arr, .int .i64 x.start, .int .i64 x.cap, .int .i64 x.cap] 28) ∧ wx.heap[w.heap.size + 1 + 1]? = some (.cells #[.int .i64 y.arr, .int .i64 y.start, .int .i64 y.cap, .int .i64 y.cap] 28))
    case first =>
      go_region
      all_goals (try go_wp2_with fail)
      all_goals go_meet
      all_goals exact ⟨by (repeat (first | (with_reducible exact Below.refl _ _) | (with_reducible refine Below.drew ?_) | ((with_reducible refine Below.alloc ?_ ?hB _); case hB => (first | (with_reducible exact Nat.le_refl _) | omega | (simp; done) | (simp; omega))) | ((with_reducible refine Below.setCell ?_ ?hB _); case hB => (first | (with_reducible exact Nat.le_refl _) | omega | (simp; done) | (simp; omega))))); exact HB2.out, by first | exact set_two_a HMW2.out.win (by omega) | exact set_two_b HMW2.out.win (by omega), by first | exact set_two_a HMW2.out.win2 (by omega) | exact set_two_b HMW2.out.win2 (by omega)⟩
    case rest =>
      obtain ⟨hb3, g1, g2⟩ := hcut
      obtain ⟨w3, hw3⟩ : ∃ w3, w3 = wc := ⟨_, rfl⟩
      subst hw3
      have HB3 := Lib.hid hb3
      clear d0 d1 d2 d3 e0 e1 e2 e3 f0 f1 f2 f3 k0 k1 k2 k3
      obtain ⟨d0, d1, d2, d3⟩ := four_cells g1
      obtain ⟨e0, e1, e2, e3⟩ := four_cells g2
      clear hb3 g1 g2
      go_wp2_with fail
      refine (HS.out _).mono ?_
      rintro e w4 ⟨rfl, hb4⟩
      have HB4 := Lib.hid (HB3.out.trans (hb4.mono HB3.out.size))
      clear hb4
      go_wp2_with fail
      go_ret2
      exact ⟨by rw [HV.out]; rfl, HB4.out⟩
  · rw [show decide (WinOK m x ∧ WinOK m y) = false from decide_eq_false hm]
    have HV := Lib.hid (show nearV m x y = .tuple #[.bool false, .bool false] by rw [nearV, if_neg hm])
    clear hm
    go_wp2_with fail
    go_ret2
    exact ⟨HV.out.symm ▸ rfl, HB2.out⟩
end Go.Proofs.Ytomgjhdknondmaa
