/-
  DoShare, CommonPlaces and AreWatched of spec and impl.
-/
import Derived.Test.YtomgjhdknondmaaOvl2
import Derived.Test.YtomgjhdknondmaaWatch
namespace Go.Proofs.Ytomgjhdknondmaa
open Go.RowKit

def shareV (m : List (List Int)) (x y : Win) : Value := if WinOK m x ∧ WinOK m y then .tuple #[.bool (decide (0 < ovl x y)), .bool true] else .tuple #[.bool false, .bool false]
def commonV (m : List (List Int)) (x y : Win) : Value :=
  if WinOK m x ∧ WinOK m y then (if ovl x y = 0 then .tuple #[.int .i64 0, .int .i64 (-1), .bool true] else .tuple #[.int .i64 (ovl x y), .int .i64 (max x.start y.start), .bool true]) else .tuple #[.int .i64 0, .int .i64 0, .bool false]
def watchedV (m : List (List Int)) (L : List Win) : Value := if MemOK m then .tuple #[.bool (decide (Watched m L)), .bool true] else .tuple #[.bool false, .bool false]

set_option maxRecDepth 100000 in
theorem implDoShare_calls (A : Option Addr) (cm : Nat) (m : List (List Int)) (x y : Win) (w : World) (hr : Rd2 w w.heap.size A m) (hn : m.length ≤ maxLen) (hx : WArg x) (hy : WArg y) :
    Calls Try.prog 19 #[.agg #[.slice A m.length cm], .agg #[.int .i64 x.arr, .int .i64 x.start, .int .i64 x.len, .int .i64 x.cap], .agg #[.int .i64 y.arr, .int .i64 y.start, .int .i64 y.len, .int .i64 y.cap]] w fun e w' => e = .returned (shareV m x y) ∧ Below w.heap.size w w' := by
  obtain ⟨w0, hw0, hb0, hz0, hmw⟩ := enterMW2 A m.length cm x y w
  have HC := Lib.hid (areTwo_calls A cm m x y w0 ((hr.below hb0).more hb0.size) hn hx hy (w.heap.size + 1 + 1 + 1) (by omega))
  have HB := Lib.hid hb0
  have HW := Lib.hid hw0
  have HMW := Lib.hid hmw
  have hrb := run_win2
  clear hr hb0 hmw hw0
  go_enter Try.func19, Try.ntmps19
  go_wp2_with fail
  rw [HW.out]
  clear hrb
  refine HC.out.mono ?_
  rintro e w2 ⟨rfl, hb2⟩
  have HB2 := Lib.hid (HB.out.trans (hb2.mono HB.out.size))
  have hmw2 := HMW.out.below hb2
  obtain ⟨d0, d1, d2, d3⟩ := four_cells hmw2.win
  obtain ⟨e0, e1, e2, e3⟩ := four_cells hmw2.win2
  clear hb2 hmw2
  by_cases hm : WinOK m x ∧ WinOK m y
  · rw [show decide (WinOK m x ∧ WinOK m y) = true from decide_eq_true hm]
    have HV := Lib.hid (show shareV m x y = .tuple #[.bool (decide (0 < ovl x y)), .bool true] by rw [shareV, if_pos hm])
    have HS := Lib.hid (shares_calls x y w2 hm.1.tame hm.2.tame)
    clear hm
    go_wp2_with fail
    refine HS.out.mono ?_
    rintro e w3 ⟨rfl, hb3⟩
    have HB3 := Lib.hid (HB2.out.trans (hb3.mono HB2.out.size))
    clear hb3
    go_wp2_with fail
    go_ret2
    exact ⟨by rw [HV.out]; rfl, HB3.out⟩
  · rw [show decide (WinOK m x ∧ WinOK m y) = false from decide_eq_false hm]
    have HV := Lib.hid (show shareV m x y = .tuple #[.bool false, .bool false] by rw [shareV, if_neg hm])
    clear hm
    go_wp2_with fail
    go_ret2
    exact ⟨HV.out.symm ▸ rfl, HB2.out⟩

set_option maxRecDepth 100000 in
theorem specDoShare_calls (A : Option Addr) (cm : Nat) (m : List (List Int)) (x y : Win) (w : World) (hr : Rd2 w w.heap.size A m) (hn : m.length ≤ maxLen) :
    Calls Try.prog 20 #[.agg #[.slice A m.length cm], .agg #[.int .i64 x.arr, .int .i64 x.start, .int .i64 x.len, .int .i64 x.cap], .agg #[.int .i64 y.arr, .int .i64 y.start, .int .i64 y.len, .int .i64 y.cap]] w fun e w' => e = .returned (shareV m x y) ∧ Below w.heap.size w w' := by
  obtain ⟨w0, hw0, hb0, hz0, hmw⟩ := enterMW2 A m.length cm x y w
  have HC := Lib.hid (specBoth_calls A cm m x y w0 ((hr.below hb0).more hb0.size) hn)
  have HB := Lib.hid hb0
  have HW := Lib.hid hw0
  have HMW := Lib.hid hmw
  clear hr hb0 hmw hw0
  go_enter Try.func20, Try.ntmps20
  go_wp2_with fail
  rw [HW.out]
  refine HC.out.mono ?_
  rintro e w2 ⟨rfl, hb2⟩
  have HB2 := Lib.hid (HB.out.trans (hb2.mono HB.out.size))
  have hmw2 := HMW.out.below hb2
  obtain ⟨d0, d1, d2, d3⟩ := four_cells hmw2.win
  obtain ⟨e0, e1, e2, e3⟩ := four_cells hmw2.win2
  clear hb2 hmw2
  by_cases hm : WinOK m x ∧ WinOK m y
  · rw [show decide (WinOK m x ∧ WinOK m y) = true from decide_eq_true hm]
    have HV := Lib.hid (show shareV m x y = .tuple #[.bool (decide (0 < ovl x y)), .bool true] by rw [shareV, if_pos hm])
    have HS := Lib.hid (specOvl_calls x y w2 hm.1.tame hm.2.tame)
    clear hm
    generalize ovl x y = q at *
    go_wp2_with fail
    refine HS.out.mono ?_
    rintro e w3 ⟨rfl, hb3⟩
    have HB3 := Lib.hid (HB2.out.trans (hb3.mono HB2.out.size))
    clear hb3
    go_wp2_with fail
    go_ret2
    exact ⟨by rw [HV.out]; rfl, HB3.out⟩
  · rw [show decide (WinOK m x ∧ WinOK m y) = false from decide_eq_false hm]
    have HV := Lib.hid (show shareV m x y = .tuple #[.bool false, .bool false] by rw [shareV, if_neg hm])
    clear hm
    go_wp2_with fail
    go_ret2
    exact ⟨HV.out.symm ▸ rfl, HB2.out⟩

set_option maxRecDepth 100000 in
theorem specCommonPlaces_calls (A : Option Addr) (cm : Nat) (m : List (List Int)) (x y : Win) (w : World) (hr : Rd2 w w.heap.size A m) (hn : m.length ≤ maxLen) :
    Calls Try.prog 18 #[.agg #[.slice A m.length cm], .agg #[.int .i64 x.arr, .int .i64 x.start, .int .i64 x.len, .int .i64 x.cap], .agg #[.int .i64 y.arr, .int .i64 y.start, .int .i64 y.len, .int .i64 y.cap]] w fun e w' => e = .returned (commonV m x y) ∧ Below w.heap.size w w' := by
  obtain ⟨w0, hw0, hb0, hz0, hmw⟩ := enterMW2 A m.length cm x y w
  have HC := Lib.hid (specBoth_calls A cm m x y w0 ((hr.below hb0).more hb0.size) hn)
  have HB := Lib.hid hb0
  have HW := Lib.hid hw0
  have HMW := Lib.hid hmw
  clear hr hb0 hmw hw0
  go_enter Try.func18, Try.ntmps18
  go_wp2_with fail
  rw [HW.out]
  refine HC.out.mono ?_
  rintro e w2 ⟨rfl, hb2⟩
  have HB2 := Lib.hid (HB.out.trans (hb2.mono HB.out.size))
  have hmw2 := HMW.out.below hb2
  have HMW2 := Lib.hid hmw2
  obtain ⟨d0, d1, d2, d3⟩ := four_cells hmw2.win
  obtain ⟨e0, e1, e2, e3⟩ := four_cells hmw2.win2
  clear hb2 hmw2
  by_cases hm : WinOK m x ∧ WinOK m y
  · rw [show decide (WinOK m x ∧ WinOK m y) = true from decide_eq_true hm]
    have HS := Lib.hid (specOvl_calls x y w2 hm.1.tame hm.2.tame)
    by_cases h0 : ovl x y = 0
    · have HV := Lib.hid (show commonV m x y = .tuple #[.int .i64 0, .int .i64 (-1), .bool true] by rw [commonV, if_pos hm, if_pos h0])
      rw [h0] at HS
      clear hm h0
      go_wp2_with fail
      refine HS.out.mono ?_
      rintro e w3 ⟨rfl, hb3⟩
      have HB3 := Lib.hid (HB2.out.trans (hb3.mono HB2.out.size))
      clear hb3
      go_wp2_with fail
      refine bodyPost_ret (v := .tuple #[.int .i64 0, .int .i64 (-1), .bool true]) (by simp [results, Try.results18, go_sem]) rfl ⟨by rw [HV.out], HB3.out⟩
    · have HV := Lib.hid (show commonV m x y = .tuple #[.int .i64 (ovl x y), .int .i64 (max x.start y.start), .bool true] by rw [commonV, if_pos hm, if_neg h0])
      have hb : (ovl x y == 0) = false := by simp [h0]
      have HM := Lib.hid (fun W => specMost_calls x.start y.start W)
      rw [show (if y.start < x.start then x.start else y.start) = max x.start y.start by split <;> omega] at HM
      clear hm h0
      generalize ovl x y = q at *
      generalize max x.start y.start = q2 at *
      go_wp2_with fail
      refine HS.out.mono ?_
      rintro e w3 ⟨rfl, hb3⟩
      have HB3 := Lib.hid (HB2.out.trans (hb3.mono HB2.out.size))
      have hmw3 := HMW2.out.below hb3
      clear d0 d1 d2 d3 e0 e1 e2 e3
      obtain ⟨d0, d1, d2, d3⟩ := four_cells hmw3.win
      obtain ⟨e0, e1, e2, e3⟩ := four_cells hmw3.win2
      clear hb3 hmw3
      go_wp2_with fail
      refine (HM.out _).mono ?_
      rintro e w4 ⟨rfl, rfl⟩
      go_wp2_with fail
      refine bodyPost_ret (v := .tuple #[.int .i64 q, .int .i64 q2, .bool true]) (by simp [results, Try.results18, go_sem]) rfl ⟨by rw [HV.out], HB3.out⟩
  · rw [show decide (WinOK m x ∧ WinOK m y) = false from decide_eq_false hm]
    have HV := Lib.hid (show commonV m x y = .tuple #[.int .i64 0, .int .i64 0, .bool false] by rw [commonV, if_neg hm])
    clear hm
    go_wp2_with fail
    refine bodyPost_ret (v := .tuple #[.int .i64 0, .int .i64 0, .bool false]) (by simp [results, Try.results18, go_sem]) rfl ⟨by rw [HV.out], HB2.out⟩

set_option maxRecDepth 100000 in
set_option maxHeartbeats 800000 in
theorem implCommonPlaces_calls (A : Option Addr) (cm : Nat) (m : List (List Int)) (x y : Win) (w : World) (hr : Rd2 w w.heap.size A m) (hn : m.length ≤ maxLen) (hx : WArg x) (hy : WArg y) :
    Calls Try.prog 17 #[.agg #[.slice A m.length cm], .agg #[.int .i64 x.arr, .int .i64 x.start, .int .i64 x.len, .int .i64 x.cap], .agg #[.int .i64 y.arr, .int .i64 y.start, .int .i64 y.len, .int .i64 y.cap]] w fun e w' => e = .returned (commonV m x y) ∧ Below w.heap.size w w' := by
  obtain ⟨w0, hw0, hb0, hz0, hmw⟩ := enterMW2 A m.length cm x y w
  have HC := Lib.hid (areTwo_calls A cm m x y w0 ((hr.below hb0).more hb0.size) hn hx hy (w.heap.size + 1 + 1 + 1) (by omega))
  have HB := Lib.hid hb0
  have HW := Lib.hid hw0
  have HMW := Lib.hid hmw
  have hrb := run_win2
  clear hr hb0 hmw hw0
  go_enter Try.func17, Try.ntmps17
  go_wp2_with fail
  rw [HW.out]
  clear hrb
  refine HC.out.mono ?_
  rintro e w2 ⟨rfl, hb2⟩
  have HB2 := Lib.hid (HB.out.trans (hb2.mono HB.out.size))
  have hmw2 := HMW.out.below hb2
  obtain ⟨d0, d1, d2, d3⟩ := four_cells hmw2.win
  obtain ⟨e0, e1, e2, e3⟩ := four_cells hmw2.win2
  clear hb2 hmw2
  by_cases hm : WinOK m x ∧ WinOK m y
  · rw [show decide (WinOK m x ∧ WinOK m y) = true from decide_eq_true hm]
    have HS := Lib.hid (common_calls x y w2 hm.1.tame hm.2.tame)
    by_cases h0 : ovl x y = 0
    · have HV := Lib.hid (show commonV m x y = .tuple #[.int .i64 0, .int .i64 (-1), .bool true] by rw [commonV, if_pos hm, if_pos h0])
      rw [(commonW_zero x y).2 h0] at HS
      clear hm h0
      go_wp2_with fail
      refine HS.out.mono ?_
      rintro e w3 ⟨rfl, hb3⟩
      have HB3 := Lib.hid (HB2.out.trans (hb3.mono HB2.out.size))
      clear hb3
      go_wp2_with fail
      refine bodyPost_ret (v := .tuple #[.int .i64 0, .int .i64 (-1), .bool true]) (by simp [results, Try.results17, go_sem]) rfl ⟨by rw [HV.out], by have hs := HB3.out.size; (repeat (first | (with_reducible exact Below.refl _ _) | (with_reducible refine Below.drew ?_) | ((with_reducible refine Below.alloc ?_ ?hB _); case hB => (first | (with_reducible exact Nat.le_refl _) | omega | (simp; done) | (simp; omega))) | ((with_reducible refine Below.setCell ?_ ?hB _); case hB => (first | (with_reducible exact Nat.le_refl _) | omega | (simp; done) | (simp; omega))))); exact HB3.out⟩
    · have HV := Lib.hid (show commonV m x y = .tuple #[.int .i64 (ovl x y), .int .i64 (max x.start y.start), .bool true] by rw [commonV, if_pos hm, if_neg h0])
      have hcw : commonW x y = ⟨x.arr, max x.start y.start, ovl x y, ovl x y⟩ := by
        have h1 : x.arr = y.arr := by
          unfold ovl at h0
          split at h0
          · assumption
          · exact absurd rfl h0
        have h2 : max x.start y.start < min (x.start + x.len) (y.start + y.len) := by
          unfold ovl at h0
          rw [if_pos h1] at h0
          omega
        unfold commonW ovl
        rw [if_pos ⟨h1, h2⟩, if_pos h1]
        congr 1 <;> omega
      rw [hcw] at HS
      have HQ := Lib.hid (show ¬ ovl x y = 0 from h0)
      clear hm hcw
      generalize ovl x y = q at *
      generalize max x.start y.start = q2 at *
      go_wp2_with fail
      refine HS.out.mono ?_
      rintro e w3 ⟨rfl, hb3⟩
      have HB3 := Lib.hid (HB2.out.trans (hb3.mono HB2.out.size))
      clear hb3 d0 d1 d2 d3 e0 e1 e2 e3
      go_wp2_with fail
      all_goals (first | (exfalso; omega) | skip)
      all_goals (go_quiet (fail))
      all_goals go_wp2_with fail
      all_goals refine bodyPost_ret (v := .tuple #[.int .i64 q, .int .i64 q2, .bool true]) (by simp [results, Try.results17, go_sem]) rfl ⟨by rw [HV.out], below_drewN (by have hs := HB3.out.size; (repeat (first | (with_reducible exact Below.refl _ _) | (with_reducible refine Below.drew ?_) | ((with_reducible refine Below.alloc ?_ ?hB _); case hB => (first | (with_reducible exact Nat.le_refl _) | omega | (simp; done) | (simp; omega))) | ((with_reducible refine Below.setCell ?_ ?hB _); case hB => (first | (with_reducible exact Nat.le_refl _) | omega | (simp; done) | (simp; omega))))); exact HB3.out) _⟩
  · rw [show decide (WinOK m x ∧ WinOK m y) = false from decide_eq_false hm]
    have HV := Lib.hid (show commonV m x y = .tuple #[.int .i64 0, .int .i64 0, .bool false] by rw [commonV, if_neg hm])
    clear hm
    go_wp2_with fail
    refine bodyPost_ret (v := .tuple #[.int .i64 0, .int .i64 0, .bool false]) (by simp [results, Try.results17, go_sem]) rfl ⟨by rw [HV.out], HB2.out⟩

set_option maxRecDepth 100000 in
theorem specAreWatched_calls (A : Option Addr) (c : Nat) (m : List (List Int)) (B : Option Addr) (k : Nat) (L : List Win) (w : World) (hr : Rd2 w w.heap.size A m) (hn : m.length ≤ maxLen) (hx : RdW w w.heap.size B L) (hl : L.length ≤ maxLen) :
    Calls Try.prog 34 #[.agg #[.slice A m.length c], .slice B L.length k] w fun e w' => e = .returned (watchedV m L) ∧ Below w.heap.size w w' := by
  obtain ⟨w0, hw0⟩ : ∃ w0, (w.alloc (.cells #[.slice A m.length c] 26)) = w0 := ⟨_, rfl⟩
  have hb0 : Below w.heap.size w w0 := by rw [← hw0]; exact (Below.refl _ _).alloc (Nat.le_refl _) _
  have hg0 : w0.heap[w.heap.size]? = some (.cells #[.slice A m.length c] 26) := by rw [← hw0]; exact heap_alloc_new _ _
  have HC := Lib.hid (specMemory_calls A c m w0 ((hr.below hb0).more hb0.size) hn)
  have HR := Lib.hid hr
  have HX := Lib.hid hx
  have HB := Lib.hid hb0
  have HW := Lib.hid hw0
  have HG := Lib.hid hg0
  clear hr hx hb0 hw0 hg0
  go_enter Try.func34, Try.ntmps34
  go_wp2_with fail
  rw [HW.out]
  refine HC.out.mono ?_
  rintro e w2 ⟨rfl, hb2⟩
  have HB2 := Lib.hid (HB.out.trans (hb2.mono HB.out.size))
  have c2 := one_cell ((hb2.block _ (Array.getElem?_eq_some_iff.1 HG.out).1).trans HG.out)
  clear hb2
  by_cases hm : MemOK m
  · rw [show decide (MemOK m) = true from decide_eq_true hm]
    have HV := Lib.hid (show watchedV m L = .tuple #[.bool (decide (Watched m L)), .bool true] by rw [watchedV, if_pos hm])
    have HN := Lib.hid (specWatched_calls A c m B k L w2 ((HR.out.below HB2.out).more HB2.out.size) hn ((HX.out.below HB2.out).more HB2.out.size) hl)
    clear hm
    go_wp2_with fail
    refine HN.out.mono ?_
    rintro e w3 ⟨rfl, hb3⟩
    have HB3 := Lib.hid (HB2.out.trans (hb3.mono HB2.out.size))
    clear hb3
    go_wp2_with fail
    go_ret2
    exact ⟨by rw [HV.out]; rfl, HB3.out⟩
  · rw [show decide (MemOK m) = false from decide_eq_false hm]
    have HV := Lib.hid (show watchedV m L = .tuple #[.bool false, .bool false] by rw [watchedV, if_neg hm])
    clear hm
    go_wp2_with fail
    go_ret2
    exact ⟨by rw [HV.out]; rfl, HB2.out⟩

set_option maxRecDepth 100000 in
theorem implAreWatched_calls (A : Option Addr) (c : Nat) (m : List (List Int)) (B : Option Addr) (k : Nat) (L : List Win) (w : World) (hr : Rd2 w w.heap.size A m) (hn : m.length ≤ maxLen) (hx : RdW w w.heap.size B L) (hl : L.length ≤ maxLen) (hwa : ∀ x ∈ L, WArg x) :
    Calls Try.prog 33 #[.agg #[.slice A m.length c], .slice B L.length k] w fun e w' => e = .returned (watchedV m L) ∧ Below w.heap.size w w' := by
  obtain ⟨w0, hw0⟩ : ∃ w0, (w.alloc (.cells #[.slice A m.length c] 26)) = w0 := ⟨_, rfl⟩
  have hb0 : Below w.heap.size w w0 := by rw [← hw0]; exact (Below.refl _ _).alloc (Nat.le_refl _) _
  have hg0 : w0.heap[w.heap.size]? = some (.cells #[.slice A m.length c] 26) := by rw [← hw0]; exact heap_alloc_new _ _
  have HM := Lib.hid (fun W (h : Below w.heap.size w W) => implIsMemory_calls A c m W ((hr.below h).more h.size) hn)
  have HN := Lib.hid (fun W (h : Below w.heap.size w W) => isWatched_calls A c m B k L W ((hr.below h).more h.size) hn ((hx.below h).more h.size) hwa hl)
  have HA : Hid (∀ W, Below w0.heap.size w0 W → W.cell? ⟨w.heap.size, 0, none⟩ = some (.slice A m.length c)) := Lib.hid fun W hb => one_cell ((hb.block _ (Array.getElem?_eq_some_iff.1 hg0).1).trans hg0)
  have HV : Hid (watchedV m L = .tuple #[.bool (decide (Watched m L)), .bool (decide (MemOK m))]) := Lib.hid (by
    rw [watchedV]
    split
    · rename_i h; rw [decide_eq_true h]
    · rename_i h; rw [decide_eq_false h, decide_eq_false (fun q => h q.1)])
  have c0 := one_cell hg0
  have HB := Lib.hid hb0
  have HW := Lib.hid hw0
  clear hr hx hb0 hw0 hg0
  go_enter Try.func33, Try.ntmps33
  go_wp2_with fail
  rw [HW.out]
  go_region_held3 (fun W => W.cell? ⟨w.heap.size, 0, none⟩ = some (.slice A m.length c))
    (first | exact c0 | exact HA.out _ hc5 | exact HA.out _ hc6)
    (first | (go_at_call 83; refine (HN.out _ HB.out.drew).mono ?_; rintro e w5 ⟨rfl, hb5⟩; have hc5 : Below w0.heap.size w0 w5 := ⟨hb5.os, hb5.tape, hb5.output, hb5.size, hb5.block⟩) | (go_at_call 49; refine (HM.out _ (HB.out.trans (hc5.mono HB.out.size))).mono ?_; rintro e w6 ⟨rfl, hb6⟩; have hc6 : Below w0.heap.size w0 w6 := hc5.trans (hb6.mono hc5.size)))
  have HB6 := Lib.hid (HB.out.trans (hc6.mono HB.out.size))
  clear hb5 hb6 hc5 hc6 c0
  go_wp2_with fail
  go_ret2
  exact ⟨by rw [HV.out]; rfl, HB6.out⟩
end Go.Proofs.Ytomgjhdknondmaa
