/-
  WriteAt of spec and impl.
-/
import Derived.Test.YtbdaaeffbhcflaaOpen
namespace Go.Proofs.Ytbdaaeffbhcflaa
open Go.RowKit

/-- What WriteAt answers. -/
def writeR (m : List (List Int)) (x : Win) (i b : Int) : List (List Int) × Bool :=
  if WinOK m x ∧ 0 ≤ i ∧ i < x.len then (putM m x.arr.toNat (x.start + i).toNat b, true) else ([], false)

set_option maxRecDepth 100000 in
set_option maxHeartbeats 1600000 in
theorem specWriteAt_calls (A : Option Addr) (cm : Nat) (m : List (List Int)) (x : Win) (i b : Int) (w : World) (hr : Rd2 w w.heap.size A m) (hn : m.length ≤ maxLen) :
    Calls Try.prog 17 #[.agg #[.slice A m.length cm], .agg #[.int .i64 x.arr, .int .i64 x.start, .int .i64 x.len, .int .i64 x.cap], .int .i64 i, .int .u8 b] w fun e w' => ∃ v, e = .returned (.tuple #[.agg #[v], .bool (writeR m x i b).2]) ∧ OwnM w' w.heap.size w'.heap.size v (writeR m x i b).1 ∧ Below w.heap.size w w' := by
  obtain ⟨w0, hw0, hb0, hz0, hmw⟩ := enterMWM A m.length cm x.arr x.start x.len x.cap w
  have HC := Lib.hid (specWindow_calls A cm m x w0 ((hr.below hb0).more hb0.size) hn)
  have HB := Lib.hid hb0
  have HR := Lib.hid hr
  have HW := Lib.hid hw0
  have HMW := Lib.hid hmw
  clear hr hb0 hmw hw0
  go_enter Try.func17, Try.ntmps17
  go_wp2_with fail
  rw [HW.out]
  refine HC.out.mono ?_
  rintro e w2 ⟨rfl, hb2⟩
  have HB2 := Lib.hid (HB.out.trans (hb2.mono HB.out.size))
  have HB02 := Lib.hid hb2
  have hmw2 := HMW.out.below hb2
  have HMW2 := Lib.hid hmw2
  have c1 := one_cell hmw2.mw.mem
  obtain ⟨d0, d1, d2, d3⟩ := four_cells hmw2.mw.win
  have r0 := one_cell hmw2.res
  have rf := one_frozen hmw2.res
  clear hb2 hmw2
  by_cases hm : WinOK m x
  · have hd : decide (WinOK m x) = true := decide_eq_true hm
    have HM := Lib.hid hm
    obtain ⟨n, s, l, c, rfl, hnl, hlc, hsc, h1, h64, h16⟩ := hm.nat
    clear hm
    dsimp only at *
    have hl64 : (l : Int) ≤ 64 := by omega
    have HL := Lib.hid (specIn_calls i 0 (l - 1) w2)
    by_cases h0 : 0 ≤ i ∧ i < l
    · obtain ⟨j, rfl⟩ : ∃ j : Nat, i = j := ⟨i.toNat, by omega⟩
      have hsj : s + j < m[n].length := by omega
      rw [show decide ((0 : Int) ≤ (j : Int) ∧ (j : Int) ≤ (l : Int) - 1) = true from decide_eq_true (by omega)] at HL
      have HV : Hid (writeR m ⟨n, s, l, c⟩ j b = (putM m n (s + j) b, true)) := Lib.hid (by
        have e1 : ((s : Int) + (j : Int)).toNat = s + j := by omega
        rw [writeR, if_pos ⟨HM.out, h0⟩]
        simp only [Int.toNat_natCast, e1])
      have HS := Lib.hid (specPut_calls A cm m n s j l c b w2 ((HR.out.below HB2.out).more HB2.out.size) HM.out.1 hnl hsj)
      clear h0
      go_wp2_with fail
      refine HL.out.mono ?_
      rintro e w3 ⟨rfl, rfl⟩
      go_wp2_with fail
      refine HS.out.mono ?_
      rintro e w3 ⟨v, rfl, ho, hb3⟩
      obtain ⟨Av, cv, rfl, hcv⟩ := ho.form
      have HO3 := Lib.hid ho
      have HB3 := Lib.hid (HB2.out.trans (hb3.mono HB2.out.size))
      have hmw3 := HMW2.out.below hb3
      have hl2 := HB2.out.size
      have hl02 := HB02.out.size
      clear r0 rf
      have r0 := one_cell hmw3.res
      have rf := one_frozen hmw3.res
      clear ho hb3 hmw3 hcv d0 d1 d2 d3 c1
      go_wp2_with fail
      refine bodyPost_ret (v := .tuple #[.agg #[.slice Av (putM m n (s + j) b).length cv], .bool true]) (by simp [results, Try.results17, go_sem, r0]) rfl ⟨_, by rw [HV.out], ?_, by (repeat (first | (with_reducible exact Below.refl _ _) | (with_reducible refine Below.drew ?_) | ((with_reducible refine Below.alloc ?_ ?hB _); case hB => (first | (with_reducible exact Nat.le_refl _) | omega | (simp; done) | (simp; omega))) | ((with_reducible refine Below.setCell ?_ ?hB _); case hB => (first | (with_reducible exact Nat.le_refl _) | omega | (simp; done) | (simp; omega))))); exact HB3.out⟩
      rw [HV.out, World.size_setCell]
      exact (own_setCell HO3.out (.inl (by omega))).mono hl2 (Nat.le_refl _)
    · have HV : Hid (writeR m ⟨n, s, l, c⟩ i b = ([], false)) := Lib.hid (by rw [writeR, if_neg (fun h => h0 h.2)])
      rw [show decide ((0 : Int) ≤ i ∧ i ≤ (l : Int) - 1) = false from decide_eq_false (by omega)] at HL
      clear h0
      go_wp2_with fail
      refine HL.out.mono ?_
      rintro e w3 ⟨rfl, rfl⟩
      go_wp2_with fail
      refine bodyPost_ret (v := .tuple #[.agg #[.slice none 0 0], .bool false]) (by simp [results, Try.results17, go_sem, r0]) rfl ⟨_, by rw [HV.out], by rw [HV.out]; exact own_none _ _ _, by (repeat (first | (with_reducible exact Below.refl _ _) | (with_reducible refine Below.drew ?_) | ((with_reducible refine Below.alloc ?_ ?hB _); case hB => (first | (with_reducible exact Nat.le_refl _) | omega | (simp; done) | (simp; omega))) | ((with_reducible refine Below.setCell ?_ ?hB _); case hB => (first | (with_reducible exact Nat.le_refl _) | omega | (simp; done) | (simp; omega))))); exact HB2.out⟩
  · have hd : decide (WinOK m x) = false := decide_eq_false hm
    have HV : Hid (writeR m x i b = ([], false)) := Lib.hid (by rw [writeR, if_neg (fun h => hm h.1)])
    clear hm
    go_wp2_with fail
    refine bodyPost_ret (v := .tuple #[.agg #[.slice none 0 0], .bool false]) (by simp [results, Try.results17, go_sem, r0]) rfl ⟨_, by rw [HV.out], by rw [HV.out]; exact own_none _ _ _, by (repeat (first | (with_reducible exact Below.refl _ _) | (with_reducible refine Below.drew ?_) | ((with_reducible refine Below.alloc ?_ ?hB _); case hB => (first | (with_reducible exact Nat.le_refl _) | omega | (simp; done) | (simp; omega))) | ((with_reducible refine Below.setCell ?_ ?hB _); case hB => (first | (with_reducible exact Nat.le_refl _) | omega | (simp; done) | (simp; omega))))); exact HB2.out⟩

set_option maxRecDepth 100000 in
set_option maxHeartbeats 1600000 in
theorem implWriteAt_calls (A : Option Addr) (cm : Nat) (m : List (List Int)) (x : Win) (i b : Int) (w : World) (hr : Rd2 w w.heap.size A m) (hn : m.length ≤ maxLen) (hx : WArg x) :
    Calls Try.prog 16 #[.agg #[.slice A m.length cm], .agg #[.int .i64 x.arr, .int .i64 x.start, .int .i64 x.len, .int .i64 x.cap], .int .i64 i, .int .u8 b] w fun e w' => ∃ v, e = .returned (.tuple #[.agg #[v], .bool (writeR m x i b).2]) ∧ OwnM w' w.heap.size w'.heap.size v (writeR m x i b).1 ∧ Below w.heap.size w w' := by
  obtain ⟨w0, hw0, hb0, hz0, hmw⟩ := enterMWM A m.length cm x.arr x.start x.len x.cap w
  have HC := Lib.hid (openWindow_calls A cm m x w0 ((hr.below hb0).more hb0.size) hn hx)
  have HB := Lib.hid hb0
  have HW := Lib.hid hw0
  have HMW := Lib.hid hmw
  clear hr hb0 hmw hw0
  go_enter Try.func16, Try.ntmps16
  go_wp2_with fail
  rw [HW.out]
  refine HC.out.mono ?_
  rintro e w2 ⟨hop, hb2⟩
  have HB2 := Lib.hid (HB.out.trans (hb2.mono HB.out.size))
  have HB02 := Lib.hid hb2
  have hmw2 := HMW.out.below hb2
  have HMW2 := Lib.hid hmw2
  have hl2 := HB2.out.size
  have hl02 := HB02.out.size
  clear hb2 hmw2
  rcases hop with ⟨hm, A2, rfl⟩ | ⟨n, s, l, c, gb, g, cv, cap, o, hnl, rfl, hm, hlc, hsc, h1, h64, h16, rfl, hoo, ho, hrow⟩
  · have HV : Hid (writeR m x i b = ([], false)) := Lib.hid (by rw [writeR, if_neg (fun h => hm h.1)])
    have r0 := one_cell (alloc_old (.cells #[.slice none 0 0] 26) HMW2.out.res)
    have rf := one_frozen (alloc_old (.cells #[.slice none 0 0] 26) HMW2.out.res)
    clear hm
    go_wp2_with fail
    refine bodyPost_ret (v := .tuple #[.agg #[.slice none 0 0], .bool false]) (by simp [results, Try.results16, go_sem, r0]) rfl ⟨_, by rw [HV.out], by rw [HV.out]; exact own_none _ _ _, by (repeat (first | (with_reducible exact Below.refl _ _) | (with_reducible refine Below.drew ?_) | ((with_reducible refine Below.alloc ?_ ?hB _); case hB => (first | (with_reducible exact Nat.le_refl _) | omega | (simp; done) | (simp; omega))) | ((with_reducible refine Below.setCell ?_ ?hB _); case hB => (first | (with_reducible exact Nat.le_refl _) | omega | (simp; done) | (simp; omega))))); exact HB2.out⟩
  · have HM := Lib.hid hm
    have HOO := Lib.hid hoo
    clear hm hoo
    obtain ⟨w3, hw3⟩ : ∃ w3, w2.alloc (.cells #[.slice (some ⟨gb, 0, none⟩) m.length cv] 26) = w3 := ⟨_, rfl⟩
    have hb3 : Below w2.heap.size w2 w3 := by rw [← hw3]; exact (Below.refl _ _).alloc (Nat.le_refl _) _
    have HX3 := Lib.hid (show w3.heap[w2.heap.size]? = some (.cells #[.slice (some ⟨gb, 0, none⟩) m.length cv] 26) by rw [← hw3]; exact heap_alloc_new _ _)
    have hmw3 := HMW2.out.below hb3
    have HMW3 := Lib.hid hmw3
    have HB3 := Lib.hid (HB2.out.trans (hb3.mono HB2.out.size))
    have HW3 := Lib.hid hw3
    have HSW := Lib.hid (show w2.heap.size + 1 = w3.heap.size by rw [← hw3]; simp)
    obtain ⟨gb2, g2, cap2, he, hgb, hg1, hg2, hg3, hg4, hrow2, hcap1, hcap2, hcells, hfr, hro, hset⟩ := ho.row_at hnl h1
    injection he with he; injection he with he; subst he
    rw [hrow] at hrow2
    injection hrow2 with hrow2; injection hrow2 with hrow2 _ hcp; injection hrow2 with hrow2; injection hrow2 with hrow2
    subst hrow2; subst hcp
    have HCE := Lib.hid hcells
    have HFR := Lib.hid hfr
    have HRO := Lib.hid hro
    have HSE := Lib.hid hset
    clear hcells hfr hro hset hrow ho
    by_cases h0 : 0 ≤ i
    · by_cases h2 : i < l
      · obtain ⟨j, rfl⟩ : ∃ j : Nat, i = j := ⟨i.toNat, by omega⟩
        have hj : j < l := by omega
        have hsj : s + j < m[n].length := by omega
        obtain rfl : o = s := HOO.out (by omega)
        have HV : Hid (writeR m ⟨n, o, l, c⟩ j b = (putM m n (o + j) b, true)) := Lib.hid (by
          have e1 : ((o : Int) + (j : Int)).toNat = o + j := by omega
          rw [writeR, if_pos ⟨HM.out, by omega, h2⟩]
          simp only [Int.toNat_natCast, e1])
        have hst := (own_below HRO.out hb3).stored (o + j) (.int .u8 b)
        rw [intV_set] at hst
        have HOM := Lib.hid (HSE.out _ (m[n].set (o + j) b) (by simp) hst.1 ((grown_of_below hb3 (some g)).trans hst.2))
        have z0 : w3.cell? ⟨g, o + j, none⟩ = some (.int .u8 m[n][o + j]) := (hb3.cell (p := ⟨g, o + j, none⟩) hg4).trans (HCE.out _ hsj)
        have f0 : w3.frozen? ⟨g, o + j, none⟩ = false := (hb3.frozen (p := ⟨g, o + j, none⟩) hg4).trans (HFR.out _)
        obtain ⟨d0, d1, d2, d3⟩ := four_cells hmw3.mw.win
        have HB4 := Lib.hid (HB3.out.setCell (p := ⟨g, o + j, none⟩) (by simp; omega) (.int .u8 b))
        have HR4 := Lib.hid ((Below.heap_setCell w3 ⟨g, o + j, none⟩ (.int .u8 b) (w.heap.size + 1 + 1) (by simp; omega)).trans HMW3.out.res)
        have HX4 := Lib.hid ((Below.heap_setCell w3 ⟨g, o + j, none⟩ (.int .u8 b) w2.heap.size (by simp; omega)).trans HX3.out)
        have HZ4 := Lib.hid (World.size_setCell w3 ⟨g, o + j, none⟩ (.int .u8 b))
        have r0 := one_cell HR4.out
        have rf := one_frozen HR4.out
        have x0 := one_cell HX4.out
        generalize m[n][o + j] = q at *
        clear hst hb3 hmw3 hw3
        go_upto_region 2 with fail
        rw [HW3.out]
        go_wp2_with fail
        refine bodyPost_ret (v := .tuple #[.agg #[.slice (some ⟨gb, 0, none⟩) m.length cv], .bool true]) (by simp [results, Try.results16, go_sem, r0]) rfl ⟨_, by rw [HV.out], ?_, by (repeat (first | (with_reducible exact Below.refl _ _) | (with_reducible refine Below.drew ?_) | ((with_reducible refine Below.alloc ?_ ?hB _); case hB => (first | (with_reducible exact Nat.le_refl _) | omega | (simp; done) | (simp; omega))) | ((with_reducible refine Below.setCell ?_ ?hB _); case hB => (first | (with_reducible exact Nat.le_refl _) | omega | (simp; done) | (simp; omega))))); exact HB3.out⟩
        rw [HV.out, World.size_setCell, putM_eq hnl]
        refine (own_setCell HOM.out (.inl (by omega))).mono (by omega) ?_
        have h1 := HZ4.out
        have h2 := HSW.out
        omega
      · have HV : Hid (writeR m ⟨n, s, l, c⟩ i b = ([], false)) := Lib.hid (by rw [writeR, if_neg (fun h => h2 h.2.2)])
        obtain ⟨d0, d1, d2, d3⟩ := four_cells hmw3.mw.win
        have r0 := one_cell hmw3.res
        have rf := one_frozen hmw3.res
        clear hb3 hmw3 hw3
        go_upto_region 2 with fail
        rw [HW3.out]
        go_wp2_with fail
        refine bodyPost_ret (v := .tuple #[.agg #[.slice none 0 0], .bool false]) (by simp [results, Try.results16, go_sem, r0]) rfl ⟨_, by rw [HV.out], by rw [HV.out]; exact own_none _ _ _, by (repeat (first | (with_reducible exact Below.refl _ _) | (with_reducible refine Below.drew ?_) | ((with_reducible refine Below.alloc ?_ ?hB _); case hB => (first | (with_reducible exact Nat.le_refl _) | omega | (simp; done) | (simp; omega))) | ((with_reducible refine Below.setCell ?_ ?hB _); case hB => (first | (with_reducible exact Nat.le_refl _) | omega | (simp; done) | (simp; omega))))); exact HB3.out⟩
    · have HV : Hid (writeR m ⟨n, s, l, c⟩ i b = ([], false)) := Lib.hid (by rw [writeR, if_neg (fun h => h0 h.2.1)])
      obtain ⟨d0, d1, d2, d3⟩ := four_cells hmw3.mw.win
      have r0 := one_cell hmw3.res
      have rf := one_frozen hmw3.res
      clear hb3 hmw3 hw3
      go_upto_region 2 with fail
      rw [HW3.out]
      go_wp2_with fail
      refine bodyPost_ret (v := .tuple #[.agg #[.slice none 0 0], .bool false]) (by simp [results, Try.results16, go_sem, r0]) rfl ⟨_, by rw [HV.out], by rw [HV.out]; exact own_none _ _ _, by (repeat (first | (with_reducible exact Below.refl _ _) | (with_reducible refine Below.drew ?_) | ((with_reducible refine Below.alloc ?_ ?hB _); case hB => (first | (with_reducible exact Nat.le_refl _) | omega | (simp; done) | (simp; omega))) | ((with_reducible refine Below.setCell ?_ ?hB _); case hB => (first | (with_reducible exact Nat.le_refl _) | omega | (simp; done) | (simp; omega))))); exact HB3.out⟩
theorem small_set {m : List (List Int)} (h : MemOK m) {n : Nat} {ys : List Int} (hy : ys.length ≤ 64) : Small (m.set n ys) :=
  ⟨by rw [List.length_set]; exact h.1, fun r hr => by
    rcases List.mem_or_eq_of_mem_set hr with h1 | h1
    · exact (h.2 r h1).2
    · rw [h1]; exact hy⟩
theorem writeR_small (m : List (List Int)) (x : Win) (i b : Int) : Small (writeR m x i b).1 := by
  unfold writeR
  split
  · rename_i h
    obtain ⟨n, s, l, c, rfl, hnl, hlc, hsc, h1, h64, h16⟩ := h.1.nat
    simp only [Int.toNat_natCast, putM, getD_eq hnl]
    exact small_set h.1.1 (by rw [List.length_set]; exact h64)
  · exact ⟨by simp, fun r hr => by simp at hr⟩
end Go.Proofs.Ytbdaaeffbhcflaa
