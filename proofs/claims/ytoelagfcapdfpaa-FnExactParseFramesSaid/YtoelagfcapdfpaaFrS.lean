/-
  The frames of a window, in the model: l9Frame.
-/
import Derived.Test.YtoelagfcapdfpaaFrM
import Derived.Test.YtoelagfcapdfpaaWin2
import Derived.Test.YtoelagfcapdfpaaCopyL
import Derived.Deep.RegionHeld3
import Derived.Deep.DeepCutAuto
namespace Go.Proofs.Ytoelagfcapdfpaa
open Go.RowKit

theorem wb_drop9 {m : List (List Int)} {n s l k : Nat} (hn : n < m.length) : (wb m n s l).drop k = wb m n (s + k) (l - k) := by
  rw [wb_eq hn, wb_eq hn, List.drop_take, List.drop_drop]
theorem wb_take9 {m : List (List Int)} {n s l k : Nat} (hn : n < m.length) (h : k ≤ l) : (wb m n s l).take k = wb m n s k := by
  rw [wb_eq hn, wb_eq hn, List.take_take, Nat.min_eq_left h]

set_option maxRecDepth 100000 in
set_option maxHeartbeats 1600000 in
theorem specFrame9_calls (A : Option Addr) (cm : Nat) (m : List (List Int)) (n s l : Nat) (c : Int) (a : Nat) (w : World) (hr : Rd2 w w.heap.size A m) (hn : n < m.length) (h16 : m.length ≤ 16) (hsl : s + l ≤ m[n].length) (h64 : m[n].length ≤ 64) (hz : ∀ r ∈ m, ∀ z ∈ r, IsB z) (ha : a ≤ l) :
    Calls Try.prog 113 #[.agg #[.slice A m.length cm], .agg #[.int .i64 n, .int .i64 s, .int .i64 l, .int .i64 c], .int .i64 a] w fun e w' => e = .returned (.int .i64 (frm ((wb m n s l).drop a) : Nat)) ∧ Below w.heap.size w w' := by
  obtain ⟨w0, hw0, hb0, hz0, hmw⟩ := enterMW A m.length cm n s l c w
  have hL : (wb m n s l).drop a = wb m n (s + a) (l - a) := wb_drop9 hn
  have hLl : ((wb m n s l).drop a).length = l - a := by rw [List.length_drop, wb_len hn hsl]
  have hLB : ∀ z ∈ (wb m n s l).drop a, IsB z := fun z h => wb_isB hn hz z (List.mem_of_mem_drop h)
  have HB := Lib.hid hb0
  have HR := Lib.hid hr
  have HW := Lib.hid hw0
  have HMW := Lib.hid hmw
  obtain ⟨d0, d1, d2, d3⟩ := four_cells hmw.win
  have c1 := one_cell hmw.mem
  clear hr hb0 hmw hw0
  have i1 : (a : Int) ≤ l := by omega
  have i2 : (l : Int) ≤ 64 := by omega
  have i3 : (0 : Int) ≤ a := by omega
  by_cases h3 : l - a < 3
  · have HV : Hid (frm ((wb m n s l).drop a) = 0) := Lib.hid (by unfold frm; rw [if_pos (by omega)])
    have i4 : (l : Int) - a < 3 := by omega
    rw [HV.out]
    clear hL hLl hLB
    go_enter Try.func113, Try.ntmps113
    go_upto_region 1 with fail
    rw [HW.out]
    go_wp2_with fail
    go_ret
    exact ⟨rfl, HB.out⟩
  · have i4 : ¬ (l : Int) - a < 3 := by omega
    have hl1 : 1 < ((wb m n s l).drop a).length := by omega
    have hb1 := hLB _ (List.getElem_mem hl1)
    obtain ⟨k, hk⟩ : ∃ k : Nat, ((wb m n s l).drop a)[1] = (k : Int) := ⟨(((wb m n s l).drop a)[1]).toNat, by have := hb1.1; omega⟩
    have hm1 : m[n][s + (a + 1)] = (k : Int) := by
      rw [← hk, List.getElem_drop, wb_get hn (by rw [wb_len hn hsl]; omega) (by omega)]
    have hk255 : k ≤ 255 := by rw [hk] at hb1; have := hb1.2; omega
    have hg1 : (((wb m n s l).drop a).getD 1 0).toNat = k := by
      rw [List.getD_eq_getElem?_getD, List.getElem?_eq_getElem hl1, hk]
      simp
    have HAT := Lib.hid (specAt_calls A cm m n s (a + 1) l c w0 ((HR.out.below HB.out).more HB.out.size) hn h16 (by omega) h64)
    rw [hm1] at HAT
    have HF : Hid (frm ((wb m n s l).drop a) = if 30 < k ∨ l - a < k + 3 then 0 else if xorL (((wb m n s l).drop a).take (k + 3)) ≠ 0 then 0 else k + 3) := Lib.hid (by
      unfold frm
      rw [hg1, hLl, if_neg (by omega)])
    have i5 : (0 : Int) ≤ k := by omega
    have i6 : (k : Int) ≤ 255 := by omega
    have e1 : ((a + 1 : Nat) : Int) = (a : Int) + 1 := by omega
    rw [e1] at HAT
    by_cases hbad : 30 < k ∨ l - a < k + 3
    · have HV : Hid (frm ((wb m n s l).drop a) = 0) := Lib.hid (by rw [HF.out, if_pos hbad])
      rw [HV.out]
      clear hL hLl hLB hl1 hb1 hk hm1 hg1 e1
      go_enter Try.func113, Try.ntmps113
      go_upto_region 1 with fail
      rw [HW.out]
      go_wp2_with fail
      refine HAT.out.mono ?_
      rintro e w2 ⟨rfl, hb2⟩
      have HB2 := Lib.hid (HB.out.trans (hb2.mono HB.out.size))
      have HMW2 := Lib.hid (HMW.out.below hb2)
      obtain ⟨f0, f1, f2, f3⟩ := four_cells HMW2.out.win
      clear hb2 d0 d1 d2 d3 c1
      by_cases h30 : 30 < k
      · have i7 : (30 : Int) < k := by omega
        clear hbad
        go_wp2_with fail
        go_ret
        exact ⟨rfl, HB2.out⟩
      · have i7 : ¬ (30 : Int) < k := by omega
        have i8 : (l : Int) - a < (k : Int) + 3 := by omega
        clear hbad
        go_wp2_with fail
        go_ret
        exact ⟨rfl, HB2.out⟩
    · have i7 : ¬ (30 : Int) < k := by omega
      have i8 : ¬ (l : Int) - a < (k : Int) + 3 := by omega
      obtain ⟨p, hp⟩ : ∃ p, s + a = p := ⟨_, rfl⟩
      obtain ⟨t, ht⟩ : ∃ t, k + 3 = t := ⟨_, rfl⟩
      have HSL : Hid (∀ W, Calls Try.prog 98 #[.agg #[.int .i64 n, .int .i64 s, .int .i64 l, .int .i64 c], .int .i64 a, .int .i64 (a + k + 3), .int .i64 (a + k + 3)] W fun e w' => e = .returned (.agg #[.int .i64 n, .int .i64 p, .int .i64 t, .int .i64 t]) ∧ Below W.heap.size W w') := Lib.hid fun W => by
        have h := specSlice_calls n s l c a (a + k + 3) (a + k + 3) W (by omega) (by omega) (by omega) (by omega)
        rw [show (s : Int) + a = (p : Nat) by omega, show (a : Int) + k + 3 - a = (t : Nat) by omega] at h
        exact h
      have HBY := Lib.hid (fun W (hb : Below w0.heap.size w0 W) => specBytes_calls A cm m n p t (t : Int) W ((HR.out.below (HB.out.trans (hb.mono HB.out.size))).more (Nat.le_trans HB.out.size hb.size)) hn h16 (by omega) h64)
      have hX : wb m n p t = ((wb m n s l).drop a).take (k + 3) := by rw [hL, wb_take9 hn (by omega), hp, ht]
      have hXl : (wb m n p t).length = t := wb_len hn (by omega)
      rw [hX] at HBY hXl
      obtain ⟨X, hXX⟩ : ∃ X, ((wb m n s l).drop a).take (k + 3) = X := ⟨_, rfl⟩
      rw [hXX] at HBY hXl HF
      have HXL := Lib.hid hXl
      have ht33 : t ≤ 40 := by omega
      rw [if_neg hbad] at HF
      have HA : Hid (∀ W, Below w0.heap.size w0 W → W.cell? ⟨w.heap.size, 0, none⟩ = some (.slice A m.length cm) ∧ W.cell? ⟨w.heap.size + 1, 0, none⟩ = some (.int .i64 n) ∧ W.cell? ⟨w.heap.size + 1, 1, none⟩ = some (.int .i64 s) ∧ W.cell? ⟨w.heap.size + 1, 2, none⟩ = some (.int .i64 l) ∧ W.cell? ⟨w.heap.size + 1, 3, none⟩ = some (.int .i64 c)) := Lib.hid fun W hb => by
        have h := HMW.out.below hb
        obtain ⟨d0, d1, d2, d3⟩ := four_cells h.win
        exact ⟨one_cell h.mem, d0, d1, d2, d3⟩
      clear hL hLl hLB hl1 hb1 hk hm1 hg1 e1 hX hXl hXX hbad hp ht
      go_enter Try.func113, Try.ntmps113
      go_upto_region 1 with fail
      rw [HW.out]
      go_wp2_with fail
      refine HAT.out.mono ?_
      rintro e w2 ⟨rfl, hb2⟩
      have HB2 := Lib.hid hb2
      clear hb2 d0 d1 d2 d3 c1
      obtain ⟨c1, d0, d1, d2, d3⟩ := HA.out w2 HB2.out
      go_upto_region 6 with fail
      clear c1 d0 d1 d2 d3
      have hc0 : Below w0.heap.size w0 w2.drew := HB2.out.drew
      have hw1 : IntKind.i64.wrap ((a : Int) + k) = (a : Int) + k := IntWalk.i64_in _ (by omega)
      have hw2 : IntKind.i64.wrap ((a : Int) + k + 3) = (a : Int) + k + 3 := IntWalk.i64_in _ (by omega)
      obtain ⟨c1, d0, d1, d2, d3⟩ := HA.out w2.drew hc0
      go_region_held3 (fun W => W.cell? ⟨w.heap.size, 0, none⟩ = some (.slice A m.length cm) ∧ W.cell? ⟨w.heap.size + 1, 0, none⟩ = some (.int .i64 n) ∧ W.cell? ⟨w.heap.size + 1, 1, none⟩ = some (.int .i64 s) ∧ W.cell? ⟨w.heap.size + 1, 2, none⟩ = some (.int .i64 l) ∧ W.cell? ⟨w.heap.size + 1, 3, none⟩ = some (.int .i64 c))
        (first | (with_reducible exact ⟨c1, d0, d1, d2, d3⟩) | (with_reducible exact HA.out _ hc1) | (with_reducible exact HA.out _ hc2))
        (first | (go_at_call 98; (with_reducible refine (HSL.out _).mono ?_); rintro e w3 ⟨rfl, hb3⟩; have hc1 := hc0.trans (hb3.mono hc0.size)) | (go_at_call 117; (with_reducible refine (HBY.out _ hc1).mono ?_); rintro e w4 ⟨g4, k4, rfl, ho4, hb4⟩; have hc2 := hc1.trans (hb4.mono hc1.size); have HR4 := Lib.hid (Rd.of_own ho4); have HCK := Lib.hid (specCheck_calls (some ⟨g4, 0, none⟩) k4 X w4 HR4.out (by rw [HXL.out]; omega)); rw [HXL.out] at HCK) | (go_at_call 92; (with_reducible refine HCK.out.mono ?_); rintro e w5 ⟨rfl, rfl⟩; have hc3 := hc2))
      have HB5 := Lib.hid (HB.out.trans (hc2.mono HB.out.size))
      clear hb3 hb4 hc0 hc1 hc2 hc3 ho4 c1 d0 d1 d2 d3
      by_cases hx : xorL X = 0
      · have HV : Hid ((frm ((wb m n s l).drop a) : Nat) = k + 3) := Lib.hid (by rw [HF.out, if_neg (fun h => h hx)])
        generalize xorL X = x at *
        subst hx
        go_wp2_with fail
        go_ret
        exact ⟨by rw [HV.out]; go_num, HB5.out⟩
      · have HV : Hid ((frm ((wb m n s l).drop a) : Nat) = 0) := Lib.hid (by rw [HF.out, if_pos hx])
        generalize xorL X = x at *
        go_wp2_with fail
        go_ret
        exact ⟨by rw [HV.out]; rfl, HB5.out⟩
end Go.Proofs.Ytoelagfcapdfpaa
