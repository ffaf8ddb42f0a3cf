/-
  TurnWindow of impl.
-/
import Derived.Test.YtlioamjmkaaooaaRgX
namespace Go.Proofs.Ytlioamjmkaaooaa
open Go.RowKit

set_option maxRecDepth 100000 in
set_option maxHeartbeats 3200000 in
theorem implTurnWindow_calls (A : Option Addr) (cm : Nat) (m : List (List Int)) (x : Win) (i : Int) (w : World) (hr : Rd2 w w.heap.size A m) (hn : m.length ≤ maxLen) (hx : WArg x) :
    Calls Try.prog 46 #[.agg #[.slice A m.length cm], .agg #[.int .i64 x.arr, .int .i64 x.start, .int .i64 x.len, .int .i64 x.cap], .int .i64 i] w fun e w' => ∃ v, e = .returned (.tuple #[.agg #[v], .bool (turnR m x i).2]) ∧ OwnM w' w.heap.size w'.heap.size v (turnR m x i).1 ∧ Below w.heap.size w w' := by
  obtain ⟨w0, hw0, hb0, hz0, hmw⟩ := enterMWM A m.length cm x.arr x.start x.len x.cap w
  have HC := Lib.hid (openWindow_calls A cm m x w0 ((hr.below hb0).more hb0.size) hn hx)
  have HB := Lib.hid hb0
  have HW := Lib.hid hw0
  have HMW := Lib.hid hmw
  have c0 := one_cell hmw.mw.mem
  obtain ⟨d0, d1, d2, d3⟩ := four_cells hmw.mw.win
  have hszu : (Try.prog.info? 5).map (·.size) = some 1 := by kernel_rfl
  obtain ⟨i0, hi0, hz, hz1, hz2⟩ := info_parts info_u8
  clear hr hb0 hmw hw0
  go_enter Try.func46, Try.ntmps46
  go_wp2_with fail
  rw [HW.out]
  refine HC.out.mono ?_
  rintro e w2 ⟨hop, hb2⟩
  have HB2 := Lib.hid (HB.out.trans (hb2.mono HB.out.size))
  have HMW2 := Lib.hid (HMW.out.below hb2)
  have hl2 := HB2.out.size
  have hl02 := hb2.size
  clear hb2 c0 d0 d1 d2 d3
  rcases hop with ⟨hm, A2, rfl⟩ | ⟨n, s, l, c, gb, g, cv, cap, o, hnl, rfl, hm, hlc, hsc, h1, h64, h16, rfl, hoo, ho, hrow⟩
  · have HV : Hid (turnR m x i = ([], false)) := Lib.hid (by rw [turnR, if_neg (fun h => hm h.1)])
    obtain ⟨w3, hw3⟩ : ∃ w3, w2.alloc (.cells #[.slice none 0 0] 32) = w3 := ⟨_, rfl⟩
    have hb3 : Below w2.heap.size w2 w3 := by rw [← hw3]; exact (Below.refl _ _).alloc (Nat.le_refl _) _
    have HB3 := Lib.hid (HB2.out.trans (hb3.mono HB2.out.size))
    have r0 := one_cell (HMW2.out.below hb3).res
    have rf := one_frozen (HMW2.out.below hb3).res
    have HW3 := Lib.hid hw3
    clear hm hb3 hw3
    go_upto_region 2 with fail
    rw [HW3.out]
    go_wp2_with fail
    refine bodyPost_ret (v := .tuple #[.agg #[.slice none 0 0], .bool false]) (by simp [results, Try.results46, go_sem, r0]) rfl ⟨_, by rw [HV.out], by rw [HV.out]; exact own_none _ _ _, by (repeat (first | (with_reducible exact Below.refl _ _) | (with_reducible refine Below.drew ?_) | ((with_reducible refine Below.alloc ?_ ?hB _); case hB => (first | (with_reducible exact Nat.le_refl _) | omega | (simp; done) | (simp; omega))) | ((with_reducible refine Below.setCell ?_ ?hB _); case hB => (first | (with_reducible exact Nat.le_refl _) | omega | (simp; done) | (simp; omega))))); exact HB3.out⟩
  · have HM := Lib.hid hm
    have HOO := Lib.hid hoo
    clear hm hoo
    have hsl : s + l ≤ m[n].length := by omega
    obtain ⟨w3, hw3⟩ : ∃ w3, w2.alloc (.cells #[.slice (some ⟨gb, 0, none⟩) m.length cv] 32) = w3 := ⟨_, rfl⟩
    have hb3 : Below w2.heap.size w2 w3 := by rw [← hw3]; exact (Below.refl _ _).alloc (Nat.le_refl _) _
    have HX3 := Lib.hid (show w3.heap[w2.heap.size]? = some (.cells #[.slice (some ⟨gb, 0, none⟩) m.length cv] 32) by rw [← hw3]; exact heap_alloc_new _ _)
    have HMW3 := Lib.hid (HMW2.out.below hb3)
    have HB3 := Lib.hid (HB2.out.trans (hb3.mono HB2.out.size))
    have HB23 := Lib.hid hb3
    have HW3 := Lib.hid hw3
    have hsw : w3.heap.size = w2.heap.size + 1 := by rw [← hw3]; simp
    obtain ⟨gb2, g2, cap2, he, hgb, hg1, hg2, hg3, hg4, hrow2, hcap1, hcap2, hcells, hfr, hro, hset⟩ := ho.row_at hnl h1
    injection he with he; injection he with he; subst he
    rw [hrow] at hrow2
    injection hrow2 with hrow2; injection hrow2 with hrow2 _ hcp; injection hrow2 with hrow2; injection hrow2 with hrow2
    subst hrow2; subst hcp
    have HRO := Lib.hid (own_below hro hb3)
    have HSE := Lib.hid hset
    have r0 := one_cell HMW3.out.res
    have rf := one_frozen HMW3.out.res
    obtain ⟨d0, d1, d2, d3⟩ := four_cells HMW3.out.mw.win
    clear hcells hfr hro hset hrow ho hb3 hw3
    by_cases hi0' : 0 ≤ i
    · by_cases hi1 : i ≤ l
      · obtain ⟨k, rfl⟩ : ∃ k : Nat, i = k := ⟨i.toNat, by omega⟩
        have hk : k ≤ l := by omega
        have HV : Hid (turnR m ⟨n, s, l, c⟩ k = (m.set n (over m[n] s (turnL m n s l k)), true)) := Lib.hid (by
          rw [turnR, if_pos ⟨HM.out, hi0', hi1⟩]
          simp only [Int.toNat_natCast, turnM, getD_eq hnl])
        have HTL := Lib.hid (turnL_len hnl hsl hk)
        have HTE := Lib.hid (show intV .u8 (wb m n (s + k) (l - k)) ++ intV .u8 (wb m n s k) = intV .u8 (turnL m n s l k) by rw [turnL]; simp [intV])
        have HSRC : Hid (∀ W, Below w3.heap.size w3 W → ∀ t u o', (0 < u → o' = t) → t + u ≤ m[n].length → ∀ j v, (intV .u8 (wb m n t u))[j]? = some v → W.cell? ((⟨g, o', none⟩ : Addr).add j) = some v) := Lib.hid fun W hb t u o' ho' htu j v hv => by
          have hrd : Rd W W.heap.size (some ⟨g, 0, none⟩) (intV .u8 m[n]) := Rd.of_own (own_below HRO.out hb)
          have hpt := hrd.part t u
          rw [← wb_eq hnl, Nat.zero_add] at hpt
          have hj := (List.getElem?_eq_some_iff.1 hv).1
          rw [intV_len, wb_len hnl htu] at hj
          rw [ho' (by omega), Go.WideShapes.add_plain]
          exact rd_cell hpt hv
        have j1 : (0 : Int) ≤ (k : Int) := by omega
        have j2 : (k : Int) ≤ (l : Int) := by omega
        have j3 : (l : Int) ≤ (c : Int) := by omega
        have j4 : (k : Int) ≤ (c : Int) := by omega
        have HK : Hid (∀ W, Below w3.heap.size w3 W → W.cell? ⟨w.heap.size + 1, 2, none⟩ = some (.int .i64 l)) := Lib.hid fun W h => (four_cells (HMW3.out.below h).mw.win).2.2.1
        rcases (show k = 0 ∨ (0 < k ∧ k < l) ∨ (0 < k ∧ k = l) by omega) with hk0 | ⟨hk0, hk1⟩ | ⟨hk0, hk1⟩
        · subst hk0
          have HBT : Hid (Below w3.heap.size w3 w3.drew) := Lib.hid (Below.refl _ _).drew
          have hwt : turnL m n s l 0 = wb m n s l := by simp [turnL, wb_zero]
          have HSC : Hid (0 < (turnL m n s l 0).length → ∃ ad, some (⟨g, o, none⟩ : Addr) = some ad ∧ ∀ j v, (intV .u8 (turnL m n s l 0))[j]? = some v → w3.drew.cell? (ad.add j) = some v) := Lib.hid fun h0 => ⟨_, rfl, fun j v hv => by
            rw [hwt] at hv
            exact HSRC.out _ HBT.out s l o (fun h => HOO.out (by omega)) (by omega) j v hv⟩
          clear hwt
          go_upto_region 2 with fail
          rw [HW3.out]
          go_wp2_with fail
          have d2' : w3.drew.cell? ⟨w.heap.size + 1, 2, none⟩ = some (.int .i64 l) := d2
          go_region_held3 (fun W => W.cell? ⟨w.heap.size + 1, 2, none⟩ = some (.int .i64 l))
            (first | (with_reducible exact d2'))
            (fail)
          have HRT := Lib.hid (own_below HRO.out HBT.out)
          have HXT := Lib.hid ((HBT.out.block _ (Array.getElem?_eq_some_iff.1 HX3.out).1).trans HX3.out)
          have HMT := Lib.hid (HMW3.out.below HBT.out)
          have hszT := HBT.out.size
          clear d0 d1 d2 d3 r0 rf
          go_wp2_with (refine wpList_copy_row0 rfl _ _ 45 45 rfl Try.underlying45 hszu _ (some ⟨g, o, none⟩) l c l l rfl rfl g _ cap m[n] HRT.out s (turnL m n s l 0) l HTL.out (by show l = min l l; first | omega | (have h := HTL.out; omega)) (fun h0 => by first | exact rfl | (rw [HTL.out] at h0; rw [HOO.out (by omega)])) (by rw [HTL.out]; exact hsl) HSC.out ?_; intro w7 hown7 hg7; have HOM := Lib.hid (HSE.out w7 _ (over_len (by rw [HTL.out]; exact hsl)) hown7 (((grown_of_below HB23.out (some g)).trans (grown_of_below HBT.out (some g))).trans hg7)); have x0 := one_cell (grown_block hg7 HXT.out (by omega)); have hres := grown_block hg7 HMT.out.res (by omega); have r0 := one_cell hres; have rf := one_frozen hres; have hs7 := hg7.size; have HB7 := Lib.hid (grown_below (HB3.out.trans (HBT.out.mono HB3.out.size)) (Nat.le_trans HB3.out.size hszT) hg7 (by omega)); clear hown7 hg7 hres)
          refine bodyPost_ret (v := .tuple #[.agg #[.slice (some ⟨gb, 0, none⟩) m.length cv], .bool true]) (by simp [results, Try.results46, go_sem, r0]) rfl ⟨_, by rw [HV.out], ?_, by (repeat (first | (with_reducible exact Below.refl _ _) | (with_reducible refine Below.drew ?_) | ((with_reducible refine Below.alloc ?_ ?hB _); case hB => (first | (with_reducible exact Nat.le_refl _) | omega | (simp; done) | (simp; omega))) | ((with_reducible refine Below.setCell ?_ ?hB _); case hB => (first | (with_reducible exact Nat.le_refl _) | omega | (simp; done) | (simp; omega))))); exact HB7.out⟩
          rw [HV.out, World.size_setCell]
          exact (own_setCell HOM.out (.inl (by omega))).mono (by omega) (by omega)
        · obtain rfl : o = s := HOO.out (by omega)
          have hne : ¬ l = k := by omega
          go_upto_region 2 with fail
          rw [HW3.out]
          go_wp2_with fail
          have d2' : w3.drew.cell? ⟨w.heap.size + 1, 2, none⟩ = some (.int .i64 l) := d2
          go_region_held3 (fun W => W.cell? ⟨w.heap.size + 1, 2, none⟩ = some (.int .i64 l))
            (first | (with_reducible exact d2') | (with_reducible exact HK.out _ HBT.out))
            (first | (refine step_append_grows rfl (.tmp 38) (.tmp 41) 45 rfl 5 i0 _ 1 1 Try.underlying45 hi0 hz hz1 hz2 rfl (by decide) (some ⟨g, o + k, none⟩) _ _ (intV .u8 (wb m n (o + k) (l - k))) rfl (fun h => by cases h) (by rw [intV_len, wb_len hnl (by omega)]; omega) (fun b hb => by cases hb; exact HSRC.out _ (Below.refl _ _).drew (o + k) (l - k) _ (by omega) (by omega)) ⟨g, o, none⟩ _ _ (intV .u8 (wb m n o k)) rfl (by rw [intV_len, wb_len hnl (by omega)]; omega) (HSRC.out _ (Below.refl _ _).drew o k _ (fun _ => rfl) (by omega)) (one_intVR _) (by omega) (by simp only [maxLen]; omega) (by omega) ?_; intro v6 w6 hown6 hg6; have ho6 := own_conv (b := (turnL m n o l k).length) (ys := intV .u8 (turnL m n o l k)) hown6 (by have e1 := HTL.out; omega) HTE.out; obtain ⟨A6, c6, rfl⟩ := own_form ho6; have HO6 := Lib.hid ho6; have HBT : Hid (Below w3.heap.size w3 w6) := Lib.hid ((Below.refl w3.heap.size w3).drew.grown hg6 (Nat.le_refl _) (fun q e => by cases e)); clear hown6 hg6 ho6))
          have HSC := Lib.hid (rd_src (Rd.of_own HO6.out))
          have HRT := Lib.hid (own_below HRO.out HBT.out)
          have HXT := Lib.hid ((HBT.out.block _ (Array.getElem?_eq_some_iff.1 HX3.out).1).trans HX3.out)
          have HMT := Lib.hid (HMW3.out.below HBT.out)
          have hszT := HBT.out.size
          clear d0 d1 d2 d3 r0 rf
          go_wp2_with (refine wpList_copy_row0 rfl _ _ 45 45 rfl Try.underlying45 hszu _ _ l c _ _ rfl rfl g _ cap m[n] HRT.out o (turnL m n o l k) l HTL.out (by have h := HTL.out; show l = min (turnL m n o l k).length l; omega) (fun h0 => by first | exact rfl | (rw [HTL.out] at h0; rw [HOO.out (by omega)])) (by rw [HTL.out]; exact hsl) HSC.out ?_; intro w7 hown7 hg7; have HOM := Lib.hid (HSE.out w7 _ (over_len (by rw [HTL.out]; exact hsl)) hown7 (((grown_of_below HB23.out (some g)).trans (grown_of_below HBT.out (some g))).trans hg7)); have x0 := one_cell (grown_block hg7 HXT.out (by omega)); have hres := grown_block hg7 HMT.out.res (by omega); have r0 := one_cell hres; have rf := one_frozen hres; have hs7 := hg7.size; have HB7 := Lib.hid (grown_below (HB3.out.trans (HBT.out.mono HB3.out.size)) (Nat.le_trans HB3.out.size hszT) hg7 (by omega)); clear hown7 hg7 hres)
          refine bodyPost_ret (v := .tuple #[.agg #[.slice (some ⟨gb, 0, none⟩) m.length cv], .bool true]) (by simp [results, Try.results46, go_sem, r0]) rfl ⟨_, by rw [HV.out], ?_, by (repeat (first | (with_reducible exact Below.refl _ _) | (with_reducible refine Below.drew ?_) | ((with_reducible refine Below.alloc ?_ ?hB _); case hB => (first | (with_reducible exact Nat.le_refl _) | omega | (simp; done) | (simp; omega))) | ((with_reducible refine Below.setCell ?_ ?hB _); case hB => (first | (with_reducible exact Nat.le_refl _) | omega | (simp; done) | (simp; omega))))); exact HB7.out⟩
          rw [HV.out, World.size_setCell]
          exact (own_setCell HOM.out (.inl (by omega))).mono (by omega) (by omega)
        · obtain rfl : o = s := HOO.out (by omega)
          subst hk1
          go_upto_region 2 with fail
          rw [HW3.out]
          go_wp2_with fail
          have d2' : w3.drew.cell? ⟨w.heap.size + 1, 2, none⟩ = some (.int .i64 k) := d2
          go_region_held3 (fun W => W.cell? ⟨w.heap.size + 1, 2, none⟩ = some (.int .i64 k))
            (first | (with_reducible exact d2') | (with_reducible exact HK.out _ HBT.out))
            (first | (refine step_append_grows rfl (.tmp 38) (.tmp 41) 45 rfl 5 i0 _ 1 1 Try.underlying45 hi0 hz hz1 hz2 rfl (by decide) (some ⟨g, o, none⟩) _ _ (intV .u8 (wb m n (o + k) (k - k))) rfl (fun h => by cases h) (by rw [intV_len, wb_len hnl (by omega)]; omega) (fun b hb => by cases hb; exact HSRC.out _ (Below.refl _ _).drew (o + k) (k - k) _ (by omega) (by omega)) ⟨g, o, none⟩ _ _ (intV .u8 (wb m n o k)) rfl (by rw [intV_len, wb_len hnl (by omega)]; omega) (HSRC.out _ (Below.refl _ _).drew o k _ (fun _ => rfl) (by omega)) (one_intVR _) (by omega) (by simp only [maxLen]; omega) (by omega) ?_; intro v6 w6 hown6 hg6; have ho6 := own_conv (b := (turnL m n o k k).length) (ys := intV .u8 (turnL m n o k k)) hown6 (by have e1 := HTL.out; omega) HTE.out; obtain ⟨A6, c6, rfl⟩ := own_form ho6; have HO6 := Lib.hid ho6; have HBT : Hid (Below w3.heap.size w3 w6) := Lib.hid ((Below.refl w3.heap.size w3).drew.grown hg6 (Nat.le_refl _) (fun q e => by cases e)); clear hown6 hg6 ho6))
          have HSC := Lib.hid (rd_src (Rd.of_own HO6.out))
          have HRT := Lib.hid (own_below HRO.out HBT.out)
          have HXT := Lib.hid ((HBT.out.block _ (Array.getElem?_eq_some_iff.1 HX3.out).1).trans HX3.out)
          have HMT := Lib.hid (HMW3.out.below HBT.out)
          have hszT := HBT.out.size
          clear d0 d1 d2 d3 r0 rf
          go_wp2_with (refine wpList_copy_row0 rfl _ _ 45 45 rfl Try.underlying45 hszu _ _ k c _ _ rfl rfl g _ cap m[n] HRT.out o (turnL m n o k k) k HTL.out (by have h := HTL.out; show k = min (turnL m n o k k).length k; omega) (fun h0 => by first | exact rfl | (rw [HTL.out] at h0; rw [HOO.out (by omega)])) (by rw [HTL.out]; exact hsl) HSC.out ?_; intro w7 hown7 hg7; have HOM := Lib.hid (HSE.out w7 _ (over_len (by rw [HTL.out]; exact hsl)) hown7 (((grown_of_below HB23.out (some g)).trans (grown_of_below HBT.out (some g))).trans hg7)); have x0 := one_cell (grown_block hg7 HXT.out (by omega)); have hres := grown_block hg7 HMT.out.res (by omega); have r0 := one_cell hres; have rf := one_frozen hres; have hs7 := hg7.size; have HB7 := Lib.hid (grown_below (HB3.out.trans (HBT.out.mono HB3.out.size)) (Nat.le_trans HB3.out.size hszT) hg7 (by omega)); clear hown7 hg7 hres)
          refine bodyPost_ret (v := .tuple #[.agg #[.slice (some ⟨gb, 0, none⟩) m.length cv], .bool true]) (by simp [results, Try.results46, go_sem, r0]) rfl ⟨_, by rw [HV.out], ?_, by (repeat (first | (with_reducible exact Below.refl _ _) | (with_reducible refine Below.drew ?_) | ((with_reducible refine Below.alloc ?_ ?hB _); case hB => (first | (with_reducible exact Nat.le_refl _) | omega | (simp; done) | (simp; omega))) | ((with_reducible refine Below.setCell ?_ ?hB _); case hB => (first | (with_reducible exact Nat.le_refl _) | omega | (simp; done) | (simp; omega))))); exact HB7.out⟩
          rw [HV.out, World.size_setCell]
          exact (own_setCell HOM.out (.inl (by omega))).mono (by omega) (by omega)
      · have HV : Hid (turnR m ⟨n, s, l, c⟩ i = ([], false)) := Lib.hid (by rw [turnR, if_neg (fun h => hi1 h.2.2)])
        go_upto_region 2 with fail
        rw [HW3.out]
        go_wp2_with fail
        refine bodyPost_ret (v := .tuple #[.agg #[.slice none 0 0], .bool false]) (by simp [results, Try.results46, go_sem, r0]) rfl ⟨_, by rw [HV.out], by rw [HV.out]; exact own_none _ _ _, by (repeat (first | (with_reducible exact Below.refl _ _) | (with_reducible refine Below.drew ?_) | ((with_reducible refine Below.alloc ?_ ?hB _); case hB => (first | (with_reducible exact Nat.le_refl _) | omega | (simp; done) | (simp; omega))) | ((with_reducible refine Below.setCell ?_ ?hB _); case hB => (first | (with_reducible exact Nat.le_refl _) | omega | (simp; done) | (simp; omega))))); exact HB3.out⟩
    · have HV : Hid (turnR m ⟨n, s, l, c⟩ i = ([], false)) := Lib.hid (by rw [turnR, if_neg (fun h => hi0' h.2.1)])
      go_upto_region 2 with fail
      rw [HW3.out]
      go_wp2_with fail
      refine bodyPost_ret (v := .tuple #[.agg #[.slice none 0 0], .bool false]) (by simp [results, Try.results46, go_sem, r0]) rfl ⟨_, by rw [HV.out], by rw [HV.out]; exact own_none _ _ _, by (repeat (first | (with_reducible exact Below.refl _ _) | (with_reducible refine Below.drew ?_) | ((with_reducible refine Below.alloc ?_ ?hB _); case hB => (first | (with_reducible exact Nat.le_refl _) | omega | (simp; done) | (simp; omega))) | ((with_reducible refine Below.setCell ?_ ?hB _); case hB => (first | (with_reducible exact Nat.le_refl _) | omega | (simp; done) | (simp; omega))))); exact HB3.out⟩
end Go.Proofs.Ytlioamjmkaaooaa
