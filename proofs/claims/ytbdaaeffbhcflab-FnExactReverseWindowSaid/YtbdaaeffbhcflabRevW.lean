/-
  ReverseWindow of spec and impl.
-/
import Derived.Test.YtbdaaeffbhcflabRev
namespace Go.Proofs.Ytbdaaeffbhcflab
open Go.RowKit

/-- What ReverseWindow answers. -/
def revR (m : List (List Int)) (x : Win) : List (List Int) × Bool :=
  if WinOK m x then (m.set x.arr.toNat (over (m.getD x.arr.toNat []) x.start.toNat (wb m x.arr.toNat x.start.toNat x.len.toNat).reverse), true) else ([], false)
theorem revR_small (m : List (List Int)) (x : Win) : Small (revR m x).1 := by
  unfold revR
  split
  · rename_i h
    obtain ⟨n, s, l, c, rfl, hnl, hlc, hsc, h1, h64, h16⟩ := h.nat
    have hl : (wb m n s l).length = l := wb_len hnl (by omega)
    simp only [Int.toNat_natCast, getD_eq hnl]
    exact small_set h.1 (by rw [over_len (by rw [List.length_reverse, hl]; omega)]; exact h64)
  · exact ⟨by simp, fun r hr => by simp at hr⟩

set_option maxRecDepth 100000 in
set_option maxHeartbeats 3200000 in
theorem implReverseWindow_calls (A : Option Addr) (cm : Nat) (m : List (List Int)) (x : Win) (w : World) (hr : Rd2 w w.heap.size A m) (hn : m.length ≤ maxLen) (hx : WArg x) :
    Calls Try.prog 37 #[.agg #[.slice A m.length cm], .agg #[.int .i64 x.arr, .int .i64 x.start, .int .i64 x.len, .int .i64 x.cap]] w fun e w' => ∃ v, e = .returned (.tuple #[.agg #[v], .bool (revR m x).2]) ∧ OwnM w' w.heap.size w'.heap.size v (revR m x).1 ∧ Below w.heap.size w w' := by
  obtain ⟨w0, hw0, hb0, hz0, hmw⟩ := enterMWM A m.length cm x.arr x.start x.len x.cap w
  have HC := Lib.hid (openWindow_calls A cm m x w0 ((hr.below hb0).more hb0.size) hn hx)
  have HB := Lib.hid hb0
  have HW := Lib.hid hw0
  have HMW := Lib.hid hmw
  clear hr hb0 hmw hw0
  go_enter Try.func37, Try.ntmps37
  go_wp2_with fail
  rw [HW.out]
  refine HC.out.mono ?_
  rintro e w2 ⟨hop, hb2⟩
  have HB2 := Lib.hid (HB.out.trans (hb2.mono HB.out.size))
  have HB02 := Lib.hid hb2
  have HMW2 := Lib.hid (HMW.out.below hb2)
  have hl2 := HB2.out.size
  have hl02 := HB02.out.size
  clear hb2
  rcases hop with ⟨hm, A2, rfl⟩ | ⟨n, s, l, c, gb, g, cv, cap, o, hnl, rfl, hm, hlc, hsc, h1, h64, h16, rfl, hoo, ho, hrow⟩
  · have HV : Hid (revR m x = ([], false)) := Lib.hid (by rw [revR, if_neg hm])
    clear hm
    obtain ⟨w3, hw3⟩ : ∃ w3, w2.alloc (.cells #[.slice none 0 0] 31) = w3 := ⟨_, rfl⟩
    have hb3 : Below w2.heap.size w2 w3 := by rw [← hw3]; exact (Below.refl _ _).alloc (Nat.le_refl _) _
    have x0 := one_cell (show w3.heap[w2.heap.size]? = some (.cells #[.slice none 0 0] 31) by rw [← hw3]; exact heap_alloc_new _ _)
    have hmw3 := HMW2.out.below hb3
    have r0 := one_cell hmw3.res
    have rf := one_frozen hmw3.res
    have HB3 := Lib.hid (HB2.out.trans (hb3.mono HB2.out.size))
    have HW3 := Lib.hid hw3
    clear hb3 hmw3 hw3
    have HE0 := Lib.hid (AnyE.slices_Reverse_empty rev_lays A2 0 w3)
    go_upto_region 2 with fail
    rw [HW3.out]
    go_wp2_with fail
    refine HE0.out.mono ?_
    rintro e w4 ⟨rfl, rfl⟩
    go_wp2_with fail
    refine bodyPost_ret (v := .tuple #[.agg #[.slice none 0 0], .bool false]) (by simp [results, Try.results37, go_sem, r0]) rfl ⟨_, by rw [HV.out], by rw [HV.out]; exact own_none _ _ _, by (repeat (first | (with_reducible exact Below.refl _ _) | (with_reducible refine Below.drew ?_) | ((with_reducible refine Below.alloc ?_ ?hB _); case hB => (first | (with_reducible exact Nat.le_refl _) | omega | (simp; done) | (simp; omega))) | ((with_reducible refine Below.setCell ?_ ?hB _); case hB => (first | (with_reducible exact Nat.le_refl _) | omega | (simp; done) | (simp; omega))))); exact HB3.out⟩
  · have HM := Lib.hid hm
    have HOO := Lib.hid hoo
    clear hm hoo
    obtain ⟨w3, hw3⟩ : ∃ w3, w2.alloc (.cells #[.slice (some ⟨gb, 0, none⟩) m.length cv] 31) = w3 := ⟨_, rfl⟩
    have hb3 : Below w2.heap.size w2 w3 := by rw [← hw3]; exact (Below.refl _ _).alloc (Nat.le_refl _) _
    have HX3 := Lib.hid (show w3.heap[w2.heap.size]? = some (.cells #[.slice (some ⟨gb, 0, none⟩) m.length cv] 31) by rw [← hw3]; exact heap_alloc_new _ _)
    have HMW3 := Lib.hid (HMW2.out.below hb3)
    have HB3 := Lib.hid (HB2.out.trans (hb3.mono HB2.out.size))
    have HW3 := Lib.hid hw3
    have HSW := Lib.hid (show w2.heap.size + 1 = w3.heap.size by rw [← hw3]; simp)
    obtain ⟨gb2, g2, cap2, he, hgb, hg1, hg2, hg3, hg4, hrow2, hcap1, hcap2, hcells, hfr, hro, hset⟩ := ho.row_at hnl h1
    injection he with he; injection he with he; subst he
    rw [hrow] at hrow2
    injection hrow2 with hrow2; injection hrow2 with hrow2 _ hcp; injection hrow2 with hrow2; injection hrow2 with hrow2
    subst hrow2; subst hcp
    have HRO := Lib.hid (own_below hro hb3)
    have HG3 := Lib.hid (grown_of_below hb3 (some g))
    have HSE := Lib.hid hset
    have HV : Hid (revR m ⟨n, s, l, c⟩ = (m.set n (over m[n] s (wb m n s l).reverse), true)) := Lib.hid (by rw [revR, if_pos HM.out]; simp only [Int.toNat_natCast, getD_eq hnl])
    clear hcells hfr hro hset hrow ho hb3 hw3
    have hlen : (wb m n s l).length = l := wb_len hnl (by omega)
    have HRV : Hid (Calls Try.prog 64 #[.slice (some ⟨g, o, none⟩) l c] w3 fun e w' => e = .returned (.tuple #[]) ∧ w'.ownsRow w0.heap.size 5 1 (.slice (some ⟨g, 0, none⟩) m[n].length cap) m[n].length (intV .u8 (over m[n] s (wb m n s l).reverse)) ∧ w3.grownBy w' (some g)) := Lib.hid (by
      by_cases hl0 : l = 0
      · subst hl0
        refine (AnyE.slices_Reverse_empty rev_lays (some ⟨g, o, none⟩) c w3).mono ?_
        rintro e w' ⟨rfl, rfl⟩
        exact ⟨rfl, by rw [wb_zero, List.reverse_nil, over_nil]; exact HRO.out, World.grownBy.refl _ _⟩
      · obtain rfl : o = s := HOO.out (by omega)
        have h := reverse_calls g o c w0.heap.size cap m[n] (wb m n o l) w3 HRO.out h1 (by rw [hlen, wb_eq hnl]) (by rw [hlen]; omega) h64
        rw [hlen] at h
        exact h)
    clear hlen
    go_upto_region 2 with fail
    rw [HW3.out]
    go_wp2_with fail
    refine HRV.out.mono ?_
    rintro e wr ⟨rfl, hown, hg⟩
    have hov : (over m[n] s (wb m n s l).reverse).length = m[n].length := over_len (by rw [List.length_reverse, wb_len hnl (by omega)]; omega)
    have HOM := Lib.hid (HSE.out wr _ hov hown (HG3.out.trans hg))
    have HBR := Lib.hid (grown_below HB3.out HB3.out.size hg (by omega))
    have hres := grown_block hg HMW3.out.res (by omega)
    have r0 := one_cell hres
    have rf := one_frozen hres
    have x0 := one_cell (grown_block hg HX3.out (by omega))
    have HSZ := Lib.hid hg.size
    clear hown hg hres hov
    go_wp2_with fail
    refine bodyPost_ret (v := .tuple #[.agg #[.slice (some ⟨gb, 0, none⟩) m.length cv], .bool true]) (by simp [results, Try.results37, go_sem, r0]) rfl ⟨_, by rw [HV.out], ?_, by (repeat (first | (with_reducible exact Below.refl _ _) | (with_reducible refine Below.drew ?_) | ((with_reducible refine Below.alloc ?_ ?hB _); case hB => (first | (with_reducible exact Nat.le_refl _) | omega | (simp; done) | (simp; omega))) | ((with_reducible refine Below.setCell ?_ ?hB _); case hB => (first | (with_reducible exact Nat.le_refl _) | omega | (simp; done) | (simp; omega))))); exact HBR.out⟩
    rw [HV.out, World.size_setCell]
    refine (own_setCell HOM.out (.inl (by omega))).mono (by omega) ?_
    have h1 := HSZ.out
    have h2 := HSW.out
    omega

set_option maxRecDepth 100000 in
set_option maxHeartbeats 3200000 in
theorem specReverseWindow_calls (A : Option Addr) (cm : Nat) (m : List (List Int)) (x : Win) (w : World) (hr : Rd2 w w.heap.size A m) (hn : m.length ≤ maxLen) :
    Calls Try.prog 36 #[.agg #[.slice A m.length cm], .agg #[.int .i64 x.arr, .int .i64 x.start, .int .i64 x.len, .int .i64 x.cap]] w fun e w' => ∃ v, e = .returned (.tuple #[.agg #[v], .bool (revR m x).2]) ∧ OwnM w' w.heap.size w'.heap.size v (revR m x).1 ∧ Below w.heap.size w w' := by
  obtain ⟨w0, hw0, hb0, hz0, hmw⟩ := enterMWM A m.length cm x.arr x.start x.len x.cap w
  obtain ⟨i0, hi0, hz, hz1, hz2⟩ := info_parts info_u8
  have HC := Lib.hid (specWindow_calls A cm m x w0 ((hr.below hb0).more hb0.size) hn)
  have HB := Lib.hid hb0
  have HR := Lib.hid hr
  have HW := Lib.hid hw0
  have HMW := Lib.hid hmw
  clear hr hb0 hmw hw0
  go_enter Try.func36, Try.ntmps36
  go_wp2_with fail
  rw [HW.out]
  refine HC.out.mono ?_
  rintro e w2 ⟨rfl, hb2⟩
  have HB2 := Lib.hid (HB.out.trans (hb2.mono HB.out.size))
  have HB02 := Lib.hid hb2
  have HMW2 := Lib.hid (HMW.out.below hb2)
  have hl2 := HB2.out.size
  have hl02 := HB02.out.size
  clear hb2
  by_cases hm : WinOK m x
  · have hd : decide (WinOK m x) = true := decide_eq_true hm
    have HM := Lib.hid hm
    obtain ⟨n, s, l, c, rfl, hnl, hlc, hsc, h1, h64, h16⟩ := hm.nat
    have HV : Hid (revR m ⟨n, s, l, c⟩ = (m.set n (over m[n] s (wb m n s l).reverse), true)) := Lib.hid (by rw [revR, if_pos HM.out]; simp only [Int.toNat_natCast, getD_eq hnl])
    clear hm
    dsimp only at *
    rw [hd]
    clear hd
    have HO0 := Lib.hid (World.ownsRow_made (base := w2.heap.size) (e := 5) (size := 1) w2 #[] 0 (Nat.le_refl _) (Nat.zero_le _) rfl)
    obtain ⟨w3, hw3⟩ : ∃ w3, w2.alloc (.cells #[] 5) = w3 := ⟨_, rfl⟩
    have hb3 : Below w2.heap.size w2 w3 := by rw [← hw3]; exact (Below.refl _ _).alloc (Nat.le_refl _) _
    have HB3 := Lib.hid hb3
    have HW3 := Lib.hid hw3
    have HO3 : Hid (w3.ownsRow w2.heap.size 5 1 (.slice (some ⟨w2.heap.size, 0, none⟩) 0 0) 0 []) := Lib.hid (by rw [← hw3]; exact HO0.out)
    clear hb3 hw3 HO0
    obtain ⟨z0, z1, z2, z3⟩ := four_cells (HMW2.out.below HB3.out).mw.win
    have hlen : (wb m n s l).length = l := wb_len hnl (by omega)
    have HLEN := Lib.hid hlen
    clear hlen
    go_upto_region 4 with fail
    rw [HW3.out]
    go_wp2_with fail
    clear z0 z1 z2 z3
    go_loopw [6, 7] (fun v i wr => ∃ k : Nat, k ≤ l ∧ i = .int .i64 ((l : Int) - 1 - k) ∧ wr.ownsRow w2.heap.size 5 1 v k (intV .u8 ((wb m n s l).reverse.take k)) ∧ Below w2.heap.size w2 wr) (fun _ i _ => (intOf i + 1).toNat)
    case atStart => exact ⟨0, Nat.zero_le _, by simp, by simpa [intV] using HO3.out, HB3.out⟩
    case round =>
      obtain ⟨k, hk, rfl, hown, hbr⟩ := hrel
      have hmw3 := HMW2.out.below hbr
      have c1 := one_cell hmw3.mw.mem
      obtain ⟨d0, d1, d2, d3⟩ := four_cells hmw3.mw.win
      have hbs := hbr.size
      have HO := Lib.hid hown
      have HBR := Lib.hid hbr
      by_cases hlt : k < l
      · obtain ⟨t, ht⟩ : ∃ t : Nat, t + k + 1 = l := ⟨l - 1 - k, by omega⟩
        have hti : (l : Int) - 1 - k = t := by omega
        rw [hti]
        have hst : s + t < m[n].length := by omega
        have HS := Lib.hid (specAt_calls A cm m n s t l c wr ((HR.out.below (HB2.out.trans (hbr.mono HB2.out.size))).more (Nat.le_trans HB2.out.size hbs)) hnl h16 hst h64)
        have hkr : k < (wb m n s l).reverse.length := by rw [List.length_reverse, HLEN.out]; exact hlt
        have HSN := Lib.hid (show intV .u8 ((wb m n s l).reverse.take (k + 1)) = intV .u8 ((wb m n s l).reverse.take k) ++ [.int .u8 m[n][s + t]] by
          rw [List.take_succ_eq_append_getElem hkr, List.getElem_reverse]
          unfold intV
          rw [List.map_append]
          have e : (wb m n s l)[(wb m n s l).length - 1 - k]'(by rw [HLEN.out]; omega) = m[n][s + t] := by
            have e2 : (wb m n s l).length - 1 - k = t := by rw [HLEN.out]; omega
            simp only [e2]
            exact wb_get hnl _ hst
          rw [e]
          rfl)
        generalize m[n][s + t] = q at *
        clear hown hbr hmw3 hkr hti
        go_wp2_with fail
        refine HS.out.mono ?_
        rintro e w3b ⟨rfl, hb3b⟩
        have HBR2 := Lib.hid (HBR.out.trans (hb3b.mono HBR.out.size))
        have HO2 := Lib.hid (own_below HO.out hb3b)
        have hbs2 := HBR2.out.size
        clear hb3b c1 d0 d1 d2 d3
        go_wp2_with ((at_builtin; refine wpList_append_own _ rfl _ _ 43 rfl w2.heap.size 5 i0 _ 1 1 Try.underlying43 hi0 hz hz1 hz2 rfl (by decide) _ _ _ rfl (HO2.out.alloc _) ⟨w3b.heap.size, 0, none⟩ 1 1 [.int .u8 q] rfl rfl (cell_one_new _ _ _) (by simp [Value.oneCell']) (by simp only [maxLen]; omega) (by omega) (by simp; omega) ?_; intro v' w4 hown4 hgrow _))
        have HB4 : Hid (Below w2.heap.size w2 w4) := below_own2 (HBR2.out.alloc hbs2 _) (HO2.out.alloc _) hgrow (by simp; omega)
        have HO4 : Hid (w4.ownsRow w2.heap.size 5 1 v' (k + 1) (intV .u8 ((wb m n s l).reverse.take (k + 1)))) := Lib.hid (by rw [HSN.out]; exact hown4)
        clear hown4 hgrow
        go_roundw
        case rel => exact ⟨k + 1, by omega, by go_num, HO4.out, HB4.out⟩
        case measure => simp [intOf]
      · obtain rfl : k = l := by omega
        have hneg : (k : Int) - 1 - k = -1 := by omega
        rw [hneg]
        rw [List.take_of_length_le (by rw [List.length_reverse, HLEN.out]; exact Nat.le_refl _)] at hown
        obtain ⟨LA, lc, rfl⟩ := own_form hown
        have hlr : (wb m n s k).reverse.length = k := by rw [List.length_reverse, HLEN.out]
        have hown2 := hown
        have hrd : Rd wr wr.heap.size LA (intV .u8 (wb m n s k).reverse) := Rd.of_own hown2
        have HS := Lib.hid (by
          have h := specWrite_calls A cm m n s 0 k c LA lc (wb m n s k).reverse wr ((HR.out.below (HB2.out.trans (hbr.mono HB2.out.size))).more (Nat.le_trans HB2.out.size hbs)) HM.out.1 hnl (by rw [hlr]; omega) hrd
          rw [hlr, Nat.add_zero] at h
          exact h)
        clear hown hown2 hrd hbr hmw3 hlr
        go_wp2_with fail
        refine HS.out.mono ?_
        rintro e w5 ⟨v, rfl, ho, hb5⟩
        obtain ⟨Av, cv, rfl, hcv⟩ := ho.form
        have HO5 := Lib.hid ho
        have HB5 := Lib.hid ((HB2.out.trans (HBR.out.mono HB2.out.size)).trans (hb5.mono (Nat.le_trans HB2.out.size hbs)))
        have hmw5 := (HMW2.out.below HBR.out).below hb5
        have r0 := one_cell hmw5.res
        have rf := one_frozen hmw5.res
        clear ho hb5 hmw5 hcv c1 d0 d1 d2 d3
        go_wp2_with fail
        refine bodyPost_ret (v := .tuple #[.agg #[.slice Av (m.set n (over m[n] s (wb m n s k).reverse)).length cv], .bool true]) (by simp [results, Try.results36, go_sem, r0]) rfl ⟨_, by rw [HV.out], ?_, by (repeat (first | (with_reducible exact Below.refl _ _) | (with_reducible refine Below.drew ?_) | ((with_reducible refine Below.alloc ?_ ?hB _); case hB => (first | (with_reducible exact Nat.le_refl _) | omega | (simp; done) | (simp; omega))) | ((with_reducible refine Below.setCell ?_ ?hB _); case hB => (first | (with_reducible exact Nat.le_refl _) | omega | (simp; done) | (simp; omega))))); exact HB5.out⟩
        rw [HV.out, World.size_setCell]
        exact (own_setCell HO5.out (.inl (by omega))).mono (by omega) (Nat.le_refl _)
  · have hd : decide (WinOK m x) = false := decide_eq_false hm
    have HV : Hid (revR m x = ([], false)) := Lib.hid (by rw [revR, if_neg hm])
    have r0 := one_cell HMW2.out.res
    have rf := one_frozen HMW2.out.res
    clear hm
    go_wp2_with fail
    refine bodyPost_ret (v := .tuple #[.agg #[.slice none 0 0], .bool false]) (by simp [results, Try.results36, go_sem, r0]) rfl ⟨_, by rw [HV.out], by rw [HV.out]; exact own_none _ _ _, by (repeat (first | (with_reducible exact Below.refl _ _) | (with_reducible refine Below.drew ?_) | ((with_reducible refine Below.alloc ?_ ?hB _); case hB => (first | (with_reducible exact Nat.le_refl _) | omega | (simp; done) | (simp; omega))) | ((with_reducible refine Below.setCell ?_ ?hB _); case hB => (first | (with_reducible exact Nat.le_refl _) | omega | (simp; done) | (simp; omega))))); exact HB2.out⟩
end Go.Proofs.Ytbdaaeffbhcflab
