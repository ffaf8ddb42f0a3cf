/-
  PartCover of spec.
-/
import Derived.Test.YtomgjhdknondmabCover
namespace Go.Proofs.Ytomgjhdknondmab
open Go.RowKit

set_option maxRecDepth 100000 in
set_option maxHeartbeats 3200000 in
theorem specPartCover_calls (A : Option Addr) (c : Nat) (m : List (List Int)) (B : Option Addr) (k : Nat) (L : List Win) (ar : Int) (w : World) (hr : Rd2 w w.heap.size A m) (hn : m.length ≤ maxLen) (hx : RdW w w.heap.size B L) (hl : L.length ≤ maxLen) :
    Calls Try.prog 26 #[.agg #[.slice A m.length c], .slice B L.length k, .int .i64 ar] w fun e w' => ∃ v n, e = .returned (.tuple #[v, .bool (coverR m L ar).2]) ∧ (coverR m L ar).1.length = n * 2 ∧ w'.ownsRow w.heap.size 105 2 v n (intV .i64 (coverR m L ar).1) ∧ Below w.heap.size w w' := by
  obtain ⟨i0, hi0, hz, hz1, hz2⟩ := info_parts info_pair
  obtain ⟨w0, hw0⟩ : ∃ w0, (w.alloc (.cells #[.slice A m.length c] 31)) = w0 := ⟨_, rfl⟩
  have hb0 : Below w.heap.size w w0 := by rw [← hw0]; exact (Below.refl _ _).alloc (Nat.le_refl _) _
  have hg0 : w0.heap[w.heap.size]? = some (.cells #[.slice A m.length c] 31) := by rw [← hw0]; exact heap_alloc_new _ _
  have hs0 : w0.heap.size = w.heap.size + 1 := by rw [← hw0]; simp
  obtain ⟨w3, hw3⟩ : ∃ w3, w0.alloc (.cells #[] 105) = w3 := ⟨_, rfl⟩
  have hb3 : Below w0.heap.size w0 w3 := by rw [← hw3]; exact (Below.refl _ _).alloc (Nat.le_refl _) _
  have hb3' := hb0.trans (hb3.mono hb0.size)
  have HB3 := Lib.hid hb3'
  have HO3 : Hid (w3.ownsRow w.heap.size 105 2 (.slice (some ⟨w0.heap.size, 0, none⟩) 0 0) 0 []) := Lib.hid (by rw [← hw3]; exact World.ownsRow_made (base := w.heap.size) (e := 105) (size := 2) w0 #[] 0 hb0.size (Nat.zero_le _) rfl)
  have HG3 := Lib.hid ((hb3.block _ (Array.getElem?_eq_some_iff.1 hg0).1).trans hg0)
  have HC := Lib.hid (specWatched_calls A c m B k L w3 ((hr.below hb3').more hb3'.size) hn ((hx.below hb3').more hb3'.size) hl)
  rw [hs0] at HO3
  rw [← hw0] at hw3
  have HR := Lib.hid hr
  have HX := Lib.hid hx
  have HW := Lib.hid hw3
  clear hr hx hb0 hw0 hg0 hb3 hs0 hw3 hb3'
  go_enter Try.func26, Try.ntmps26
  go_upto_region 2 with fail
  rw [HW.out]
  have c3 := one_cell HG3.out
  go_wp2_with fail
  clear c3
  refine HC.out.mono ?_
  rintro e w4 ⟨rfl, hb4⟩
  have HB4 := Lib.hid (HB3.out.trans (hb4.mono HB3.out.size))
  have HO4 := Lib.hid (own_keep HO3.out hb4)
  have c4 := one_cell ((hb4.block _ (Array.getElem?_eq_some_iff.1 HG3.out).1).trans HG3.out)
  clear hb4
  by_cases hw : Watched m L
  · rw [show decide (Watched m L) = true from decide_eq_true hw]
    have HWT := Lib.hid hw
    have h12 := hw.2.1
    have h16 := hw.1.1
    have HP := Lib.hid (specIn_calls ar 0 (m.length - 1) w4)
    clear hw
    by_cases hp : ArrOK m ar
    · rw [show decide ((0 : Int) ≤ ar ∧ ar ≤ (m.length : Int) - 1) = true from decide_eq_true (by have := hp.1; have := hp.2; omega)] at HP
      obtain ⟨n, rfl⟩ : ∃ n : Nat, ar = n := ⟨ar.toNat, by have := hp.1; omega⟩
      have hnl : n < m.length := by have := hp.2; omega
      have h64 := (HWT.out.1.2 m[n] (List.getElem_mem hnl)).2
      obtain ⟨cs, hcs⟩ : ∃ cs, countsTo L n m[n].length = cs := ⟨_, rfl⟩
      have hcl : m[n].length = cs.length := by rw [← hcs, countsTo_len]
      have HV := Lib.hid (show coverR m L n = (cov cs cs.length, true) by rw [coverR, if_pos ⟨HWT.out, hp⟩, Int.toNat_natCast, getD_eq hnl, hcs, hcl])
      have HN : Hid (Calls Try.prog 93 #[.agg #[.slice A m.length c], .slice B L.length k, .int .i64 n] w4 fun e w' => ∃ (Av : Option Addr) (cvv : Nat), e = .returned (.slice Av cs.length cvv) ∧ w'.ownsRow w4.heap.size 3 1 (.slice Av cs.length cvv) cs.length (intV .i64 cs) ∧ Below w4.heap.size w4 w') := Lib.hid (by
        have h := specCounts_calls A c m B k L n w4 ((HR.out.below HB4.out).more HB4.out.size) HWT.out.1 hnl ((HX.out.below HB4.out).more HB4.out.size) HWT.out.tame h12
        rw [hcs, hcl] at h
        exact h.mono (by rintro e w' ⟨g, cap, h1, h2, h3⟩; exact ⟨_, _, h1, h2, h3⟩))
      have HNN := Lib.hid (show ∀ z ∈ cs, 0 ≤ z by rw [← hcs]; exact counts_nonneg _ _ _)
      have hsm : cs.length ≤ 64 := by omega
      clear hp hcs hcl h64
      go_wp2_with fail
      refine HP.out.mono ?_
      rintro e w5 ⟨rfl, rfl⟩
      go_wp2_with fail
      refine HN.out.mono ?_
      rintro e w6 ⟨Av, cvv, rfl, ho6, hb6⟩
      have HBB := Lib.hid (HB4.out.trans (hb6.mono HB4.out.size))
      have HCO := Lib.hid (own_mono0 ho6 HB4.out.size)
      have HOO := Lib.hid (own_keep HO4.out hb6)
      clear ho6 hb6 c4
      go_wp2_with fail
      go_loopw [8, 10] (fun v i wr => ∃ k : Nat, k ≤ cs.length ∧ i = .int .i64 k ∧ wr.ownsRow w.heap.size 3 1 (.slice Av cs.length cvv) cs.length (intV .i64 cs) ∧ wr.ownsRow w.heap.size 105 2 v (covN cs k) (intV .i64 (cov cs k)) ∧ Below w.heap.size w wr ∧ ∃ g cap, v = .slice (some ⟨g, 0, none⟩) (covN cs k) cap) (fun _ i _ => cs.length - (intOf i).toNat)
      case atStart => exact ⟨0, Nat.zero_le _, rfl, HCO.out, by simpa [cov, covN, intV] using HOO.out, HBB.out, by rw [show covN cs 0 = 0 by simp [covN, cov]]; exact ⟨_, _, rfl⟩⟩
      case round =>
        obtain ⟨k, hk, rfl, hcown, hown, hbr, gv, cv, rfl⟩ := hrel
        have HO := Lib.hid hown
        have HC1 := Lib.hid hcown
        have HBR := Lib.hid hbr
        have hbs := hbr.size
        have hcn := covN_le cs k
        have HC2 := Lib.hid (covN_two cs k)
        clear hown hbr hcown
        by_cases hlt : k < cs.length
        · obtain ⟨b, off, rfl, hbb, hc⟩ := (Rd.of_own HC1.out).int hlt
          have hnn := HNN.out _ (List.getElem_mem hlt)
          have HGD := Lib.hid (show cs.getD k 0 = cs[k] by rw [List.getD_eq_getElem?_getD, List.getElem?_eq_getElem hlt]; rfl)
          by_cases h0 : cs[k] = 0
          · have HE := Lib.hid (show cov cs (k + 1) = cov cs k by rw [cov_succ, HGD.out, if_pos h0])
            have HE2 := Lib.hid (show covN cs (k + 1) = covN cs k by unfold covN; rw [HE.out])
            rw [h0] at hc
            clear h0 hnn
            go_wp2_with fail
            go_roundw
            case rel => exact ⟨k + 1, by omega, by go_num, HC1.out, by rw [HE.out, HE2.out]; exact HO.out, HBR.out, by rw [HE2.out]; exact ⟨_, _, rfl⟩⟩
            case measure => simp [intOf]; omega
          · have h0b : (cs[k] == 0) = false := by simp [h0]
            have HK0 := Lib.hid h0
            have hrb := run_pair1
            by_cases hgo : 0 < k ∧ 0 < cs.getD (k - 1) 0
            · obtain ⟨j, rfl⟩ : ∃ j, k = j + 1 := ⟨k - 1, by omega⟩
              have hj := hgo.2
              rw [Nat.add_sub_cancel] at hj
              obtain ⟨b', off', he', hbb', hc'⟩ := (Rd.of_own HC1.out).int (i := j) (by omega)
              injection he' with he'
              injection he' with q1 q2
              subst q1; subst q2
              have HGJ := Lib.hid (show cs.getD j 0 = cs[j]'(by omega) by rw [List.getD_eq_getElem?_getD, List.getElem?_eq_getElem (by omega)]; rfl)
              rw [HGJ.out] at hj
              have h2 := cov_two cs j (by rw [HGJ.out]; exact hj)
              have HE := Lib.hid (show cov cs (j + 1 + 1) = (cov cs (j + 1)).set ((cov cs (j + 1)).length - 1) ((j + 1 : Nat) : Int) by rw [cov_succ, HGD.out, if_neg HK0.out, if_pos hgo])
              have HE2 := Lib.hid (show covN cs (j + 1 + 1) = covN cs (j + 1) by unfold covN; rw [HE.out, List.length_set])
              obtain ⟨q, hq⟩ : ∃ q, covN cs (j + 1) = q + 1 := ⟨covN cs (j + 1) - 1, by have := HC2.out; omega⟩
              have hl := HC2.out
              rw [hq] at HO HE2 hl
              rw [hq]
              have HST := Lib.hid (HO.out.stored (q * 2 + 1) (.int .i64 ((j + 1 : Nat) : Int)))
              have HIV := Lib.hid (show (intV .i64 (cov cs (j + 1))).set (q * 2 + 1) (.int .i64 ((j + 1 : Nat) : Int)) = intV .i64 (cov cs (j + 1 + 1)) by
                rw [HE.out, show (cov cs (j + 1)).length - 1 = q * 2 + 1 by omega]; unfold intV; rw [List.map_set])
              have hf := HO.out.frozenAt (q * 2 + 1)
              obtain ⟨u, hu⟩ : ∃ u, wr.cell? ⟨gv, q * 2 + 1, none⟩ = some u := ⟨_, by rw [HO.out.cellAt _ (by omega), List.getElem?_eq_getElem (by rw [intV_len]; omega)]⟩
              have HLT := Lib.hid (HO.out.lt gv rfl)
              have hj1 : ((j + 1 : Nat) : Int) - 1 = j := by omega
              have hq1 : ((q + 1 : Nat) : Int) - 1 = q := by omega
              have HNE := Lib.hid (own_ne HC1.out HO.out (by decide))
              have hq64 : q ≤ 64 := by omega
              clear h2 hgo h0 hl hnn hbb'
              generalize cs[j + 1] = z at *
              generalize cs[j] = z' at *
              go_wp2_with fail
              go_roundw
              case rel => exact ⟨j + 1 + 1, by omega, by go_num, HC1.out.kept HST.out.2 HNE.out, by rw [HE2.out, ← HIV.out]; exact HST.out.1, HBR.out.setCell (p := ⟨gv, q * 2 + 1, none⟩) HLT.out.1 _, by rw [HE2.out]; exact ⟨_, _, rfl⟩⟩
              case measure => simp [intOf]; omega
            · have HE := Lib.hid (show cov cs (k + 1) = cov cs k ++ [(k : Int), (k : Int)] by rw [cov_succ, HGD.out, if_neg HK0.out, if_neg hgo])
              have HE2 := Lib.hid (show covN cs (k + 1) = covN cs k + 1 by have := covN_two cs (k + 1); rw [HE.out, List.length_append, HC2.out] at this; simp at this; omega)
              have HLAW := Lib.hid (show intV .i64 (cov cs k) ++ [.int .i64 k, .int .i64 k] = intV .i64 (cov cs (k + 1)) by rw [HE.out]; simp [intV])
              rcases Nat.eq_zero_or_pos k with rfl | hk0
              · have e0 : covN cs 0 = 0 := by omega
                rw [e0] at HO HE2
                rw [e0]
                clear h0 hnn hgo hcn e0
                rw [Nat.add_zero] at hc
                generalize cs[0] = z at *
                go_wp2_with ((at_builtin; refine wpList_append_own _ rfl _ _ 42 rfl w.heap.size 105 i0 _ 2 16 Try.underlying42 hi0 hz hz1 hz2 rfl (by decide) _ _ _ rfl (HO.out.alloc _) ⟨wr.heap.size, 0, none⟩ 1 1 [.int .i64 (0 : Int), .int .i64 (0 : Int)] rfl rfl (cell_two_new _ _ _ _) (by simp [Value.oneCell']) (by simp only [maxLen]; omega) (by omega) (by simp; omega) ?_; intro v' w5 hown5 hgrow _))
                have HB5 : Hid (Below w.heap.size w w5) := below_own0 (HBR.out.alloc hbs _) (HO.out.alloc _) hgrow (by simp; omega)
                have HO5 : Hid (w5.ownsRow w.heap.size 105 2 v' (covN cs (0 + 1)) (intV .i64 (cov cs (0 + 1)))) := Lib.hid (by rw [HE2.out, ← HLAW.out]; exact hown5)
                have HC5 := Lib.hid ((HC1.out.alloc (.cells #[.int .i64 (0 : Int), .int .i64 (0 : Int)] 105)).kept hgrow (own_ne (HC1.out.alloc _) (HO.out.alloc (.cells #[.int .i64 (0 : Int), .int .i64 (0 : Int)] 105)) (by decide)))
                have HF5 := Lib.hid (own_some0 HO5.out (by rw [HE2.out]; omega))
                clear hown5 hgrow hrb
                go_roundw
                case rel => exact ⟨0 + 1, by omega, by go_num, HC5.out, HO5.out, HB5.out, HF5.out⟩
                case measure => simp [intOf]; omega
              · obtain ⟨j, rfl⟩ : ∃ j, k = j + 1 := ⟨k - 1, by omega⟩
                obtain ⟨b', off', he', hbb', hc'⟩ := (Rd.of_own HC1.out).int (i := j) (by omega)
                injection he' with he'
                injection he' with q1 q2
                subst q1; subst q2
                have hj0 : cs[j]'(by omega) = 0 := by
                  have hnn' := HNN.out (cs[j]'(by omega)) (List.getElem_mem (by omega))
                  have : ¬ 0 < cs.getD j 0 := fun h => hgo ⟨by omega, by rw [Nat.add_sub_cancel]; exact h⟩
                  rw [List.getD_eq_getElem?_getD, List.getElem?_eq_getElem (by omega)] at this
                  simp only [Option.getD_some] at this
                  omega
                rw [hj0] at hc'
                have hj1 : ((j + 1 : Nat) : Int) - 1 = j := by omega
                clear h0 hnn hgo hj0 hbb'
                generalize cs[j + 1] = z at *
                go_wp2_with ((at_builtin; refine wpList_append_own _ rfl _ _ 42 rfl w.heap.size 105 i0 _ 2 16 Try.underlying42 hi0 hz hz1 hz2 rfl (by decide) _ _ _ rfl (HO.out.alloc _) ⟨wr.heap.size, 0, none⟩ 1 1 [.int .i64 (j + 1 : Nat), .int .i64 (j + 1 : Nat)] rfl rfl (cell_two_new _ _ _ _) (by simp [Value.oneCell']) (by simp only [maxLen]; omega) (by omega) (by simp; omega) ?_; intro v' w5 hown5 hgrow _))
                have HB5 : Hid (Below w.heap.size w w5) := below_own0 (HBR.out.alloc hbs _) (HO.out.alloc _) hgrow (by simp; omega)
                have HO5 : Hid (w5.ownsRow w.heap.size 105 2 v' (covN cs ((j + 1) + 1)) (intV .i64 (cov cs ((j + 1) + 1)))) := Lib.hid (by rw [HE2.out, ← HLAW.out]; exact hown5)
                have HC5 := Lib.hid ((HC1.out.alloc (.cells #[.int .i64 (j + 1 : Nat), .int .i64 (j + 1 : Nat)] 105)).kept hgrow (own_ne (HC1.out.alloc _) (HO.out.alloc (.cells #[.int .i64 (j + 1 : Nat), .int .i64 (j + 1 : Nat)] 105)) (by decide)))
                have HF5 := Lib.hid (own_some0 HO5.out (by rw [HE2.out]; omega))
                clear hown5 hgrow hrb
                go_roundw
                case rel => exact ⟨(j + 1) + 1, by omega, by go_num, HC5.out, HO5.out, HB5.out, HF5.out⟩
                case measure => simp [intOf]; omega
        · obtain rfl : k = cs.length := by omega
          go_wp2_with fail
          go_ret2
          exact ⟨_, covN cs cs.length, by rw [HV.out]; rfl, by rw [HV.out]; exact HC2.out, by rw [HV.out]; exact HO.out, HBR.out⟩
    · rw [show decide ((0 : Int) ≤ ar ∧ ar ≤ (m.length : Int) - 1) = false from decide_eq_false (fun h => hp ⟨h.1, by omega⟩)] at HP
      have HV := Lib.hid (show coverR m L ar = ([], false) by rw [coverR, if_neg (fun h => hp h.2)])
      clear hp
      go_wp2_with fail
      refine HP.out.mono ?_
      rintro e w5 ⟨rfl, rfl⟩
      go_wp2_with fail
      go_ret2
      exact ⟨_, 0, by rw [HV.out]; rfl, by rw [HV.out]; rfl, by rw [HV.out]; exact HO4.out, HB4.out⟩
  · rw [show decide (Watched m L) = false from decide_eq_false hw]
    have HV := Lib.hid (show coverR m L ar = ([], false) by rw [coverR, if_neg (fun h => hw h.1)])
    clear hw
    go_wp2_with fail
    go_ret2
    exact ⟨_, 0, by rw [HV.out]; rfl, by rw [HV.out]; rfl, by rw [HV.out]; exact HO4.out, HB4.out⟩
end Go.Proofs.Ytomgjhdknondmab
