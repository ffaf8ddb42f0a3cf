/-
  Bytes taken from a rope (DeleteText, of the document).
-/
import Derived.Test.YtomebbapjolnlaaRpO0
import Derived.Test.YtomebbapjolnlaaRpN
namespace Go.Proofs.Ytomebbapjolnlaa
open Go.RowKit

theorem deleteR_small (m : List (List Int)) (L : List Win) (i j : Int) : (deleteR m L i j).1.length ≤ 1048576 := by
  unfold deleteR
  split
  · have := keptR_len ((splitR L i).1 ++ (splitR L j).2); omega
  · simp
/-- As enterMP, with a variable for the answer. -/
theorem enterMPR (A : Option Addr) (n c : Nat) (B : Option Addr) (l k : Nat) (w : World) :
    ∃ w0, ((w.alloc (.cells #[.slice A n c] 32)).alloc (.cells #[.slice B l k] 36)).alloc (.cells #[.slice none 0 0] 36) = w0 ∧ Below w.heap.size w w0 ∧ MP w0 w.heap.size A n c B l k ∧ w0.heap[w.heap.size + 1 + 1]? = some (.cells #[.slice none 0 0] 36) ∧ w0.heap.size = w.heap.size + 3 := by
  obtain ⟨h1, h2, h3, h4, h5⟩ := enter3 w (.cells #[.slice A n c] 32) (.cells #[.slice B l k] 36) (.cells #[.slice none 0 0] 36)
  exact ⟨_, rfl, h1, ⟨h2, h3⟩, h4, h5⟩
set_option maxRecDepth 100000 in
set_option maxHeartbeats 1600000 in
theorem specDeleteText_calls (A : Option Addr) (c : Nat) (m : List (List Int)) (B : Option Addr) (k : Nat) (L : List Win) (i j : Int) (w : World) (hr : Rd2 w w.heap.size A m) (hn : m.length ≤ maxLen) (hx : RdW w w.heap.size B L) (hl : L.length ≤ maxLen) :
    Calls Try.prog 46 #[.agg #[.slice A m.length c], .agg #[.slice B L.length k], .int .i64 i, .int .i64 j] w fun e w' => ∃ v, e = .returned (.tuple #[.agg #[v], .bool (deleteR m L i j).2]) ∧ OwnW w' w.heap.size w'.heap.size v (deleteR m L i j).1 ∧ Below w.heap.size w w' := by
  obtain ⟨w0, hw0, hb0, hg0, hr0, hz0⟩ := enterMPR A m.length c B L.length k w
  have HC := Lib.hid (specRange_calls A c m B k L i j w0 ((hr.below hb0).more hb0.size) hn ((hx.below hb0).more hb0.size) hl)
  have HX := Lib.hid (hx.below hb0)
  have HB := Lib.hid hb0
  have HW := Lib.hid hw0
  have HG := Lib.hid hg0
  have HZ := Lib.hid hz0
  have HRV := Lib.hid (fun W (hb : Below w0.heap.size w0 W) => ropeVar hr0 hb)
  have c0 := one_cell hg0.m
  have c1 := one_cell hg0.p
  clear hr hx hb0 hw0 hg0 hr0 hz0
  go_enter Try.func46, Try.ntmps46
  go_upto_region 1 with fail
  rw [HW.out]
  go_wp2_with fail
  refine HC.out.mono ?_
  rintro e w2 ⟨rfl, hb2⟩
  have HB2 := Lib.hid hb2
  have c2 := one_cell (HG.out.below hb2).p
  clear hb2 c0 c1
  by_cases hw : RangeOK m L i j
  · rw [show decide (RangeOK m L i j) = true from decide_eq_true hw]
    have HV : Hid (deleteR m L i j = keptR ((splitR L i).1 ++ (splitR L j).2)) := Lib.hid (if_pos hw)
    have h12 := hw.1.1.2.1
    have HWT := Lib.hid hw.1.1
    have hsl1 := (splitR_len L i).1
    have hsl2 := (splitR_len L j).2
    have hi0 := hw.2.1
    have hij := hw.2.2
    have hj := hw.1.2.2
    have HSP := Lib.hid (fun W (hb : Below w0.heap.size w0 W) q (hq : 0 ≤ q ∧ q ≤ rpLen L) => specSplit_calls B k L q W ((HX.out.below (hb.mono HB.out.size)).more (Nat.le_trans HB.out.size hb.size)) h12 HWT.out.len64 hq HWT.out.room64)
    have HS1 := Lib.hid (HSP.out w2 HB2.out i ⟨hi0, by omega⟩)
    clear hw
    go_wp2_with fail
    refine HS1.out.mono ?_
    rintro e w3 ⟨v1, v2, rfl, ho1, ho2, hb3⟩
    obtain ⟨A1, k1, rfl⟩ := ho1.form
    obtain ⟨A2, k2, rfl⟩ := ho2.form
    obtain ⟨F1, hF1⟩ : ∃ F, (splitR L i).1 = F := ⟨_, rfl⟩
    obtain ⟨F2, hF2⟩ : ∃ F, (splitR L i).2 = F := ⟨_, rfl⟩
    rw [hF1] at ho1 HV hsl1 ⊢
    rw [hF2] at ho2 ⊢
    obtain ⟨hb4, g1, g2, hs4⟩ := enter2 w3 (.cells #[.slice A1 F1.length k1] 36) (.cells #[.slice A2 F2.length k2] 36)
    obtain ⟨w4, hw4⟩ : ∃ w4, (w3.alloc (.cells #[.slice A1 F1.length k1] 36)).alloc (.cells #[.slice A2 F2.length k2] 36) = w4 := ⟨_, rfl⟩
    rw [hw4] at hb4 g1 g2 hs4
    have hb34 := hb3.trans (hb4.mono hb3.size)
    have HB4 := Lib.hid (HB2.out.trans (hb34.mono HB2.out.size))
    have HO4 := Lib.hid ((ho1.below hb4).mono (Nat.le_refl _) hb4.size)
    have HG4 := Lib.hid g1
    have HW4 := Lib.hid hw4
    have c4 := one_cell (HG.out.below HB4.out).p
    have HS2 := Lib.hid (HSP.out w4 HB4.out j ⟨by omega, hj⟩)
    clear hb3 hb4 ho1 ho2 g1 g2 hs4 hw4 hb34 hF1 hF2 c2
    go_upto_region 4 with fail
    rw [HW4.out]
    go_wp2_with fail
    refine HS2.out.mono ?_
    rintro e w5 ⟨v3, v4, rfl, ho3, ho4, hb5⟩
    obtain ⟨A3, k3, rfl⟩ := ho3.form
    obtain ⟨A4, k4, rfl⟩ := ho4.form
    obtain ⟨F3, hF3⟩ : ∃ F, (splitR L j).1 = F := ⟨_, rfl⟩
    obtain ⟨F4, hF4⟩ : ∃ F, (splitR L j).2 = F := ⟨_, rfl⟩
    rw [hF3] at ho3 ⊢
    rw [hF4] at ho4 HV hsl2 ⊢
    obtain ⟨hb6, g3, g4, hs6⟩ := enter2 w5 (.cells #[.slice A3 F3.length k3] 36) (.cells #[.slice A4 F4.length k4] 36)
    obtain ⟨w6, hw6⟩ : ∃ w6, (w5.alloc (.cells #[.slice A3 F3.length k3] 36)).alloc (.cells #[.slice A4 F4.length k4] 36) = w6 := ⟨_, rfl⟩
    rw [hw6] at hb6 g3 g4 hs6
    have hb46 := hb5.trans (hb6.mono hb5.size)
    have HB6 := Lib.hid (HB4.out.trans (hb46.mono HB4.out.size))
    have x0 := one_cell ((hb46.block _ (Array.getElem?_eq_some_iff.1 HG4.out).1).trans HG4.out)
    have x1 := one_cell g4
    have HR1 := Lib.hid (((HO4.out.below hb46).mono (Nat.le_refl _) hb46.size).rd)
    have HR2 := Lib.hid (((ho4.below hb6).mono (Nat.le_refl _) hb6.size).rd)
    have HW6 := Lib.hid hw6
    have HJ := Lib.hid (specJoined_calls A1 k1 F1 A4 k4 F4 w6 HR1.out (by omega) HR2.out (by omega))
    have hlq : (F1 ++ F4).length ≤ 1000 := by rw [List.length_append]; omega
    obtain ⟨F, hF⟩ : ∃ F, F1 ++ F4 = F := ⟨_, rfl⟩
    rw [hF] at HV HJ hlq
    clear hb5 hb6 ho3 ho4 g3 g4 hs6 hw6 hb46 hF3 hF4 c4 hF
    go_upto_region 5 with fail
    rw [HW6.out]
    go_wp2_with fail
    refine HJ.out.mono ?_
    rintro e w7 ⟨A7, k7, rfl, ho7, hb7⟩
    have HB7 := Lib.hid (HB6.out.trans (hb7.mono HB6.out.size))
    have HO7 := Lib.hid ho7
    have HK := Lib.hid (specKept_calls A7 k7 F w7 hlq)
    clear hb7 ho7 x0 x1
    go_wp2_with fail
    refine HK.out.mono ?_
    rintro e w8 ⟨rfl, hb8⟩
    have HB8 := Lib.hid (HB7.out.trans (hb8.mono HB7.out.size))
    have ho8 := keptV_own (HO7.out.below hb8)
    obtain ⟨A8, k8, hk8⟩ := keptV_form A7 F k7
    rw [hk8] at ho8 ⊢
    have HO8 := Lib.hid (ho8.mono (Nat.le_refl _) hb8.size)
    clear hb8 ho8 hk8
    obtain ⟨r0, r1, r2⟩ := HRV.out w8 HB8.out
    have r3 := r2 (.slice A8 (keptR F).1.length k8)
    clear r2
    have HSZ := Lib.hid HB6.out.size
    obtain ⟨E1, hE1⟩ : ∃ E1, (keptR F).1 = E1 := ⟨_, rfl⟩
    rw [hE1] at HO8 r3 ⊢
    have HE1 := Lib.hid hE1
    clear hE1
    go_wp2_with fail
    refine bodyPost_ret (v := .tuple #[.agg #[.slice A8 E1.length k8], .bool (keptR F).2]) (by simp [results, Try.results46, go_sem, r3]) rfl ⟨_, by rw [HV.out], ?_, ?_⟩
    · rw [HV.out, HE1.out, World.size_setCell]
      exact (ownW_set HO8.out (by have := HSZ.out; have := HZ.out; omega)).mono (Nat.le_trans HB.out.size HSZ.out) (Nat.le_refl _)
    · exact (HB.out.trans (HB8.out.mono HB.out.size)).setCell (p := ⟨w.heap.size + 1 + 1, 0, none⟩) (by simp; omega) _
  · rw [show decide (RangeOK m L i j) = false from decide_eq_false hw]
    have HV : Hid (deleteR m L i j = ([], false)) := Lib.hid (if_neg hw)
    obtain ⟨r0, r1, r2⟩ := HRV.out w2 HB2.out
    have r3 := r2 (.slice none 0 0)
    clear hw r2
    go_wp2_with fail
    refine bodyPost_ret (v := .tuple #[.agg #[.slice none 0 0], .bool false]) (by simp [results, Try.results46, go_sem, r3]) rfl ⟨_, by rw [HV.out], ?_, ?_⟩
    · rw [HV.out]; exact ownW_nil _ _ _
    · exact (HB.out.trans (HB2.out.mono HB.out.size)).setCell (p := ⟨w.heap.size + 1 + 1, 0, none⟩) (by simp; omega) _
end Go.Proofs.Ytomebbapjolnlaa
