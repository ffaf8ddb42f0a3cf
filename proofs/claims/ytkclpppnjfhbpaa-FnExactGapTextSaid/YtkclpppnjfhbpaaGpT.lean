/-
  The text of a gap: l6Text, GapText of spec.
-/
import Derived.Test.YtkclpppnjfhbpaaGpI
import Derived.Test.YtkclpppnjfhbpaaCpy0
import Derived.Test.YtkclpppnjfhbpaaBytes
namespace Go.Proofs.Ytkclpppnjfhbpaa
open Go.RowKit

theorem one_int (k : IntKind) (zs : List Int) : ∀ u ∈ intV k zs, u.oneCell' = true := fun u hu => by
  obtain ⟨z, _, rfl⟩ := List.mem_map.1 hu
  rfl

set_option maxRecDepth 100000 in
set_option maxHeartbeats 3200000 in
theorem specText_calls (A : Option Addr) (cm : Nat) (m : List (List Int)) (n s l c a b : Nat) (w : World) (hr : Rd2 w w.heap.size A m) (hok : GpOK m ⟨⟨n, s, l, c⟩, a, b⟩) :
    Calls Try.prog 90 #[.agg #[.slice A m.length cm, .int .i64 n, .int .i64 s, .int .i64 l, .int .i64 c, .int .i64 a, .int .i64 b]] w fun e w' => ∃ v, e = .returned v ∧ w'.ownsRow w.heap.size 5 1 v (textL m n s l a b).length (intV .u8 (textL m n s l a b)) ∧ Below w.heap.size w w' := by
  obtain ⟨n', s', l', c', a', b', hnl, e, hab, hbl, hlc, hsc, h1m, h64, h16⟩ := hok.nat
  injection e with e1 e2 e3
  injection e1 with e4 e5 e6 e7
  obtain rfl : n = n' := by omega
  obtain rfl : s = s' := by omega
  obtain rfl : l = l' := by omega
  obtain rfl : c = c' := by omega
  obtain rfl : a = a' := by omega
  obtain rfl : b = b' := by omega
  clear e2 e3 e4 e5 e6 e7
  obtain ⟨w0, hw0, hb0, hz0, hg0⟩ := enterG A m.length cm ⟨⟨n, s, l, c⟩, a, b⟩ w
  dsimp only at hw0 hg0
  obtain ⟨i0, hi0, hz, hz1, hz2⟩ := info_parts info_u8
  have HC := Lib.hid (specBytes_calls A cm m n s l c w0 ((hr.below hb0).more hb0.size) hnl h16 (by omega) h64)
  have HB := Lib.hid hb0
  have HW := Lib.hid hw0
  have HG := Lib.hid hg0
  have hwl : (wb m n s l).length = l := wb_len hnl (by omega)
  have HT := Lib.hid (show textL m n s l a b = (wb m n s l).take a ++ (wb m n s l).drop b from rfl)
  obtain ⟨c0, d0, d1, d2, d3, d4, d5⟩ := gap_cells hg0
  generalize wb m n s l = Z at *
  clear hb0 hw0 hg0 hr hz0 hok
  go_enter Try.func90, Try.ntmps90
  go_upto_region 1 with fail
  rw [HW.out]
  go_wp2_with fail
  refine HC.out.mono ?_
  rintro e w3 ⟨g3, k3, rfl, ho3, hb3⟩
  have HB3 := Lib.hid (HB.out.trans (hb3.mono HB.out.size))
  have HK := Lib.hid (fun (W : World) (hb : Below w3.heap.size w3 W) => gap_cells ((hb.block _ (Nat.lt_of_lt_of_le (Array.getElem?_eq_some_iff.1 HG.out).1 hb3.size)).trans ((hb3.block _ (Array.getElem?_eq_some_iff.1 HG.out).1).trans HG.out)))
  have hcap := own_cap ho3
  have hk3 := (own_le ho3).2
  have HRD := Lib.hid (Rd.of_own ho3)
  have hs3 := HB3.out.size
  clear hb3 ho3 c0 d0 d1 d2 d3 d4 d5
  obtain ⟨c0, d0, d1, d2, d3, d4, d5⟩ := HK.out w3.drew (Below.refl _ _).drew
  have hca : Below w3.heap.size w3 (w3.alloc (.cells #[] 5)).drew := ((Below.refl _ _).alloc (Nat.le_refl _) _).drew
  have HF0 := Lib.hid (World.ownsRow_made (base := w3.heap.size) (e := 5) (size := 1) w3.drew #[] 0 (Nat.le_refl _) (Nat.zero_le _) rfl)
  have HS1 : Hid (∀ W, Below w3.heap.size w3 W → ∀ j u, (intV .u8 (Z.take a))[j]? = some u → W.cell? ((⟨g3, 0, none⟩ : Addr).add j) = some u) := Lib.hid fun W hb => rd_cells (rd_take (HRD.out.below hb) a)
  have HS2 : Hid (∀ W, Below w3.heap.size w3 W → ∀ j u, (intV .u8 (Z.drop b))[j]? = some u → W.cell? ((⟨g3, b, none⟩ : Addr).add j) = some u) := Lib.hid fun W hb => rd_cells (by
    have h := (HRD.out.below hb).part b (l - b)
    rw [Nat.zero_add, List.take_of_length_le (by rw [List.length_drop]; omega)] at h
    exact h)
  have hla : (intV .u8 (Z.take a)).length = a * 1 := by rw [intV_len, List.length_take]; omega
  have hlb : (intV .u8 (Z.drop b)).length = (l - b) * 1 := by rw [intV_len, List.length_drop]; omega
  have HLA := Lib.hid hla
  have HLB := Lib.hid hlb
  have HOA := Lib.hid (one_int .u8 (Z.take a))
  have HOB := Lib.hid (one_int .u8 (Z.drop b))
  have hl64 : l ≤ 64 := by omega
  have HWL := Lib.hid hwl
  clear hla hlb hwl
  have HF1 := Lib.hid (show (w3.alloc (.cells #[] 5)).drew.ownsRow w3.heap.size 5 1 (.slice (some ⟨w3.heap.size, 0, none⟩) 0 0) 0 [] from HF0.out)
  have hz3 : w3.heap.size ≤ (w3.alloc (.cells #[] 5)).drew.heap.size := hca.size
  have i1 : (0 : Int) ≤ a := by omega
  have i2 : (a : Int) ≤ k3 := by omega
  have i3 : (0 : Int) ≤ b := by omega
  have i4 : (b : Int) ≤ l := by omega
  unfold maxLen at hk3
  rcases (show b = k3 ∨ b < k3 by omega) with hbk | hbk
  · obtain rfl : l = b := by omega
    have HBK := Lib.hid hbk
    subst hbk
    have HNB := Lib.hid (show Z.drop l = [] from List.drop_eq_nil_of_le (by rw [HWL.out]; exact Nat.le_refl _))
    go_wp2_with fail
    go_region_held3 (fun W => W.cell? ⟨w.heap.size, 0, none⟩ = some (.slice A m.length cm) ∧ W.cell? ⟨w.heap.size, 1, none⟩ = some (.int .i64 n) ∧ W.cell? ⟨w.heap.size, 2, none⟩ = some (.int .i64 s) ∧ W.cell? ⟨w.heap.size, 3, none⟩ = some (.int .i64 l) ∧ W.cell? ⟨w.heap.size, 4, none⟩ = some (.int .i64 c) ∧ W.cell? ⟨w.heap.size, 5, none⟩ = some (.int .i64 a) ∧ W.cell? ⟨w.heap.size, 6, none⟩ = some (.int .i64 l))
      (first | (with_reducible exact ⟨c0, d0, d1, d2, d3, d4, d5⟩) | (with_reducible exact HK.out _ hca) | (with_reducible exact HK.out _ hc5) | (with_reducible exact HK.out _ hc6))
      (first | (refine step_append_ring rfl (.tmp 9) (.tmp 13) 46 rfl w3.heap.size 5 i0 _ 1 1 Try.underlying46 hi0 hz hz1 hz2 rfl (by decide) (.slice (some ⟨w3.heap.size, 0, none⟩) 0 0) 0 [] (by simp [Act.eval]) HF1.out ⟨g3, 0, none⟩ a l (intV .u8 (Z.take a)) (by simp [Act.eval]) HLA.out (HS1.out _ hca) HOA.out (by simp only [maxLen]; omega) (by omega) hz3 ?_; intro v5 w5 hown5 hgrow5; have hc5 : Below w3.heap.size w3 w5 := below_own2 hca HF1.out hgrow5 hz3; rw [Nat.zero_add, List.nil_append] at hown5; obtain ⟨A5, q5, rfl⟩ := own_form hown5; have HO5 := Lib.hid hown5; clear hown5 hgrow5) | (refine step_append_ring rfl (.tmp 14) (.tmp 18) 46 rfl w3.heap.size 5 i0 _ 1 1 Try.underlying46 hi0 hz hz1 hz2 rfl (by decide) (.slice A5 a q5) a (intV .u8 (Z.take a)) (by simp [Act.eval]) HO5.out ⟨g3, 0, none⟩ 0 0 [] (by simp [Act.eval]) (by simp) (by simp) (by simp) (by simp only [maxLen]; omega) (by omega) hc5.size ?_; intro v6 w6 hown6 hgrow6; have hc6 : Below w3.heap.size w3 w6 := below_own2 hc5 HO5.out hgrow6 hc5.size))
    have HO6 : Hid (w6.ownsRow w.heap.size 5 1 v6 (textL m n s l a l).length (intV .u8 (textL m n s l a l))) := Lib.hid (by
      rw [HT.out, HNB.out, List.append_nil, List.length_take, HWL.out, show min a l = a by omega]
      rw [List.append_nil, Nat.add_zero] at hown6
      exact own_monoR hown6 hs3)
    have HB6 := Lib.hid (HB3.out.trans (hc6.mono HB3.out.size))
    clear hown6 hgrow6 hc5 hc6
    go_wp2_with fail
    go_ret
    exact ⟨_, rfl, HO6.out, HB6.out⟩
  · go_wp2_with fail
    go_region_held3 (fun W => W.cell? ⟨w.heap.size, 0, none⟩ = some (.slice A m.length cm) ∧ W.cell? ⟨w.heap.size, 1, none⟩ = some (.int .i64 n) ∧ W.cell? ⟨w.heap.size, 2, none⟩ = some (.int .i64 s) ∧ W.cell? ⟨w.heap.size, 3, none⟩ = some (.int .i64 l) ∧ W.cell? ⟨w.heap.size, 4, none⟩ = some (.int .i64 c) ∧ W.cell? ⟨w.heap.size, 5, none⟩ = some (.int .i64 a) ∧ W.cell? ⟨w.heap.size, 6, none⟩ = some (.int .i64 b))
      (first | (with_reducible exact ⟨c0, d0, d1, d2, d3, d4, d5⟩) | (with_reducible exact HK.out _ hca) | (with_reducible exact HK.out _ hc5) | (with_reducible exact HK.out _ hc6))
      (first | (refine step_append_ring rfl (.tmp 9) (.tmp 13) 46 rfl w3.heap.size 5 i0 _ 1 1 Try.underlying46 hi0 hz hz1 hz2 rfl (by decide) (.slice (some ⟨w3.heap.size, 0, none⟩) 0 0) 0 [] (by simp [Act.eval]) HF1.out ⟨g3, 0, none⟩ a k3 (intV .u8 (Z.take a)) (by simp [Act.eval]) HLA.out (HS1.out _ hca) HOA.out (by simp only [maxLen]; omega) (by omega) hz3 ?_; intro v5 w5 hown5 hgrow5; have hc5 : Below w3.heap.size w3 w5 := below_own2 hca HF1.out hgrow5 hz3; rw [Nat.zero_add, List.nil_append] at hown5; obtain ⟨A5, q5, rfl⟩ := own_form hown5; have HO5 := Lib.hid hown5; clear hown5 hgrow5) | (refine step_append_ring rfl (.tmp 14) (.tmp 18) 46 rfl w3.heap.size 5 i0 _ 1 1 Try.underlying46 hi0 hz hz1 hz2 rfl (by decide) (.slice A5 a q5) a (intV .u8 (Z.take a)) (by simp [Act.eval]) HO5.out ⟨g3, b, none⟩ (l - b) (k3 - b) (intV .u8 (Z.drop b)) (by simp [Act.eval]; omega) HLB.out (HS2.out _ hc5) HOB.out (by simp only [maxLen]; omega) (by omega) hc5.size ?_; intro v6 w6 hown6 hgrow6; have hc6 : Below w3.heap.size w3 w6 := below_own2 hc5 HO5.out hgrow6 hc5.size))
    have HO6 : Hid (w6.ownsRow w.heap.size 5 1 v6 (textL m n s l a b).length (intV .u8 (textL m n s l a b))) := Lib.hid (by
      rw [HT.out, List.length_append, List.length_take, List.length_drop, HWL.out, show min a l = a by omega]
      rw [show intV .u8 (Z.take a ++ Z.drop b) = intV .u8 (Z.take a) ++ intV .u8 (Z.drop b) by simp [intV]]
      exact own_monoR hown6 hs3)
    have HB6 := Lib.hid (HB3.out.trans (hc6.mono HB3.out.size))
    clear hown6 hgrow6 hc5 hc6
    go_wp2_with fail
    go_ret
    exact ⟨_, rfl, HO6.out, HB6.out⟩

set_option maxRecDepth 100000 in
set_option maxHeartbeats 800000 in
theorem specGapText_calls (A : Option Addr) (cm : Nat) (m : List (List Int)) (g : Gp) (w : World) (hr : Rd2 w w.heap.size A m) (hn : m.length ≤ maxLen) :
    Calls Try.prog 31 #[.agg #[.slice A m.length cm, .int .i64 g.w.arr, .int .i64 g.w.start, .int .i64 g.w.len, .int .i64 g.w.cap, .int .i64 g.fr, .int .i64 g.up]] w fun e w' => ∃ v, e = .returned (.tuple #[v, .bool (gapTextR m g).2]) ∧ w'.ownsRow w.heap.size 5 1 v (gapTextR m g).1.length (intV .u8 (gapTextR m g).1) ∧ Below w.heap.size w w' := by
  obtain ⟨w0, hw0, hb0, hz0, hg0⟩ := enterG A m.length cm g w
  have HC := Lib.hid (specGap_calls A cm m g w0 ((hr.below hb0).more hb0.size) hn)
  have HB := Lib.hid hb0
  have HR := Lib.hid hr
  have HW := Lib.hid hw0
  have HG := Lib.hid hg0
  obtain ⟨c0, d0, d1, d2, d3, d4, d5⟩ := gap_cells hg0
  clear hr hb0 hg0 hw0 hz0
  go_enter Try.func31, Try.ntmps31
  go_wp2_with fail
  rw [HW.out]
  refine HC.out.mono ?_
  rintro e w2 ⟨rfl, hb2⟩
  have HB2 := Lib.hid (HB.out.trans (hb2.mono HB.out.size))
  have hg2 := (hb2.block _ (Array.getElem?_eq_some_iff.1 HG.out).1).trans HG.out
  clear hb2 c0 d0 d1 d2 d3 d4 d5
  obtain ⟨c0, d0, d1, d2, d3, d4, d5⟩ := gap_cells hg2
  clear hg2
  by_cases hok : GpOK m g
  · have hd : decide (GpOK m g) = true := decide_eq_true hok
    have HS : Hid (Calls Try.prog 90 #[.agg #[.slice A m.length cm, .int .i64 g.w.arr, .int .i64 g.w.start, .int .i64 g.w.len, .int .i64 g.w.cap, .int .i64 g.fr, .int .i64 g.up]] w2 fun e w' => ∃ v, e = .returned v ∧ w'.ownsRow w2.heap.size 5 1 v (gapTextR m g).1.length (intV .u8 (gapTextR m g).1) ∧ Below w2.heap.size w2 w') := Lib.hid (by
      rw [gapTextR, if_pos hok]
      obtain ⟨n, s, l, c, a, b, hnl, rfl, _⟩ := hok.nat
      simp only [Int.toNat_natCast]
      exact specText_calls A cm m n s l c a b w2 ((HR.out.below HB2.out).more HB2.out.size) hok)
    have HV : Hid ((gapTextR m g).2 = true) := Lib.hid (by rw [gapTextR, if_pos hok])
    clear hok
    go_wp2_with fail
    refine HS.out.mono ?_
    rintro e w4 ⟨v, rfl, ho, hb4⟩
    have HO := Lib.hid (own_monoR ho HB2.out.size)
    have HB4 := Lib.hid (HB2.out.trans (hb4.mono HB2.out.size))
    clear ho hb4
    go_wp2_with fail
    go_ret2
    exact ⟨_, by rw [HV.out]; rfl, HO.out, HB4.out⟩
  · have hd : decide (GpOK m g) = false := decide_eq_false hok
    have HV : Hid (gapTextR m g = ([], false)) := Lib.hid (by rw [gapTextR, if_neg hok])
    clear hok
    have HO := Lib.hid (World.ownsRow_made (base := w.heap.size) (e := 5) (size := 1) w2 #[] 0 HB2.out.size (Nat.zero_le _) rfl)
    go_wp2_with fail
    go_ret2
    exact ⟨_, by rw [HV.out]; rfl, by rw [HV.out]; exact HO.out, by have hl := HB2.out.size; (repeat (first | (with_reducible exact Below.refl _ _) | (with_reducible refine Below.drew ?_) | ((with_reducible refine Below.alloc ?_ ?hB _); case hB => (first | (with_reducible exact Nat.le_refl _) | omega | (simp; done) | (simp; omega))) | ((with_reducible refine Below.setCell ?_ ?hB _); case hB => (first | (with_reducible exact Nat.le_refl _) | omega | (simp; done) | (simp; omega))))); exact HB2.out⟩
end Go.Proofs.Ytkclpppnjfhbpaa
