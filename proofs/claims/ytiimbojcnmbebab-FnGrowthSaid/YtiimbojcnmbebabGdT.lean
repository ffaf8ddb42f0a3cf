/-
  Draws of growth: DrawCapsOf, DrawSingleCost, DrawNextCap.
-/
import Derived.Test.YtiimbojcnmbebabGdS
namespace Go.Proofs.Ytiimbojcnmbebab
open Go.RowKit

theorem own_monoD {w : World} {b1 b0 n : Nat} {e : TypeId} {v : Value} {xs : List Value} (h : w.ownsRow b1 e 1 v n xs) (hb : b0 ≤ b1) : w.ownsRow b0 e 1 v n xs := by
  refine ⟨h.1, ?_⟩
  rcases h.2 with h0 | ⟨g', cap, cur, r0, hb1, r⟩
  · exact .inl h0
  · exact .inr ⟨g', cap, cur, r0, Nat.le_trans hb hb1, r⟩
theorem cur_newG (w : World) (A : Option Addr) (n cp : Nat) : Cur (w.alloc (.cells #[.slice A n cp, .int .i64 0, .int .u64 0] 63)) w.heap.size A n cp 0 := ⟨0, 0, Nat.le_refl _, by decide, by decide, heap_alloc_new _ _⟩
set_option maxRecDepth 100000 in
set_option maxHeartbeats 3200000 in
theorem drawCaps_calls (n cp : Nat) (A : Option Addr) (zs : List Int) (w : World) (hr : Rd w w.heap.size A (intV .u8 zs)) (hn : zs.length = n) (hm : n ≤ 65536) (hz : ∀ z ∈ zs, (Lit.int .u8 z).wf = true) :
    Calls Try.prog 6 #[.slice A n cp] w fun e w' => ∃ (g : GR) (xs : List Int) (q c : Nat), e = .returned (.tuple #[.agg #[.int .i64 g.num, .int .i64 g.den, .int .i64 g.add], .slice (some ⟨q, 0, none⟩) xs.length c]) ∧ SmG g ∧ xs.length ≤ 41 ∧ (∀ x ∈ xs, Wf x) ∧ w'.ownsRow (w.heap.size + 1) 3 1 (.slice (some ⟨q, 0, none⟩) xs.length c) xs.length (intV .i64 xs) ∧ Below w.heap.size w w' := by
  obtain ⟨w1, hw1⟩ : ∃ w1, (w.alloc (.cells #[.int .i64 0, .int .i64 0, .int .i64 0] 25)).alloc (.cells #[.slice A n cp, .int .i64 0, .int .u64 0] 63) = w1 := ⟨_, rfl⟩
  have hb1 : Below w.heap.size w w1 := by rw [← hw1]; exact ((Below.refl _ _).alloc (Nat.le_refl _) _).alloc (by simp) _
  have hr1 : w1.heap[w.heap.size]? = some (.cells #[.int .i64 0, .int .i64 0, .int .i64 0] 25) := by rw [← hw1]; exact alloc_oldG _ (heap_alloc_new _ _)
  have hc1 : Cur w1 (w.heap.size + 1) A n cp 0 := by rw [← hw1]; exact (by simpa using cur_newG (w.alloc (.cells #[.int .i64 0, .int .i64 0, .int .i64 0] 25)) A n cp)
  obtain ⟨B, hBE⟩ : ∃ B, w.heap.size + 1 = B := ⟨_, rfl⟩
  rw [hBE] at hc1
  have nB : B ≠ w.heap.size := by omega
  have hBw : w.heap.size ≤ B := by omega
  have hs1 := hc1.lt
  have HL := Lib.hid (fun (W : World) ts m' (hc : Cur W B A n cp m') (hr : Rd W B A (intV .u8 zs)) h0 h1 h2 q h4 => among_lit B n cp m' A zs ts W hc hr hn hm hz h0 h1 h2 q h4)
  have HGR := Lib.hid (growRule_calls B n cp 0 A zs w1 hc1 ((hr.below hb1).more (by omega)) hn hm hz (by omega))
  have HAP := Lib.hid (fun (W : World) m' (hc : Cur W B A n cp m') (hr : Rd W B A (intV .u8 zs)) h0 => appends_calls B n cp m' A zs W hc hr hn hm hz h0)
  have HRG := Lib.hid (fun (W : World) (h : Below w.heap.size w W) => ((hr.below h).more (by omega) : Rd W B A (intV .u8 zs)))
  have HB1 := Lib.hid hb1
  have HR1 := Lib.hid hr1
  have HW := Lib.hid hw1
  have HBE := Lib.hid hBE
  clear hr hn hz hw1 hb1 hr1 hc1 hBE
  go_enter Try.func6, Try.ntmps6
  go_upto_region 2 with fail
  rw [HW.out, HBE.out]
  go_wp2_with fail
  refine HGR.out.mono ?_
  rintro e w2 ⟨g, rfl, hsm, hc2, hg2⟩
  have HB2 := Lib.hid (HB1.out.grown hg2 (Nat.le_of_lt (Nat.lt_of_le_of_lt (by omega) hs1)) (fun k e => by injection e with e; omega))
  have hr2 := block_grownG hg2 HR1.out (fun e => by injection e with e; exact nB e)
  have HSM := Lib.hid hsm
  have HAPP := Lib.hid (HAP.out w2 _ hc2 (HRG.out w2 HB2.out) (by omega))
  clear hc2 hg2 hsm
  have HR2 := Lib.hid hr2
  clear hr2
  go_wp2_with fail
  refine HAPP.out.mono ?_
  rintro e w3 ⟨xs, q, c, rfl, hxl, hxw, ho3, hc3, hg3⟩
  have HB3 := Lib.hid (HB2.out.grown hg3 HB2.out.size (fun k e => by injection e with e; omega))
  have hr3 := block_grownG hg3 HR2.out (fun e => by injection e with e; exact nB e)
  have hq2 : w.heap.size + 1 ≤ w2.heap.size := (Array.getElem?_eq_some_iff.1 HR2.out).1
  have HO3 := Lib.hid (own_monoD ho3 hq2)
  have HXW := Lib.hid hxw
  clear hg3 hc3 ho3 hxw
  obtain ⟨r0, r1, r2⟩ := three_cells hr3
  obtain ⟨f0, f1, f2⟩ := three_frozen hr3
  have hr0 := Lib.hid hr3
  clear hr3
  go_wp2_with fail
  refine bodyPost_ret (v := .tuple #[.agg #[.int .i64 g.num, .int .i64 g.den, .int .i64 g.add], .slice (some ⟨q, 0, none⟩) xs.length c]) (by simp [results, Try.results6, go_sem, r0, r1, r2]) rfl ?_
  refine ⟨g, xs, q, c, rfl, HSM.out, hxl, HXW.out, ?_, ?_⟩
  · repeat refine ownsRow_setCell_below ?_ (by show w.heap.size < w.heap.size + 1; omega) _
    exact HO3.out
  · have hB := HB3.out
    (repeat (first | (with_reducible exact Below.refl _ _) | (with_reducible refine Below.drew ?_) | ((with_reducible refine Below.alloc ?_ ?hB _); case hB => (first | (with_reducible exact Nat.le_refl _) | omega | (simp; done) | (simp; omega))) | ((with_reducible refine Below.setCell ?_ ?hB _); case hB => (first | (with_reducible exact Nat.le_refl _) | omega | (simp; done) | (simp; omega)))))
    exact hB
set_option maxRecDepth 100000 in
set_option maxHeartbeats 3200000 in
theorem drawSingle_calls (n cp : Nat) (A : Option Addr) (zs : List Int) (w : World) (hr : Rd w w.heap.size A (intV .u8 zs)) (hn : zs.length = n) (hm : n ≤ 65536) (hz : ∀ z ∈ zs, (Lit.int .u8 z).wf = true) :
    Calls Try.prog 16 #[.slice A n cp] w fun e w' => ∃ (g : GR) (k : Int), e = .returned (.tuple #[.agg #[.int .i64 g.num, .int .i64 g.den, .int .i64 g.add], .int .i64 k]) ∧ SmG g ∧ Wf k ∧ Below w.heap.size w w' := by
  obtain ⟨w1, hw1⟩ : ∃ w1, (w.alloc (.cells #[.int .i64 0, .int .i64 0, .int .i64 0] 25)).alloc (.cells #[.slice A n cp, .int .i64 0, .int .u64 0] 63) = w1 := ⟨_, rfl⟩
  have hb1 : Below w.heap.size w w1 := by rw [← hw1]; exact ((Below.refl _ _).alloc (Nat.le_refl _) _).alloc (by simp) _
  have hr1 : w1.heap[w.heap.size]? = some (.cells #[.int .i64 0, .int .i64 0, .int .i64 0] 25) := by rw [← hw1]; exact alloc_oldG _ (heap_alloc_new _ _)
  have hc1 : Cur w1 (w.heap.size + 1) A n cp 0 := by rw [← hw1]; exact (by simpa using cur_newG (w.alloc (.cells #[.int .i64 0, .int .i64 0, .int .i64 0] 25)) A n cp)
  obtain ⟨B, hBE⟩ : ∃ B, w.heap.size + 1 = B := ⟨_, rfl⟩
  rw [hBE] at hc1
  have nB : B ≠ w.heap.size := by omega
  have hBw : w.heap.size ≤ B := by omega
  have hs1 := hc1.lt
  have HL := Lib.hid (fun (W : World) ts m' (hc : Cur W B A n cp m') (hr : Rd W B A (intV .u8 zs)) h0 h1 h2 q h4 => among_lit B n cp m' A zs ts W hc hr hn hm hz h0 h1 h2 q h4)
  have HGR := Lib.hid (growRule_calls B n cp 0 A zs w1 hc1 ((hr.below hb1).more (by omega)) hn hm hz (by omega))
  have HAP := Lib.hid (fun (W : World) m' (hc : Cur W B A n cp m') (hr : Rd W B A (intV .u8 zs)) h0 => appends_calls B n cp m' A zs W hc hr hn hm hz h0)
  have HRG := Lib.hid (fun (W : World) (h : Below w.heap.size w W) => ((hr.below h).more (by omega) : Rd W B A (intV .u8 zs)))
  have HB1 := Lib.hid hb1
  have HR1 := Lib.hid hr1
  have HW := Lib.hid hw1
  have HBE := Lib.hid hBE
  clear hr hn hz hw1 hb1 hr1 hc1 hBE
  go_enter Try.func16, Try.ntmps16
  go_upto_region 2 with fail
  rw [HW.out, HBE.out]
  go_wp2_with fail
  refine HGR.out.mono ?_
  rintro e w2 ⟨g, rfl, hsm, hc2, hg2⟩
  have HB2 := Lib.hid (HB1.out.grown hg2 (Nat.le_of_lt (Nat.lt_of_le_of_lt (by omega) hs1)) (fun k e => by injection e with e; omega))
  have hr2 := block_grownG hg2 HR1.out (fun e => by injection e with e; exact nB e)
  have HSM := Lib.hid hsm
  clear hg2 hsm
  have HA3 := Lib.hid (HL.out w2 [10, 20, 5, 1, 0, 100, 2000, 2001, -1] _ hc2 (HRG.out w2 HB2.out) (by omega) (by decide) (by decide) 9 rfl)
  clear hc2
  go_wp2_with fail
  refine HA3.out.mono ?_
  rintro e w3 ⟨⟨t3, ht3, rfl⟩, hc3, hg3⟩
  have hw3 : Wf t3 := by simp at ht3; exact wf_of (by omega) (by omega)
  have HWF3 := Lib.hid hw3
  have HB3 := Lib.hid (HB2.out.grown hg3 HB2.out.size (fun k e => by injection e with e; omega))
  have hr3 := block_grownG hg3 hr2 (fun e => by injection e with e; exact nB e)
  clear ht3 hw3 hr2 hg3
  obtain ⟨r0, r1, r2⟩ := three_cells hr3
  obtain ⟨f0, f1, f2⟩ := three_frozen hr3
  have hr0 := Lib.hid hr3
  clear hr3
  go_wp2_with fail
  refine bodyPost_ret (v := .tuple #[.agg #[.int .i64 g.num, .int .i64 g.den, .int .i64 g.add], .int .i64 t3]) (by simp [results, Try.results16, go_sem, r0, r1, r2]) rfl ?_
  refine ⟨g, t3, rfl, HSM.out, HWF3.out, ?_⟩
  have hB := HB3.out
  (repeat (first | (with_reducible exact Below.refl _ _) | (with_reducible refine Below.drew ?_) | ((with_reducible refine Below.alloc ?_ ?hB _); case hB => (first | (with_reducible exact Nat.le_refl _) | omega | (simp; done) | (simp; omega))) | ((with_reducible refine Below.setCell ?_ ?hB _); case hB => (first | (with_reducible exact Nat.le_refl _) | omega | (simp; done) | (simp; omega)))))
  exact hB
set_option maxRecDepth 100000 in
set_option maxHeartbeats 3200000 in
theorem drawNext_calls (n cp : Nat) (A : Option Addr) (zs : List Int) (w : World) (hr : Rd w w.heap.size A (intV .u8 zs)) (hn : zs.length = n) (hm : n ≤ 65536) (hz : ∀ z ∈ zs, (Lit.int .u8 z).wf = true) :
    Calls Try.prog 24 #[.slice A n cp] w fun e w' => ∃ (g : GR) (i j k : Int), e = .returned (.tuple #[.agg #[.int .i64 g.num, .int .i64 g.den, .int .i64 g.add], .int .i64 i, .int .i64 j, .int .i64 k]) ∧ SmG g ∧ Wf i ∧ Wf j ∧ Wf k ∧ Below w.heap.size w w' := by
  obtain ⟨w1, hw1⟩ : ∃ w1, (w.alloc (.cells #[.int .i64 0, .int .i64 0, .int .i64 0] 25)).alloc (.cells #[.slice A n cp, .int .i64 0, .int .u64 0] 63) = w1 := ⟨_, rfl⟩
  have hb1 : Below w.heap.size w w1 := by rw [← hw1]; exact ((Below.refl _ _).alloc (Nat.le_refl _) _).alloc (by simp) _
  have hr1 : w1.heap[w.heap.size]? = some (.cells #[.int .i64 0, .int .i64 0, .int .i64 0] 25) := by rw [← hw1]; exact alloc_oldG _ (heap_alloc_new _ _)
  have hc1 : Cur w1 (w.heap.size + 1) A n cp 0 := by rw [← hw1]; exact (by simpa using cur_newG (w.alloc (.cells #[.int .i64 0, .int .i64 0, .int .i64 0] 25)) A n cp)
  obtain ⟨B, hBE⟩ : ∃ B, w.heap.size + 1 = B := ⟨_, rfl⟩
  rw [hBE] at hc1
  have nB : B ≠ w.heap.size := by omega
  have hBw : w.heap.size ≤ B := by omega
  have hs1 := hc1.lt
  have HL := Lib.hid (fun (W : World) ts m' (hc : Cur W B A n cp m') (hr : Rd W B A (intV .u8 zs)) h0 h1 h2 q h4 => among_lit B n cp m' A zs ts W hc hr hn hm hz h0 h1 h2 q h4)
  have HGR := Lib.hid (growRule_calls B n cp 0 A zs w1 hc1 ((hr.below hb1).more (by omega)) hn hm hz (by omega))
  have HAP := Lib.hid (fun (W : World) m' (hc : Cur W B A n cp m') (hr : Rd W B A (intV .u8 zs)) h0 => appends_calls B n cp m' A zs W hc hr hn hm hz h0)
  have HRG := Lib.hid (fun (W : World) (h : Below w.heap.size w W) => ((hr.below h).more (by omega) : Rd W B A (intV .u8 zs)))
  have HB1 := Lib.hid hb1
  have HR1 := Lib.hid hr1
  have HW := Lib.hid hw1
  have HBE := Lib.hid hBE
  clear hr hn hz hw1 hb1 hr1 hc1 hBE
  go_enter Try.func24, Try.ntmps24
  go_upto_region 2 with fail
  rw [HW.out, HBE.out]
  go_wp2_with fail
  refine HGR.out.mono ?_
  rintro e w2 ⟨g, rfl, hsm, hc2, hg2⟩
  have HB2 := Lib.hid (HB1.out.grown hg2 (Nat.le_of_lt (Nat.lt_of_le_of_lt (by omega) hs1)) (fun k e => by injection e with e; omega))
  have hr2 := block_grownG hg2 HR1.out (fun e => by injection e with e; exact nB e)
  have HSM := Lib.hid hsm
  clear hg2 hsm
  have HA3 := Lib.hid (HL.out w2 [3, 0, 8, 1, 100, 999999, 1000000, -1] _ hc2 (HRG.out w2 HB2.out) (by omega) (by decide) (by decide) 8 rfl)
  clear hc2
  go_wp2_with fail
  refine HA3.out.mono ?_
  rintro e w3 ⟨⟨t3, ht3, rfl⟩, hc3, hg3⟩
  have hw3 : Wf t3 := by simp at ht3; exact wf_of (by omega) (by omega)
  have HWF3 := Lib.hid hw3
  have HB3 := Lib.hid (HB2.out.grown hg3 HB2.out.size (fun k e => by injection e with e; omega))
  have hr3 := block_grownG hg3 hr2 (fun e => by injection e with e; exact nB e)
  clear ht3 hw3 hr2 hg3
  have HA4 := Lib.hid (HL.out w3 [0, 1, 4, 0, 12, -1, 4611686018427387904] _ hc3 (HRG.out w3 HB3.out) (by omega) (by decide) (by decide) 7 rfl)
  clear hc3
  go_wp2_with fail
  refine HA4.out.mono ?_
  rintro e w4 ⟨⟨t4, ht4, rfl⟩, hc4, hg4⟩
  have hw4 : Wf t4 := by simp at ht4; exact wf_of (by omega) (by omega)
  have HWF4 := Lib.hid hw4
  have HB4 := Lib.hid (HB3.out.grown hg4 HB3.out.size (fun k e => by injection e with e; omega))
  have hr4 := block_grownG hg4 hr3 (fun e => by injection e with e; exact nB e)
  clear ht4 hw4 hr3 hg4
  have HA5 := Lib.hid (HL.out w4 [1, 5, 0, 20, 1000000, -1] _ hc4 (HRG.out w4 HB4.out) (by omega) (by decide) (by decide) 6 rfl)
  clear hc4
  go_wp2_with fail
  refine HA5.out.mono ?_
  rintro e w5 ⟨⟨t5, ht5, rfl⟩, hc5, hg5⟩
  have hw5 : Wf t5 := by simp at ht5; exact wf_of (by omega) (by omega)
  have HWF5 := Lib.hid hw5
  have HB5 := Lib.hid (HB4.out.grown hg5 HB4.out.size (fun k e => by injection e with e; omega))
  have hr5 := block_grownG hg5 hr4 (fun e => by injection e with e; exact nB e)
  clear ht5 hw5 hr4 hg5
  obtain ⟨r0, r1, r2⟩ := three_cells hr5
  obtain ⟨f0, f1, f2⟩ := three_frozen hr5
  have hr0 := Lib.hid hr5
  clear hr5
  go_wp2_with fail
  refine bodyPost_ret (v := .tuple #[.agg #[.int .i64 g.num, .int .i64 g.den, .int .i64 g.add], .int .i64 t3, .int .i64 t4, .int .i64 t5]) (by simp [results, Try.results24, go_sem, r0, r1, r2]) rfl ?_
  refine ⟨g, t3, t4, t5, rfl, HSM.out, HWF3.out, HWF4.out, HWF5.out, ?_⟩
  have hB := HB5.out
  (repeat (first | (with_reducible exact Below.refl _ _) | (with_reducible refine Below.drew ?_) | ((with_reducible refine Below.alloc ?_ ?hB _); case hB => (first | (with_reducible exact Nat.le_refl _) | omega | (simp; done) | (simp; omega))) | ((with_reducible refine Below.setCell ?_ ?hB _); case hB => (first | (with_reducible exact Nat.le_refl _) | omega | (simp; done) | (simp; omega)))))
  exact hB
end Go.Proofs.Ytiimbojcnmbebab
