/-
  Drawing a slice with three indexes: DrawSliceThree.
-/
import Derived.Test.YtmcabnbmjbepjaaDoorDrawS
namespace Go.Proofs.YtmcabnbmjbepjaaDoor
open Go.RowKit

set_option maxRecDepth 100000 in
set_option maxHeartbeats 3200000 in
theorem drawThree_calls (n cp : Nat) (A : Option Addr) (zs : List Int) (w : World) (hr : Rd w w.heap.size A (intV .u8 zs)) (hn : zs.length = n) (hm : n ≤ 65536) (hz : ∀ z ∈ zs, (Lit.int .u8 z).wf = true) :
    Calls Tryd.prog 5 #[.slice A n cp] w fun e w' => ∃ (M : List (List Int)) (v : Value) (x : Win) (i j k : Int), e = .returned (.tuple #[.agg #[v], .agg #[.int .i64 x.arr, .int .i64 x.start, .int .i64 x.len, .int .i64 x.cap], .int .i64 i, .int .i64 j, .int .i64 k]) ∧ MBy M ∧ DW x ∧ OwnM w' w.heap.size w'.heap.size v M ∧ Below w.heap.size w w' := by
  obtain ⟨hb0, g1, g2, g3⟩ := enter2 w (.cells #[.slice none 0 0] 26) (.cells #[.int .i64 0, .int .i64 0, .int .i64 0, .int .i64 0] 28)
  obtain ⟨w0, hw0⟩ : ∃ w0, (w.alloc (.cells #[.slice none 0 0] 26)).alloc (.cells #[.int .i64 0, .int .i64 0, .int .i64 0, .int .i64 0] 28) = w0 := ⟨_, rfl⟩
  rw [hw0] at hb0 g1 g2 g3
  have HDT := Lib.hid (drawTwo_calls n cp A zs w0 ((hr.below hb0).more hb0.size) hn hm hz)
  have HPK := Lib.hid (fun (B : Nat) (W : World) m' q (hc : Cur W B A n cp m') (hr : Rd W B A (intV .u8 zs)) h1 h2 h3 => pick_calls B n cp m' A zs q W hc hr hn hm hz h1 h2 h3)
  have HR := Lib.hid hr
  have HB0 := Lib.hid hb0
  have HG1 := Lib.hid g1
  have HG2 := Lib.hid g2
  have HS0 := Lib.hid g3
  have HW := Lib.hid hw0
  clear hr hn hz hb0 g1 g2 g3 hw0
  go_enter Tryd.func5, Tryd.ntmps5
  go_upto_region 1 with fail
  rw [HW.out]
  go_wp2_with fail
  refine HDT.out.mono ?_
  rintro e w1 ⟨M, v, x, i, j, rfl, hMB, hDW, ho1, hb1⟩
  obtain ⟨A2, c2, rfl, hk2⟩ := ho1.form
  have HMB := Lib.hid hMB
  have HDW := Lib.hid hDW
  have h1s := hb1.size
  obtain ⟨w3, hw3⟩ : ∃ w3, ((w1.alloc (.cells #[.slice A2 M.length c2] 26)).alloc (.cells #[.int .i64 x.arr, .int .i64 x.start, .int .i64 x.len, .int .i64 x.cap] 28)).alloc (.cells #[.slice A n cp, .int .i64 0, .int .u64 0] 50) = w3 := ⟨_, rfl⟩
  have hb3 : Below w1.heap.size w1 w3 := by rw [← hw3]; (repeat (first | (with_reducible exact Below.refl _ _) | (with_reducible refine Below.drew ?_) | ((with_reducible refine Below.alloc ?_ ?hB _); case hB => (first | (with_reducible exact Nat.le_refl _) | omega | (simp; done) | (simp; omega))) | ((with_reducible refine Below.setCell ?_ ?hB _); case hB => (first | (with_reducible exact Nat.le_refl _) | omega | (simp; done) | (simp; omega)))))
  have hx3 : w3.heap[w1.heap.size]? = some (.cells #[.slice A2 M.length c2] 26) := by rw [← hw3]; exact alloc_old _ (alloc_old _ (heap_alloc_new _ _))
  have hy3 : w3.heap[w1.heap.size + 1]? = some (.cells #[.int .i64 x.arr, .int .i64 x.start, .int .i64 x.len, .int .i64 x.cap] 28) := by rw [← hw3]; exact alloc_old _ (heap_alloc_at (by simp))
  have hc3 : Cur w3 (w1.heap.size + 2) A n cp 0 := ⟨0, 0, Nat.le_refl _, by omega, by omega, by rw [← hw3]; exact heap_alloc_at (by simp)⟩
  have hs3 : w3.heap.size = w1.heap.size + 3 := by rw [← hw3]; simp
  have hb13 := hb1.trans (hb3.mono hb1.size)
  have hbw := HB0.out.trans (hb13.mono HB0.out.size)
  obtain ⟨B, hBE⟩ : ∃ B, w1.heap.size + 2 = B := ⟨_, rfl⟩
  obtain ⟨g7, hg7⟩ : ∃ g7, w1.heap.size = g7 := ⟨_, rfl⟩
  obtain ⟨g8, hg8⟩ : ∃ g8, w1.heap.size + 1 = g8 := ⟨_, rfl⟩
  have HE := Lib.hid (show w1.heap.size + 2 = B ∧ w1.heap.size = g7 ∧ w1.heap.size + 1 = g8 from ⟨hBE, hg7, hg8⟩)
  rw [hBE] at hc3
  rw [hg7] at hx3
  rw [hg8] at hy3
  have HX6 := Lib.hid hx3
  have HY6 := Lib.hid hy3
  have HO6 := Lib.hid (ho1.below hb3)
  have hs0 := HS0.out
  have hB : w.heap.size + 1 < B := by omega
  have HD6 := Lib.hid (show Dr2 w w3 B A n cp 0 from ⟨⟨hbw, hc3, (hb13.block _ (Array.getElem?_eq_some_iff.1 HG1.out).1).trans HG1.out⟩, (hb13.block _ (Array.getElem?_eq_some_iff.1 HG2.out).1).trans HG2.out⟩)
  have HRW := Lib.hid (((HR.out.below hbw).more (show w.heap.size ≤ B by omega)))
  have HS3 := Lib.hid (show w3.heap.size = B + 1 by omega)
  have HRG := Lib.hid (fun (W : World) (h : w3.grownBy W (some B)) => (HRW.out.grown h (by have := HS3.out; omega) (fun g e => by injection e with e; omega) : Rd W B A (intV .u8 zs)))
  have HW3 := Lib.hid hw3
  have HDD := Lib.hid (show Dr2 w w3.drew B A n cp 0 from ⟨⟨HD6.out.d.b.drew, HD6.out.d.c, HD6.out.d.r0⟩, HD6.out.r1⟩)
  have HGD := Lib.hid (grown_of_below (Below.refl w3.heap.size w3).drew (some B))
  have HN7 := Lib.hid (show (some B : Option Nat) ≠ some g7 from fun e => by injection e with e; omega)
  have HN8 := Lib.hid (show (some B : Option Nat) ≠ some g8 from fun e => by injection e with e; omega)
  have hn1 : w.heap.size ≠ g7 ∧ w.heap.size ≠ g8 ∧ w.heap.size + 1 ≠ g7 ∧ w.heap.size + 1 ≠ g8 := by omega
  have HP6 : Hid (Calls Tryd.prog 24 #[.pointer (some ⟨B, 0, none⟩), .int .i64 5] w3.drew fun e w' => Drawn 5 e ∧ Cur w' B A n cp (0 + 2) ∧ w3.drew.grownBy w' (some B)) := Lib.hid (HPK.out B w3.drew _ 5 HD6.out.d.c (HRG.out w3.drew HGD.out) (by omega) (by omega) (by omega))
  have HSZ := Lib.hid (show w.heap.size + 2 ≤ w1.heap.size ∧ w1.heap.size = g7 by omega)
  have HOLT := Lib.hid (show w0.heap.size = w.heap.size + 2 from hs0)
  clear hMB hDW ho1 hb1 hk2 hw3 hb3 hx3 hy3 hc3 hs3 hb13 hbw hBE hg7 hg8 hs0 h1s
  go_upto_region 3 with fail
  rw [HW3.out]
  try rw [HE.out.1]
  try rw [HE.out.2.2]
  try rw [HE.out.2.1]
  have xa := one_cell (show w3.drew.heap[g7]? = _ from HX6.out)
  have hha := four_cells (show w3.drew.heap[g8]? = _ from HY6.out)
  obtain ⟨y0a, y1a, y2a, y3a⟩ := hha
  have r0a := one_cell HDD.out.d.r0
  have rfa := one_frozen HDD.out.d.r0
  have hqa := four_cells HDD.out.r1
  obtain ⟨q0a, q1a, q2a, q3a⟩ := hqa
  have hfa := four_frozen9 HDD.out.r1
  obtain ⟨f0a, f1a, f2a, f3a⟩ := hfa
  go_region_law (first | (go_simp; go_at_call 24; (with_reducible refine HP6.out.mono ?_); rintro e w7 ⟨⟨r6, rfl, hr60, hr61⟩, hc7, hg7'⟩; have HP7 := Lib.hid (HPK.out B w7 _ 24 hc7 (HRG.out w7 (gcomp HGD.out hg7' (fun g e => .inl e))) (by omega) (by omega) (by omega)); have HD7 := Lib.hid (HDD.out.step hg7' hc7 hB); have HX7 := Lib.hid (block_grown (w := w3.drew) hg7' HX6.out HN7.out); have HY7 := Lib.hid (block_grown (w := w3.drew) hg7' HY6.out HN8.out); have HGG7 := Lib.hid (gcomp HGD.out hg7' (fun g e => .inl e)); have xb := one_cell HX7.out; have hhb := four_cells HY7.out; obtain ⟨y0b, y1b, y2b, y3b⟩ := hhb; have r0b := one_cell HD7.out.d.r0; have rfb := one_frozen HD7.out.d.r0; have hqb := four_cells HD7.out.r1; obtain ⟨q0b, q1b, q2b, q3b⟩ := hqb; have hfb := four_frozen9 HD7.out.r1; obtain ⟨f0b, f1b, f2b, f3b⟩ := hfb; clear hc7 hg7') | (go_simp; go_at_call 24; (with_reducible refine HP7.out.mono ?_); rintro e w8 ⟨⟨r24, rfl, hr240, hr241⟩, hc8, hg8'⟩; have HD8 := Lib.hid (HD7.out.step hg8' hc8 hB); have HX8 := Lib.hid (block_grown hg8' HX7.out HN7.out); have HY8 := Lib.hid (block_grown hg8' HY7.out HN8.out); have HGG8 := Lib.hid (gcomp HGG7.out hg8' (fun g e => .inl e)); have xc := one_cell HX8.out; have hhc := four_cells HY8.out; obtain ⟨y0c, y1c, y2c, y3c⟩ := hhc; have r0c := one_cell HD8.out.d.r0; have rfc := one_frozen HD8.out.d.r0; have hqc := four_cells HD8.out.r1; obtain ⟨q0c, q1c, q2c, q3c⟩ := hqc; have hfc := four_frozen9 HD8.out.r1; obtain ⟨f0c, f1c, f2c, f3c⟩ := hfc; clear hc8 hg8'))
  all_goals go_wp2_with fail
  all_goals (
    have h28 := (Array.getElem?_eq_some_iff.1 HX8.out).1
    have hsz := HSZ.out
    have hlt := HOLT.out
    have hbe := HE.out
    have HO8 : OwnM w8 w0.heap.size w1.heap.size (.slice A2 M.length c2) M := HO6.out.span (l2 := B) (h2 := B + 1) (Span.of_grown HGG8.out (fun g e => by injection e with e; omega)) (.inl (by omega))
    refine bodyPost_ret (v := .tuple #[.agg #[.slice A2 M.length c2], .agg #[.int .i64 x.arr, .int .i64 x.start, .int .i64 x.len, .int .i64 x.cap], .int .i64 i, .int .i64 j, .int .i64 (IntKind.i64.wrap (IntKind.i64.wrap (j + r6) - IntKind.i64.wrap (r24.tdiv 23)))]) (by simp [results, Tryd.results5, go_sem, r0c, q0c, q1c, q2c, q3c]) rfl ⟨M, _, x, i, j, _, rfl, HMB.out, HDW.out, ?_, by (repeat (first | (with_reducible exact Below.refl _ _) | (with_reducible refine Below.drew ?_) | ((with_reducible refine Below.alloc ?_ ?hB _); case hB => (first | (with_reducible exact Nat.le_refl _) | omega | (simp; done) | (simp; omega))) | ((with_reducible refine Below.setCell ?_ ?hB _); case hB => (first | (with_reducible exact Nat.le_refl _) | omega | (simp; done) | (simp; omega))))); exact HD8.out.d.b⟩
    refine OwnM.mono (lo := w0.heap.size) (hi := w1.heap.size) ?_ (by omega) (by simp; omega)
    repeat (first | (with_reducible exact HO8) | (with_reducible refine own_setC ?_ (.inl (by omega)))))
end Go.Proofs.YtmcabnbmjbepjaaDoor
