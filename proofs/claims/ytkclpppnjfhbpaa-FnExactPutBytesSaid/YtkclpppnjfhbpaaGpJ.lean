/-
  Bytes put: l6Put and PutBytes of spec.
-/
import Derived.Test.YtkclpppnjfhbpaaGpG
import Derived.Test.YtkclpppnjfhbpaaGpD
namespace Go.Proofs.Ytkclpppnjfhbpaa
open Go.RowKit

set_option maxRecDepth 100000 in
set_option maxHeartbeats 6400000 in
theorem specPut_calls (A : Option Addr) (cm : Nat) (m : List (List Int)) (n s l c a b : Nat) (LA : Option Addr) (lc : Nat) (xs : List Int) (w : World) (hr : Rd2 w w.heap.size A m) (hok : GpOK m ⟨⟨n, s, l, c⟩, a, b⟩) (hx2 : xs.length ≤ 2097152) (hl : Rd w w.heap.size LA (intV .u8 xs)) :
    Calls Try.prog 100 #[.agg #[.slice A m.length cm, .int .i64 n, .int .i64 s, .int .i64 l, .int .i64 c, .int .i64 a, .int .i64 b], .slice LA xs.length lc] w fun e w' => ∃ v, e = .returned (.tuple #[.agg #[v, .int .i64 (putW m ⟨⟨n, s, l, c⟩, a, b⟩ xs).2.1.w.arr, .int .i64 (putW m ⟨⟨n, s, l, c⟩, a, b⟩ xs).2.1.w.start, .int .i64 (putW m ⟨⟨n, s, l, c⟩, a, b⟩ xs).2.1.w.len, .int .i64 (putW m ⟨⟨n, s, l, c⟩, a, b⟩ xs).2.1.w.cap, .int .i64 (putW m ⟨⟨n, s, l, c⟩, a, b⟩ xs).2.1.fr, .int .i64 (putW m ⟨⟨n, s, l, c⟩, a, b⟩ xs).2.1.up], .bool (putW m ⟨⟨n, s, l, c⟩, a, b⟩ xs).2.2]) ∧ OwnM w' w.heap.size w'.heap.size v (putW m ⟨⟨n, s, l, c⟩, a, b⟩ xs).1 ∧ Below w.heap.size w w' := by
  obtain ⟨w0, hw0, hb0, hz0, hgg⟩ := enterGG A m.length cm ⟨⟨n, s, l, c⟩, a, b⟩ w
  dsimp only at hw0 hgg
  have HR := Lib.hid hr
  have HL := Lib.hid hl
  have hpc := put_cases xs hok
  obtain ⟨n', s', l', c', a', b', hnl, e, hab, hbl, hlc, hsc, h1m, h64, h16⟩ := hok.nat
  injection e with e1 e2 e3
  injection e1 with e4 e5 e6 e7
  obtain rfl : n = n' := by omega
  obtain rfl : s = s' := by omega
  obtain rfl : l = l' := by omega
  obtain rfl : c = c' := by omega
  obtain rfl : a = a' := by omega
  obtain rfl : b = b' := by omega
  clear e2 e3 e4 e5 e6 e7
  have hmo := hok.1.1
  have HMO := Lib.hid hmo
  have HOK := Lib.hid hok
  have HPC := Lib.hid hpc
  have HWD : Hid (∀ W, Below w.heap.size w W → ∀ k : Nat, Calls Try.prog 98 #[.agg #[.slice A m.length cm, .int .i64 n, .int .i64 s, .int .i64 l, .int .i64 c, .int .i64 a, .int .i64 b], .int .i64 k] W fun e w' => ∃ v, e = .returned (.tuple #[.agg #[v, .int .i64 (widenW m ⟨⟨n, s, l, c⟩, a, b⟩ k).2.1.w.arr, .int .i64 (widenW m ⟨⟨n, s, l, c⟩, a, b⟩ k).2.1.w.start, .int .i64 (widenW m ⟨⟨n, s, l, c⟩, a, b⟩ k).2.1.w.len, .int .i64 (widenW m ⟨⟨n, s, l, c⟩, a, b⟩ k).2.1.w.cap, .int .i64 (widenW m ⟨⟨n, s, l, c⟩, a, b⟩ k).2.1.fr, .int .i64 (widenW m ⟨⟨n, s, l, c⟩, a, b⟩ k).2.1.up], .bool (widenW m ⟨⟨n, s, l, c⟩, a, b⟩ k).2.2]) ∧ OwnM w' W.heap.size w'.heap.size v (widenW m ⟨⟨n, s, l, c⟩, a, b⟩ k).1 ∧ Below W.heap.size W w') := Lib.hid fun W hb k =>
    specWiden_calls A cm m n s l c a b k W ((HR.out.below hb).more hb.size) HOK.out
  obtain ⟨w1, hw1⟩ : ∃ w1, w0.alloc (.cells #[.slice A m.length cm, .int .i64 n, .int .i64 s, .int .i64 l, .int .i64 c, .int .i64 a, .int .i64 b] 34) = w1 := ⟨_, rfl⟩
  have hb1 : Below w0.heap.size w0 w1 := by rw [← hw1]; exact (Below.refl _ _).alloc (Nat.le_refl _) _
  have HX1 := Lib.hid (show w1.heap[w0.heap.size]? = some (.cells #[.slice A m.length cm, .int .i64 n, .int .i64 s, .int .i64 l, .int .i64 c, .int .i64 a, .int .i64 b] 34) by rw [← hw1]; exact heap_alloc_new _ _)
  have HG1 := Lib.hid (hgg.below hb1)
  have HB1 := Lib.hid (hb0.trans (hb1.mono hb0.size))
  have HW0 := Lib.hid hw0
  have HW1 := Lib.hid hw1
  have hl1 : w0.heap.size < w1.heap.size := (Array.getElem?_eq_some_iff.1 HX1.out).1
  have hs0 := hb0.size
  have hs02 : w.heap.size + 2 ≤ w0.heap.size := by omega
  clear hz0
  obtain ⟨d, hd⟩ : ∃ d, a + d = b := ⟨b - a, by omega⟩
  have hwd : IntKind.i64.wrap ((b : Int) - a) = (d : Int) := by rw [show (b : Int) - a = d by omega]; exact IntWalk.i64_in _ (by omega)
  obtain ⟨c0, d0, d1, d2, d3, d4, d5⟩ := gap_cells hgg.par
  clear hr hl hpc hb0 hw0 hgg hb1 hw1 hok hmo
  go_enter Try.func100, Try.ntmps100
  go_upto_region 1 with fail
  rw [HW0.out]
  go_upto_region 2 with fail
  rw [HW1.out]
  clear c0 d0 d1 d2 d3 d4 d5
  obtain ⟨c0, d0, d1, d2, d3, d4, d5⟩ := gap_cells HG1.out.par
  by_cases hlk : xs.length ≤ d
  · have hk0 : xs.length - (b - a) = 0 := by omega
    have hwk : IntKind.i64.wrap ((xs.length : Int) - d) = (xs.length : Int) - d := IntWalk.i64_in _ (by omega)
    have hle : ¬ (0 : Int) < (xs.length : Int) - d := by omega
    rcases HPC.out with ⟨hno, hval⟩ | ⟨R, n', s', c', L, q, R', p, hw⟩
    · rw [hk0, widenW_zero HOK.out] at hno
      cases hno
    · have hwid := hw.wid
      rw [hk0, widenW_zero HOK.out] at hwid
      simp only [Prod.mk.injEq, Gp.mk.injEq, Win.mk.injEq] at hwid
      obtain ⟨q1, ⟨⟨q2, q3, q4, q5⟩, _, q7⟩, _⟩ := hwid
      subst q1
      obtain rfl : n = n' := by omega
      obtain rfl : s = s' := by omega
      obtain rfl : l = L := by omega
      obtain rfl : c = c' := by omega
      obtain rfl : b = q := by omega
      clear q2 q3 q4 q5 q7
      have HV := Lib.hid hw.val
      have hp := hw.hp
      have HWR : Hid (Calls Try.prog 132 #[.agg #[.slice A m.length cm], .agg #[.int .i64 n, .int .i64 s, .int .i64 l, .int .i64 c], .int .i64 a, .slice LA xs.length lc] w1 fun e w' => ∃ v, e = .returned (.agg #[v]) ∧ OwnM w' w1.heap.size w'.heap.size v R' ∧ Below w1.heap.size w1 w') := Lib.hid (by
        have h := specWrite_calls A cm m n s a l c LA lc xs w1 ((HR.out.below HB1.out).more HB1.out.size) HMO.out hnl (by have := hw.fit; omega) ((HL.out.below HB1.out).more HB1.out.size)
        rw [hw.res]
        exact h)
      have hwp : IntKind.i64.wrap ((a : Int) + xs.length) = p := by rw [show (a : Int) + xs.length = p by omega]; exact IntWalk.i64_in _ (by omega)
      obtain ⟨x0, x1, x2, x3, x4, x5, x6⟩ := gap_cells HX1.out
      clear hw
      go_wp2_with fail
      refine HWR.out.mono ?_
      rintro e w4 ⟨v, rfl, hv, hb4⟩
      obtain ⟨Av, cv, rfl, hcv⟩ := hv.form
      have HB4 := Lib.hid (HB1.out.trans (hb4.mono HB1.out.size))
      have HG4 := Lib.hid (HG1.out.below hb4)
      have HX4 := Lib.hid ((hb4.block _ hl1).trans HX1.out)
      have HO := Lib.hid hv
      have hs4 := hb4.size
      clear hb4 hv c0 d0 d1 d2 d3 d4 d5 x0 x1 x2 x3 x4 x5 x6
      obtain ⟨x0, x1, x2, x3, x4, x5, x6⟩ := gap_cells HX4.out
      obtain ⟨y0, y1, y2, y3, y4, y5, y6⟩ := gap_frozen HX4.out
      obtain ⟨r0, r1, r2, r3, r4, r5, r6⟩ := gap_cells HG4.out.res
      obtain ⟨f0, f1, f2, f3, f4, f5, f6⟩ := gap_frozen HG4.out.res
      go_wp2_with fail
      refine bodyPost_ret (v := .tuple #[.agg #[.slice Av R'.length cv, .int .i64 n, .int .i64 s, .int .i64 l, .int .i64 c, .int .i64 p, .int .i64 b], .bool true]) (by simp [results, Try.results100, go_sem, r0, r1, r2, r3, r4, r5, r6]) rfl ⟨_, by rw [HV.out], ?_, by (repeat (first | (with_reducible exact Below.refl _ _) | (with_reducible refine Below.drew ?_) | ((with_reducible refine Below.alloc ?_ ?hB _); case hB => (first | (with_reducible exact Nat.le_refl _) | omega | (simp; done) | (simp; omega))) | ((with_reducible refine Below.setCell ?_ ?hB _); case hB => (first | (with_reducible exact Nat.le_refl _) | omega | (simp; done) | (simp; omega))))); exact HB4.out⟩
      rw [HV.out, size_seven, World.size_setCell, World.size_setCell]
      exact (own_seven (own_setC (own_setC HO.out (.inl (by omega))) (.inl (by omega))) (.inl (by omega))).mono (by omega) (by omega)
  · obtain ⟨k, hk⟩ : ∃ k, xs.length - (b - a) = k := ⟨_, rfl⟩
    rw [hk] at HPC
    have hk1 : (xs.length : Int) - d = k := by omega
    have hwk : IntKind.i64.wrap ((xs.length : Int) - d) = k := by rw [hk1]; exact IntWalk.i64_in _ (by omega)
    have hle : (0 : Int) < (k : Int) := by omega
    rcases HPC.out with ⟨hno, hval⟩ | ⟨R, n', s', c', L, q, R', p, hw⟩
    · have HV := Lib.hid hval
      have HWK : Hid (Calls Try.prog 98 #[.agg #[.slice A m.length cm, .int .i64 n, .int .i64 s, .int .i64 l, .int .i64 c, .int .i64 a, .int .i64 b], .int .i64 k] w1 fun e w' => ∃ v, e = .returned (.tuple #[.agg #[v, .int .i64 0, .int .i64 0, .int .i64 0, .int .i64 0, .int .i64 0, .int .i64 0], .bool false]) ∧ OwnM w' w1.heap.size w'.heap.size v ([] : List (List Int)) ∧ Below w1.heap.size w1 w') := Lib.hid (by
        have h := HWD.out w1 HB1.out k
        rw [hno] at h
        exact h)
      clear HWD hno
      go_wp2_with fail
      refine HWK.out.mono ?_
      rintro e w2 ⟨v2, rfl, hv2, hb2⟩
      obtain ⟨A2, k2, rfl, hcv2⟩ := hv2.form
      have HB2 := Lib.hid (HB1.out.trans (hb2.mono HB1.out.size))
      have HG2 := Lib.hid (HG1.out.below hb2)
      have HX2 := Lib.hid ((hb2.block _ hl1).trans HX1.out)
      have hs2 := hb2.size
      have HO2 := Lib.hid hv2
      clear hb2 hv2 c0 d0 d1 d2 d3 d4 d5
      obtain ⟨w3, hw3⟩ : ∃ w3, w2.alloc (.cells #[.slice A2 0 k2, .int .i64 0, .int .i64 0, .int .i64 0, .int .i64 0, .int .i64 0, .int .i64 0] 34) = w3 := ⟨_, rfl⟩
      have hb3 : Below w2.heap.size w2 w3 := by rw [← hw3]; exact (Below.refl _ _).alloc (Nat.le_refl _) _
      have HG3 := Lib.hid (HG2.out.below hb3)
      have HB3 := Lib.hid (HB2.out.trans (hb3.mono HB2.out.size))
      have HW3 := Lib.hid hw3
      clear hb3 hw3 hval
      go_upto_region 5 with fail
      rw [HW3.out]
      obtain ⟨r0, r1, r2, r3, r4, r5, r6⟩ := gap_cells HG3.out.res
      obtain ⟨f0, f1, f2, f3, f4, f5, f6⟩ := gap_frozen HG3.out.res
      go_wp2_with fail
      refine bodyPost_ret (v := .tuple #[.agg #[.slice none 0 0, .int .i64 0, .int .i64 0, .int .i64 0, .int .i64 0, .int .i64 0, .int .i64 0], .bool false]) (by simp [results, Try.results100, go_sem, r0, r1, r2, r3, r4, r5, r6]) rfl ⟨_, by rw [HV.out]; rfl, by rw [HV.out]; exact own_none _ _ _, by (repeat (first | (with_reducible exact Below.refl _ _) | (with_reducible refine Below.drew ?_) | ((with_reducible refine Below.alloc ?_ ?hB _); case hB => (first | (with_reducible exact Nat.le_refl _) | omega | (simp; done) | (simp; omega))) | ((with_reducible refine Below.setCell ?_ ?hB _); case hB => (first | (with_reducible exact Nat.le_refl _) | omega | (simp; done) | (simp; omega))))); exact HB3.out⟩
    · have hwid := hw.wid
      rw [hk] at hwid
      have HV := Lib.hid hw.val
      have hp := hw.hp
      have hn64 := (hw.ok.2 _ (List.getElem_mem hw.hn)).2
      have hq1 := hw.lc
      have hq2 := hw.sc
      have hq3 := hw.ql
      have hq4 := hw.fit
      have hq5 := hw.ok.1
      have hq6 := hw.hn
      have HWK : Hid (Calls Try.prog 98 #[.agg #[.slice A m.length cm, .int .i64 n, .int .i64 s, .int .i64 l, .int .i64 c, .int .i64 a, .int .i64 b], .int .i64 k] w1 fun e w' => ∃ v, e = .returned (.tuple #[.agg #[v, .int .i64 n', .int .i64 s', .int .i64 L, .int .i64 c', .int .i64 a, .int .i64 q], .bool true]) ∧ OwnM w' w1.heap.size w'.heap.size v R ∧ Below w1.heap.size w1 w') := Lib.hid (by
        have h := HWD.out w1 HB1.out k
        rw [hwid] at h
        exact h)
      clear HWD hwid
      go_wp2_with fail
      refine HWK.out.mono ?_
      rintro e w2 ⟨v2, rfl, hv2, hb2⟩
      obtain ⟨A2, k2, rfl, hcv2⟩ := hv2.form
      have HB2 := Lib.hid (HB1.out.trans (hb2.mono HB1.out.size))
      have HG2 := Lib.hid (HG1.out.below hb2)
      have HX2 := Lib.hid ((hb2.block _ hl1).trans HX1.out)
      have hs2 := hb2.size
      have HO2 := Lib.hid hv2
      clear hb2 hv2 c0 d0 d1 d2 d3 d4 d5
      obtain ⟨w3, hw3⟩ : ∃ w3, w2.alloc (.cells #[.slice A2 R.length k2, .int .i64 n', .int .i64 s', .int .i64 L, .int .i64 c', .int .i64 a, .int .i64 q] 34) = w3 := ⟨_, rfl⟩
      have hb3 : Below w2.heap.size w2 w3 := by rw [← hw3]; exact (Below.refl _ _).alloc (Nat.le_refl _) _
      have HN3 := Lib.hid (show w3.heap[w2.heap.size]? = some (.cells #[.slice A2 R.length k2, .int .i64 n', .int .i64 s', .int .i64 L, .int .i64 c', .int .i64 a, .int .i64 q] 34) by rw [← hw3]; exact heap_alloc_new _ _)
      have HG3 := Lib.hid (HG2.out.below hb3)
      have HX3 := Lib.hid ((hb3.block _ (Nat.lt_of_lt_of_le hl1 hs2)).trans HX2.out)
      have HB3 := Lib.hid (HB2.out.trans (hb3.mono HB2.out.size))
      have HO3 := Lib.hid (HO2.out.below hb3)
      have HW3 := Lib.hid hw3
      have hs3 := hb3.size
      have hl3 : w2.heap.size < w3.heap.size := (Array.getElem?_eq_some_iff.1 HN3.out).1
      clear hb3 hw3
      obtain ⟨w4, hw4⟩ : ∃ w4, (((((((w3.setCell ⟨w0.heap.size, 0, none⟩ (.slice A2 R.length k2)).setCell ⟨w0.heap.size, 1, none⟩ (.int .i64 n')).setCell ⟨w0.heap.size, 2, none⟩ (.int .i64 s')).setCell ⟨w0.heap.size, 3, none⟩ (.int .i64 L)).setCell ⟨w0.heap.size, 4, none⟩ (.int .i64 c')).setCell ⟨w0.heap.size, 5, none⟩ (.int .i64 a)).setCell ⟨w0.heap.size, 6, none⟩ (.int .i64 q)) = w4 := ⟨_, rfl⟩
      have hz4 : w4.heap.size = w3.heap.size := by rw [← hw4]; exact size_seven
      have HX4 := Lib.hid (show w4.heap[w0.heap.size]? = some (.cells #[.slice A2 R.length k2, .int .i64 n', .int .i64 s', .int .i64 L, .int .i64 c', .int .i64 a, .int .i64 q] 34) by rw [← hw4]; exact gap_set HX3.out)
      have HO4 := Lib.hid (show OwnM w4 w1.heap.size w2.heap.size (.slice A2 R.length k2) R by rw [← hw4]; exact own_seven HO3.out (.inl hl1))
      have HB4 := Lib.hid (show Below w.heap.size w w4 by rw [← hw4]; (repeat (first | (with_reducible exact Below.refl _ _) | (with_reducible refine Below.drew ?_) | ((with_reducible refine Below.alloc ?_ ?hB _); case hB => (first | (with_reducible exact Nat.le_refl _) | omega | (simp; done) | (simp; omega))) | ((with_reducible refine Below.setCell ?_ ?hB _); case hB => (first | (with_reducible exact Nat.le_refl _) | omega | (simp; done) | (simp; omega))))); exact HB3.out)
      have HG4 : Hid (GG w4 w.heap.size A m.length cm ⟨⟨n, s, l, c⟩, a, b⟩) := Lib.hid (by rw [← hw4]; exact ⟨gap_keep HG3.out.par (by omega), gap_keep HG3.out.res (by omega)⟩)
      have HW4 := Lib.hid hw4
      have HWR : Hid (Calls Try.prog 132 #[.agg #[.slice A2 R.length k2], .agg #[.int .i64 n', .int .i64 s', .int .i64 L, .int .i64 c'], .int .i64 a, .slice LA xs.length lc] w4 fun e w' => ∃ v, e = .returned (.agg #[v]) ∧ OwnM w' w4.heap.size w'.heap.size v R' ∧ Below w4.heap.size w4 w') := Lib.hid (by
        have h := specWrite_calls A2 k2 R n' s' a L c' LA lc xs w4 ((HO4.out.mono (Nat.zero_le _) (by omega)).reads) hw.ok hw.hn (by omega) ((HL.out.below HB4.out).more HB4.out.size)
        rw [hw.res]
        exact h)
      have hwp : IntKind.i64.wrap ((a : Int) + xs.length) = p := by rw [show (a : Int) + xs.length = p by omega]; exact IntWalk.i64_in _ (by omega)
      clear hw4
      go_upto_region 5 with fail
      rw [HW3.out]
      obtain ⟨z0, z1, z2, z3, z4, z5, z6⟩ := gap_cells HN3.out
      obtain ⟨x0, x1, x2, x3, x4, x5, x6⟩ := gap_cells HX3.out
      obtain ⟨y0, y1, y2, y3, y4, y5, y6⟩ := gap_frozen HX3.out
      go_upto_region 8 with fail
      rw [HW4.out]
      clear z0 z1 z2 z3 z4 z5 z6 x0 x1 x2 x3 x4 x5 x6 y0 y1 y2 y3 y4 y5 y6
      obtain ⟨x0, x1, x2, x3, x4, x5, x6⟩ := gap_cells HX4.out
      go_wp2_with fail
      refine HWR.out.mono ?_
      rintro e w5 ⟨v, rfl, hv, hb5⟩
      obtain ⟨Av, cv, rfl, hcv⟩ := hv.form
      have HB5 := Lib.hid (HB4.out.trans (hb5.mono HB4.out.size))
      have HG5 := Lib.hid (HG4.out.below hb5)
      have HX5 := Lib.hid ((hb5.block _ (by omega)).trans HX4.out)
      have HO := Lib.hid hv
      have hs5 := hb5.size
      clear hb5 hv x0 x1 x2 x3 x4 x5 x6
      obtain ⟨x0, x1, x2, x3, x4, x5, x6⟩ := gap_cells HX5.out
      obtain ⟨y0, y1, y2, y3, y4, y5, y6⟩ := gap_frozen HX5.out
      obtain ⟨r0, r1, r2, r3, r4, r5, r6⟩ := gap_cells HG5.out.res
      obtain ⟨f0, f1, f2, f3, f4, f5, f6⟩ := gap_frozen HG5.out.res
      go_wp2_with fail
      refine bodyPost_ret (v := .tuple #[.agg #[.slice Av R'.length cv, .int .i64 n', .int .i64 s', .int .i64 L, .int .i64 c', .int .i64 p, .int .i64 q], .bool true]) (by simp [results, Try.results100, go_sem, r0, r1, r2, r3, r4, r5, r6]) rfl ⟨_, by rw [HV.out], ?_, by (repeat (first | (with_reducible exact Below.refl _ _) | (with_reducible refine Below.drew ?_) | ((with_reducible refine Below.alloc ?_ ?hB _); case hB => (first | (with_reducible exact Nat.le_refl _) | omega | (simp; done) | (simp; omega))) | ((with_reducible refine Below.setCell ?_ ?hB _); case hB => (first | (with_reducible exact Nat.le_refl _) | omega | (simp; done) | (simp; omega))))); exact HB5.out⟩
      rw [HV.out, size_seven, World.size_setCell, World.size_setCell]
      exact (own_seven (own_setC (own_setC HO.out (.inl (by omega))) (.inl (by omega))) (.inl (by omega))).mono (by omega) (by omega)

set_option maxRecDepth 100000 in
set_option maxHeartbeats 1600000 in
theorem specPutBytes_calls (A : Option Addr) (cm : Nat) (m : List (List Int)) (g : Gp) (LA : Option Addr) (lc : Nat) (xs : List Int) (w : World) (hr : Rd2 w w.heap.size A m) (hn : m.length ≤ maxLen) (_hx : xs.length ≤ lc) (hx2 : xs.length ≤ 2097152) (hl : Rd w w.heap.size LA (intV .u8 xs)) :
    Calls Try.prog 40 #[.agg #[.slice A m.length cm, .int .i64 g.w.arr, .int .i64 g.w.start, .int .i64 g.w.len, .int .i64 g.w.cap, .int .i64 g.fr, .int .i64 g.up], .slice LA xs.length lc] w fun e w' => ∃ v, e = .returned (.tuple #[.agg #[v, .int .i64 (putBytesR m g xs).2.1.w.arr, .int .i64 (putBytesR m g xs).2.1.w.start, .int .i64 (putBytesR m g xs).2.1.w.len, .int .i64 (putBytesR m g xs).2.1.w.cap, .int .i64 (putBytesR m g xs).2.1.fr, .int .i64 (putBytesR m g xs).2.1.up], .bool (putBytesR m g xs).2.2]) ∧ OwnM w' w.heap.size w'.heap.size v (putBytesR m g xs).1 ∧ Below w.heap.size w w' := by
  obtain ⟨w0, hw0, hb0, hz0, hgg⟩ := enterGG A m.length cm g w
  have HC := Lib.hid (specGap_calls A cm m g w0 ((hr.below hb0).more hb0.size) hn)
  have HR := Lib.hid hr
  have HL := Lib.hid hl
  have HB := Lib.hid hb0
  have HW := Lib.hid hw0
  have HGG := Lib.hid hgg
  have hlr0 : w.heap.size + 1 < w0.heap.size := by omega
  obtain ⟨c0, d0, d1, d2, d3, d4, d5⟩ := gap_cells hgg.par
  clear hr hb0 hw0 hgg hz0 hl
  by_cases hok : GpOK m g
  · rw [decide_eq_true hok] at HC
    have HWD : Hid (∀ W, Below w.heap.size w W → Calls Try.prog 100 #[.agg #[.slice A m.length cm, .int .i64 g.w.arr, .int .i64 g.w.start, .int .i64 g.w.len, .int .i64 g.w.cap, .int .i64 g.fr, .int .i64 g.up], .slice LA xs.length lc] W fun e w' => ∃ v, e = .returned (.tuple #[.agg #[v, .int .i64 (putBytesR m g xs).2.1.w.arr, .int .i64 (putBytesR m g xs).2.1.w.start, .int .i64 (putBytesR m g xs).2.1.w.len, .int .i64 (putBytesR m g xs).2.1.w.cap, .int .i64 (putBytesR m g xs).2.1.fr, .int .i64 (putBytesR m g xs).2.1.up], .bool (putBytesR m g xs).2.2]) ∧ OwnM w' W.heap.size w'.heap.size v (putBytesR m g xs).1 ∧ Below W.heap.size W w') := Lib.hid (fun W hb => by
      rw [putBytesR, if_pos hok]
      obtain ⟨n, s, l, c, a, b, hnl, rfl, _⟩ := hok.nat
      exact specPut_calls A cm m n s l c a b LA lc xs W ((HR.out.below hb).more hb.size) hok hx2 ((HL.out.below hb).more hb.size))
    generalize putBytesR m g xs = R at *
    obtain ⟨M, y, ok⟩ := R
    dsimp only at *
    clear hok
    go_enter Try.func40, Try.ntmps40
    go_wp2_with fail
    rw [HW.out]
    refine HC.out.mono ?_
    rintro e w2 ⟨rfl, hb2⟩
    have HB2 := Lib.hid (HB.out.trans (hb2.mono HB.out.size))
    have HG2 := Lib.hid (HGG.out.below hb2)
    have hs2 := hb2.size
    clear hb2 c0 d0 d1 d2 d3 d4 d5
    obtain ⟨c0, d0, d1, d2, d3, d4, d5⟩ := gap_cells HG2.out.par
    go_wp2_with fail
    refine (HWD.out w2 HB2.out).mono ?_
    rintro e w4 ⟨v, rfl, hv, hb4⟩
    obtain ⟨Av, cv, rfl, hcv⟩ := hv.form
    have HB4 := Lib.hid (HB2.out.trans (hb4.mono HB2.out.size))
    have HG4 := Lib.hid (HG2.out.below hb4)
    have HO := Lib.hid hv
    clear hb4 hv c0 d0 d1 d2 d3 d4 d5
    obtain ⟨r0, r1, r2, r3, r4, r5, r6⟩ := gap_cells HG4.out.res
    obtain ⟨f0, f1, f2, f3, f4, f5, f6⟩ := gap_frozen HG4.out.res
    go_wp2_with fail
    refine bodyPost_ret (v := .tuple #[.agg #[.slice Av M.length cv, .int .i64 y.w.arr, .int .i64 y.w.start, .int .i64 y.w.len, .int .i64 y.w.cap, .int .i64 y.fr, .int .i64 y.up], .bool ok]) (by simp [results, Try.results40, go_sem, r0, r1, r2, r3, r4, r5, r6]) rfl ⟨_, rfl, ?_, by (repeat (first | (with_reducible exact Below.refl _ _) | (with_reducible refine Below.drew ?_) | ((with_reducible refine Below.alloc ?_ ?hB _); case hB => (first | (with_reducible exact Nat.le_refl _) | omega | (simp; done) | (simp; omega))) | ((with_reducible refine Below.setCell ?_ ?hB _); case hB => (first | (with_reducible exact Nat.le_refl _) | omega | (simp; done) | (simp; omega))))); exact HB4.out⟩
    rw [size_seven]
    exact (own_seven HO.out (.inl (by omega))).mono (by omega) (Nat.le_refl _)
  · have HV : Hid (putBytesR m g xs = ([], zeroGp, false)) := Lib.hid (by rw [putBytesR, if_neg hok])
    rw [decide_eq_false hok] at HC
    clear hok
    go_enter Try.func40, Try.ntmps40
    go_wp2_with fail
    rw [HW.out]
    refine HC.out.mono ?_
    rintro e w2 ⟨rfl, hb2⟩
    have HB2 := Lib.hid (HB.out.trans (hb2.mono HB.out.size))
    have HG2 := Lib.hid (HGG.out.below hb2)
    clear hb2 c0 d0 d1 d2 d3 d4 d5
    obtain ⟨r0, r1, r2, r3, r4, r5, r6⟩ := gap_cells HG2.out.res
    obtain ⟨f0, f1, f2, f3, f4, f5, f6⟩ := gap_frozen HG2.out.res
    go_wp2_with fail
    refine bodyPost_ret (v := .tuple #[.agg #[.slice none 0 0, .int .i64 0, .int .i64 0, .int .i64 0, .int .i64 0, .int .i64 0, .int .i64 0], .bool false]) (by simp [results, Try.results40, go_sem, r0, r1, r2, r3, r4, r5, r6]) rfl ⟨_, by rw [HV.out]; rfl, by rw [HV.out]; exact own_none _ _ _, by (repeat (first | (with_reducible exact Below.refl _ _) | (with_reducible refine Below.drew ?_) | ((with_reducible refine Below.alloc ?_ ?hB _); case hB => (first | (with_reducible exact Nat.le_refl _) | omega | (simp; done) | (simp; omega))) | ((with_reducible refine Below.setCell ?_ ?hB _); case hB => (first | (with_reducible exact Nat.le_refl _) | omega | (simp; done) | (simp; omega))))); exact HB2.out⟩
end Go.Proofs.Ytkclpppnjfhbpaa
