/-
  MoveGap of impl.
-/
import Derived.Test.YtkclpppnjfhbpaaGpW
import Derived.Test.YtkclpppnjfhbpaaGpP
import Derived.Test.YtkclpppnjfhbpaaMeet
namespace Go.Proofs.Ytkclpppnjfhbpaa
open Go.RowKit

/-- A stretch of what a window sees. -/
theorem wb_part' {m : List (List Int)} {n s l : Nat} (hn : n < m.length) (_h : s + l ≤ m[n].length) (k t : Nat) (hk : k + t ≤ l) : ((wb m n s l).drop k).take t = (m[n].drop (s + k)).take t := by
  rw [wb_eq hn, List.drop_take, List.take_take, List.drop_drop, Nat.min_eq_left (by omega)]

set_option maxRecDepth 100000 in
set_option maxHeartbeats 3200000 in
/-- MoveGap, where the hole can be moved. -/
theorem implMove_ok (A : Option Addr) (cm : Nat) (m : List (List Int)) (n s l c a b p q C : Nat) (w : World) (hr : Rd2 w w.heap.size A m) (hok : GpOK m ⟨⟨n, s, l, c⟩, a, b⟩) (hx : GArgW ⟨⟨n, s, l, c⟩, a, b⟩) (hq : p + (b - a) = q) (hql : q ≤ l) (hC : moveC a p = C) :
    Calls Try.prog 37 #[.agg #[.slice A m.length cm, .int .i64 n, .int .i64 s, .int .i64 l, .int .i64 c, .int .i64 a, .int .i64 b], .int .i64 p] w fun e w' => ∃ v, e = .returned (.tuple #[.agg #[v, .int .i64 n, .int .i64 s, .int .i64 l, .int .i64 c, .int .i64 p, .int .i64 q], .int .i64 C, .bool true]) ∧ OwnM w' w.heap.size w'.heap.size v (moveM m n s l a b p) ∧ Below w.heap.size w w' := by
  have hn : m.length ≤ maxLen := by have := hok.1.1.1; simp only [maxLen]; omega
  have hok0 := hok
  obtain ⟨n', s', l', c', a', b', hnl, e, hab, hbl, hlc, hsc, h1m, h64, h16⟩ := hok.nat
  injection e with e1 e2 e3
  injection e1 with e4 e5 e6 e7
  obtain rfl : n = n' := by omega
  obtain rfl : s = s' := by omega
  obtain rfl : l = l' := by omega
  obtain rfl : c = c' := by omega
  obtain rfl : a = a' := by omega
  obtain rfl : b = b' := by omega
  clear e2 e3 e4 e5 e6 e7
  obtain ⟨H, hH⟩ : ∃ H : Nat, b - a = H := ⟨_, rfl⟩
  have hHi : (b : Int) - a = H := by omega
  obtain ⟨w0, hw0, hb0, hz0, hgg⟩ := enterGG A m.length cm ⟨⟨n, s, l, c⟩, a, b⟩ w
  have HC := Lib.hid (openGap_calls A cm m ⟨⟨n, s, l, c⟩, a, b⟩ w0 ((hr.below hb0).more hb0.size) hn hx)
  dsimp only at hw0 hgg HC
  have HB := Lib.hid hb0
  have HW := Lib.hid hw0
  have HGG := Lib.hid hgg
  have hwl : (wb m n s l).length = l := wb_len hnl (by omega)
  obtain ⟨R, hR⟩ : ∃ R, moveM m n s l a b p = R := ⟨_, rfl⟩
  rw [hR]
  have HMV : Hid (R = if p ≤ a then m.set n (over m[n] (s + (p + H)) (((wb m n s l).drop p).take (a - p))) else m.set n (over m[n] (s + a) (((wb m n s l).drop b).take (p - a)))) := Lib.hid (by rw [← hR, moveM, getD_eq hnl, hH])
  clear hR
  have HLEN : Hid (∀ W, Calls Try.prog 92 #[.agg #[.slice A m.length cm, .int .i64 n, .int .i64 s, .int .i64 l, .int .i64 c, .int .i64 a, .int .i64 b]] W fun e w' => e = .returned (.int .i64 (l - H : Nat)) ∧ Below W.heap.size W w') := Lib.hid fun W => by
    have h := length_calls A m.length cm ⟨⟨n, s, l, c⟩, a, b⟩ W (by dsimp only; omega) (by dsimp only; omega) (by dsimp only; omega)
    dsimp only at h
    rw [show (l : Int) - ((b : Int) - a) = (l - H : Nat) by omega] at h
    exact h
  have HHOLE : Hid (∀ W, Calls Try.prog 97 #[.agg #[.slice A m.length cm, .int .i64 n, .int .i64 s, .int .i64 l, .int .i64 c, .int .i64 a, .int .i64 b]] W fun e w' => e = .returned (.int .i64 H) ∧ Below W.heap.size W w') := Lib.hid fun W => by
    have h := hole_calls A m.length cm ⟨⟨n, s, l, c⟩, a, b⟩ W (by dsimp only; omega) (by dsimp only; omega)
    dsimp only at h
    rw [hHi] at h
    exact h
  obtain ⟨c0, d0, d1, d2, d3, d4, d5⟩ := gap_cells hgg.par
  have HHI := Lib.hid hHi
  have HHH := Lib.hid hH
  have HCC := Lib.hid hC
  have HQQ := Lib.hid hq
  have HWL := Lib.hid hwl
  have HWB := Lib.hid (fun k t (hk : k + t ≤ l) => wb_part' (m := m) (n := n) (s := s) (l := l) hnl (show s + l ≤ m[n].length by omega) k t hk)
  have HOK := Lib.hid hok0
  have hpl : p ≤ l - H := by omega
  clear hr hb0 hw0 hgg hok hok0 hHi hH hC hq hwl
  go_enter Try.func37, Try.ntmps37
  go_wp2_with fail
  rw [HW.out]
  refine HC.out.mono ?_
  rintro e w2 ⟨ho2, hb2⟩
  rcases ho2 with ⟨hno, _⟩ | ⟨_, Av, cv, rfl, hv⟩
  · exact absurd HOK.out hno
  have HB2 := Lib.hid (HB.out.trans (hb2.mono HB.out.size))
  have HG2 := Lib.hid (HGG.out.below hb2)
  have hs2 := hb2.size
  clear hb2 c0 d0 d1 d2 d3 d4 d5
  obtain ⟨gb, g, cap, rfl, hgb, hg1, hg2, hg3, hg4, hrow, hcap1, hcap2, hcells, hfr, hro, hset⟩ := hv.row_at hnl h1m
  obtain ⟨w3, hw3⟩ : ∃ w3, w2.alloc (.cells #[.slice (some ⟨gb, 0, none⟩) m.length cv, .int .i64 n, .int .i64 s, .int .i64 l, .int .i64 c, .int .i64 a, .int .i64 b] 34) = w3 := ⟨_, rfl⟩
  have hb3 : Below w2.heap.size w2 w3 := by rw [← hw3]; exact (Below.refl _ _).alloc (Nat.le_refl _) _
  have HX3 := Lib.hid (show w3.heap[w2.heap.size]? = some (.cells #[.slice (some ⟨gb, 0, none⟩) m.length cv, .int .i64 n, .int .i64 s, .int .i64 l, .int .i64 c, .int .i64 a, .int .i64 b] 34) by rw [← hw3]; exact heap_alloc_new _ _)
  have HG3 := Lib.hid (HG2.out.below hb3)
  have HB3 := Lib.hid (HB2.out.trans (hb3.mono HB2.out.size))
  have HB23 := Lib.hid hb3
  have HRW2 := Lib.hid hrow
  have HSE := Lib.hid hset
  have HRO2 := Lib.hid hro
  have HW3 := Lib.hid hw3
  have hs3 := hb3.size
  have hl3 : w2.heap.size < w3.heap.size := (Array.getElem?_eq_some_iff.1 HX3.out).1
  clear hb3 hw3 hv hrow hcells hfr hro hset
  go_upto_region 2 with fail
  rw [HW3.out]
  obtain ⟨c0, d0, d1, d2, d3, d4, d5⟩ := gap_cells HG3.out.par
  have j0 : ¬ (p : Int) < 0 := by omega
  have j1 : ¬ ((l - H : Nat) : Int) < p := by omega
  go_wp2_with fail
  refine (HLEN.out w3).mono ?_
  rintro e w4 ⟨rfl, hb4⟩
  have HG4 := Lib.hid (HG3.out.below hb4)
  have HX4 := Lib.hid ((hb4.block _ hl3).trans HX3.out)
  have HB24 := Lib.hid (HB23.out.trans (hb4.mono hs3))
  have hs4 := hb4.size
  clear hb4 c0 d0 d1 d2 d3 d4 d5
  obtain ⟨c0, d0, d1, d2, d3, d4, d5⟩ := gap_cells HG4.out.par
  obtain ⟨x0, x1, x2, x3, x4, x5, x6⟩ := gap_cells HX4.out
  go_wp2_with fail
  refine (HHOLE.out w4).mono ?_
  rintro e w5 ⟨rfl, hb5⟩
  have HG5 := Lib.hid (HG4.out.below hb5)
  have HX5 := Lib.hid ((hb5.block _ (by omega)).trans HX4.out)
  have HB25 := Lib.hid (HB24.out.trans (hb5.mono (Nat.le_trans hs3 hs4)))
  have hs5 := hb5.size
  clear hb5 c0 d0 d1 d2 d3 d4 d5 x0 x1 x2 x3 x4 x5 x6
  obtain ⟨x0, x1, x2, x3, x4, x5, x6⟩ := gap_cells HX5.out
  obtain ⟨y0, y1, y2, y3, y4, y5, y6⟩ := gap_frozen HX5.out
  obtain ⟨w6, hw6⟩ : ∃ w6, (w5.setCell ⟨w2.heap.size, 5, none⟩ (.int .i64 p)).setCell ⟨w2.heap.size, 6, none⟩ (.int .i64 q) = w6 := ⟨_, rfl⟩
  have hz6 : w6.heap.size = w5.heap.size := by rw [← hw6, World.size_setCell, World.size_setCell]
  have l0 := (Array.getElem?_eq_some_iff.1 HG2.out.par).1
  have l1 := (Array.getElem?_eq_some_iff.1 HG2.out.res).1
  have HX6 := Lib.hid (show w6.heap[w2.heap.size]? = some (.cells #[.slice (some ⟨gb, 0, none⟩) m.length cv, .int .i64 n, .int .i64 s, .int .i64 l, .int .i64 c, .int .i64 p, .int .i64 q] 34) by
    rw [← hw6]
    have h1 := cells_put (i := 5) (v := .int .i64 p) HX5.out
    have h2 := cells_put (i := 6) (v := .int .i64 q) h1
    simpa using h2)
  have HG6 : Hid (GG w6 w.heap.size A m.length cm ⟨⟨n, s, l, c⟩, a, b⟩) := Lib.hid (by rw [← hw6]; exact ⟨keep_set (keep_set HG5.out.par (by omega)) (by omega), keep_set (keep_set HG5.out.res (by omega)) (by omega)⟩)
  have HB26 : Hid (Below w2.heap.size w2 w6) := Lib.hid (by rw [← hw6]; exact (HB25.out.setCell (Nat.le_refl _) _).setCell (Nat.le_refl _) _)
  have HW6 := Lib.hid hw6
  have HZ6 := Lib.hid hz6
  have hwq : IntKind.i64.wrap ((p : Int) + H) = q := by rw [show (p : Int) + H = q by have := HQQ.out; have := HHH.out; omega]; exact IntWalk.i64_in _ (by omega)
  have hsq : (p : Int) + H = q := by have := HQQ.out; have := HHH.out; omega
  have hwqq : IntKind.i64.wrap (q : Int) = q := IntWalk.i64_in _ (by omega)
  clear hw6 hz6
  have HST := Lib.hid (stored_calls gb 0 cv m n s l c p q g 0 cap w6 hnl h16 hlc hsc h64 hcap1 hcap2 (by rw [Nat.zero_add]; exact (HB26.out.cell (p := ⟨gb, n, none⟩) hg3).trans HRW2.out) (by have := HZ6.out; omega))
  go_wp2_with fail
  rw [HW6.out]
  clear x0 x1 x2 x3 x4 x5 x6 y0 y1 y2 y3 y4 y5 y6 hwq hsq hwqq
  refine HST.out.mono ?_
  rintro e w7 ⟨⟨ov, rfl, hov⟩, hb7⟩
  have HG7 := Lib.hid (HG6.out.below hb7)
  have HX7 := Lib.hid ((hb7.block _ (by have := HZ6.out; omega)).trans HX6.out)
  have HB27 := Lib.hid (HB26.out.trans (hb7.mono (by have := HZ6.out; omega)))
  have hs7 : w2.heap.size < w7.heap.size := by have := HZ6.out; have := hb7.size; omega
  have HRO7 := Lib.hid (own_below HRO2.out HB27.out)
  have HRD7 := Lib.hid (Rd.of_own HRO7.out)
  clear hb7
  have hszu : (Try.prog.info? 5).map (·.size) = some 1 := by kernel_rfl
  have HLB := Lib.hid (fun (W : World) (h : W.heap[w.heap.size]? = some (.cells #[.slice A m.length cm, .int .i64 n, .int .i64 s, .int .i64 l, .int .i64 c, .int .i64 a, .int .i64 b] 34)) (h' : W.heap[w2.heap.size]? = some (.cells #[.slice (some ⟨gb, 0, none⟩) m.length cv, .int .i64 n, .int .i64 s, .int .i64 l, .int .i64 c, .int .i64 p, .int .i64 q] 34)) => And.intro (gap_cells h) (gap_cells h'))
  obtain ⟨⟨c0, d0, d1, d2, d3, d4, d5⟩, x0, x1, x2, x3, x4, x5, x6⟩ := HLB.out w7 HG7.out.par HX7.out
  have HK7 := Lib.hid (HLB.out w7.drew (block_drew HG7.out.par) (block_drew HX7.out))
  have i0 : (0 : Int) ≤ (p : Int) := by omega
  have i1 : (0 : Int) ≤ (a : Int) := by omega
  have i2 : (a : Int) ≤ (c : Int) := by omega
  have i3 : (0 : Int) ≤ (b : Int) := by omega
  have i4 : (b : Int) ≤ (c : Int) := by omega
  have i5 : (0 : Int) ≤ (q : Int) := by omega
  have i6 : (q : Int) ≤ (c : Int) := by omega
  have i7 : (p : Int) ≤ (c : Int) := by omega

  rcases (show p < a ∨ a < p ∨ (p = a ∧ c = a) ∨ (p = a ∧ a < c ∧ c = b) ∨ (p = a ∧ a < c ∧ b < c) by omega) with h1 | h1 | ⟨h1, h2⟩ | ⟨h1, h2, h3⟩ | ⟨h1, h2, h3⟩
  · skip
    have hpi : (p : Int) < a := by omega
    have hcq : ¬ c = q := by have := HQQ.out; have := HHH.out; omega
    have hcp : ¬ c = p := by omega
    have i8 : (p : Int) ≤ (a : Int) := by omega
    have i9 : (q : Int) ≤ (b : Int) := by have := HQQ.out; have := HHH.out; omega
    have HRR : Hid (R = m.set n (over m[n] (s + q) (((wb m n s l).drop p).take (a - p)))) := Lib.hid (by
      rw [HMV.out]
      rw [if_pos (by omega), show p + H = q by have := HQQ.out; have := HHH.out; omega])
    have HYL : Hid (((((wb m n s l).drop p).take (a - p)) : List Int).length = (a - p)) := Lib.hid (by rw [List.length_take, List.length_drop, HWL.out]; have := HQQ.out; have := HHH.out; omega)
    have HHN : Hid ((a - p) = Nat.min (a - p) (b - q)) := Lib.hid (by show (a - p) = min (a - p) (b - q); have := HQQ.out; have := HHH.out; omega)
    have HFIT := Lib.hid (show (s + q) + ((((wb m n s l).drop p).take (a - p)) : List Int).length ≤ m[n].length by rw [HYL.out]; have := HQQ.out; have := HHH.out; omega)
    have hovs : s = ov := by rw [hov (by omega), Nat.zero_add]
    subst hovs
    have HHS : Hid (0 < ((((wb m n s l).drop p).take (a - p))).length → ∃ ad, (some ⟨g, s + p, none⟩ : Option Addr) = some ad ∧ ∀ j v, (intV .u8 ((((wb m n s l).drop p).take (a - p))))[j]? = some v → w7.drew.cell? (ad.add j) = some v) := Lib.hid (fun _ => ⟨_, rfl, rd_cells (by
      have h := HRD7.out.part (s + p) ((a - p))
      rw [Nat.zero_add, ← HWB.out p ((a - p)) (by have := HQQ.out; have := HHH.out; omega)] at h
      exact h)⟩)
    have hrow7 : Hid (w7.drew.ownsRow w0.heap.size 5 1 (.slice (some ⟨g, 0, none⟩) m[n].length cap) m[n].length (intV .u8 m[n])) := Lib.hid HRO7.out
    go_upto_region 7 with fail
    clear c0 d0 d1 d2 d3 d4 d5 x0 x1 x2 x3 x4 x5 x6
    obtain ⟨⟨c0, d0, d1, d2, d3, d4, d5⟩, x0, x1, x2, x3, x4, x5, x6⟩ := HK7.out
    go_region_held3 (fun W => W.cell? ⟨w.heap.size, 0, none⟩ = some (.slice A m.length cm) ∧ W.cell? ⟨w.heap.size, 1, none⟩ = some (.int .i64 n) ∧ W.cell? ⟨w.heap.size, 2, none⟩ = some (.int .i64 s) ∧ W.cell? ⟨w.heap.size, 3, none⟩ = some (.int .i64 l) ∧ W.cell? ⟨w.heap.size, 4, none⟩ = some (.int .i64 c) ∧ W.cell? ⟨w.heap.size, 5, none⟩ = some (.int .i64 a) ∧ W.cell? ⟨w.heap.size, 6, none⟩ = some (.int .i64 b) ∧ W.cell? ⟨w2.heap.size, 0, none⟩ = some (.slice (some ⟨gb, 0, none⟩) m.length cv) ∧ W.cell? ⟨w2.heap.size, 1, none⟩ = some (.int .i64 n) ∧ W.cell? ⟨w2.heap.size, 2, none⟩ = some (.int .i64 s) ∧ W.cell? ⟨w2.heap.size, 3, none⟩ = some (.int .i64 l) ∧ W.cell? ⟨w2.heap.size, 4, none⟩ = some (.int .i64 c) ∧ W.cell? ⟨w2.heap.size, 5, none⟩ = some (.int .i64 p) ∧ W.cell? ⟨w2.heap.size, 6, none⟩ = some (.int .i64 q))
      (first | (with_reducible exact ⟨c0, d0, d1, d2, d3, d4, d5, x0, x1, x2, x3, x4, x5, x6⟩) | (with_reducible exact ⟨k0, k1, k2, k3, k4, k5, k6, z0, z1, z2, z3, z4, z5, z6⟩))
      (first | (refine step_copy_row0 (by rfl) _ _ 46 46 (by rfl) Try.underlying46 hszu (some ⟨g, s + q, none⟩) (some ⟨g, s + p, none⟩) (b - q) (c - q) (a - p) (c - p) (by rfl) (by rfl) g w0.heap.size cap m[n] hrow7.out (s + q) (((wb m n s l).drop p).take (a - p)) (a - p) HYL.out HHN.out (fun _ => rfl) HFIT.out HHS.out ?_; intro w8 hown8 hg8; obtain ⟨⟨k0, k1, k2, k3, k4, k5, k6⟩, z0, z1, z2, z3, z4, z5, z6⟩ := HLB.out w8 (grown_block hg8 (block_drew HG7.out.par) (by omega)) (grown_block hg8 (block_drew HX7.out) (by omega)); have HRES := Lib.hid (grown_block hg8 (block_drew HG7.out.res) (by omega))))
    have HOM : Hid (OwnM w8 w0.heap.size w2.heap.size (.slice (some ⟨gb, 0, none⟩) m.length cv) R) := Lib.hid (by
      rw [HRR.out]
      exact HSE.out w8 _ (over_len HFIT.out) hown8 ((grown_of_below HB27.out.drew (some g)).trans hg8))
    have hB7 := HB2.out.trans (HB27.out.mono HB2.out.size)
    have HB8 := Lib.hid (grown_below hB7.drew hB7.size hg8 (by have := hB7.size; omega))
    clear hB7
    have HCE := Lib.hid (show C = (a - p) by have h := HCC.out; rw [moveC, if_pos (by omega)] at h; omega)
    obtain ⟨r0, r1, r2, r3, r4, r5, r6⟩ := gap_cells HRES.out
    obtain ⟨f0, f1, f2, f3, f4, f5, f6⟩ := gap_frozen HRES.out
    have hs8 : w2.heap.size ≤ w8.heap.size := Nat.le_trans (Nat.le_of_lt hs7) hg8.size
    clear hown8 hg8
    go_wp2_with fail
    refine bodyPost_ret (v := .tuple #[.agg #[.slice (some ⟨gb, 0, none⟩) m.length cv, .int .i64 n, .int .i64 s, .int .i64 l, .int .i64 c, .int .i64 p, .int .i64 q], .int .i64 ((a - p) : Nat), .bool true]) (by simp [results, Try.results37, go_sem, r0, r1, r2, r3, r4, r5, r6]) rfl ⟨_, by first | (rw [HCE.out]; done) | (rw [HCE.out]; rfl), ?_, by (repeat (first | (with_reducible exact Below.refl _ _) | (with_reducible refine Below.drew ?_) | ((with_reducible refine Below.alloc ?_ ?hB _); case hB => (first | (with_reducible exact Nat.le_refl _) | omega | (simp; done) | (simp; omega))) | ((with_reducible refine Below.setCell ?_ ?hB _); case hB => (first | (with_reducible exact Nat.le_refl _) | omega | (simp; done) | (simp; omega))))); exact HB8.out⟩
    have hfin := own_seven (g := w.heap.size + 1) (v0 := .slice (some ⟨gb, 0, none⟩) m.length cv) (v1 := .int .i64 n) (v2 := .int .i64 s) (v3 := .int .i64 l) (v4 := .int .i64 c) (v5 := .int .i64 p) (v6 := .int .i64 q) HOM.out (.inl (by omega))
    first | (with_reducible exact own_finG hfin (by rw [size_seven]; exact hs8) (by omega)) | (with_reducible exact own_drewG hfin (by rw [size_seven]; exact hs8) (by omega))
  · skip
    have hpi : ¬ (p : Int) < a := by omega
    have hca : ¬ c = a := by have := HQQ.out; have := HHH.out; omega
    have hcb : ¬ c = b := by have := HQQ.out; have := HHH.out; omega
    have i8 : (a : Int) ≤ (p : Int) := by omega
    have i9 : (b : Int) ≤ (q : Int) := by have := HQQ.out; have := HHH.out; omega
    have HRR : Hid (R = m.set n (over m[n] (s + a) (((wb m n s l).drop b).take (p - a)))) := Lib.hid (by
      rw [HMV.out]
      rw [if_neg (by omega)])
    have HYL : Hid (((((wb m n s l).drop b).take (p - a)) : List Int).length = (p - a)) := Lib.hid (by rw [List.length_take, List.length_drop, HWL.out]; have := HQQ.out; have := HHH.out; omega)
    have HHN : Hid ((p - a) = Nat.min (q - b) (p - a)) := Lib.hid (by show (p - a) = min (q - b) (p - a); have := HQQ.out; have := HHH.out; omega)
    have HFIT := Lib.hid (show (s + a) + ((((wb m n s l).drop b).take (p - a)) : List Int).length ≤ m[n].length by rw [HYL.out]; have := HQQ.out; have := HHH.out; omega)
    have hovs : s = ov := by rw [hov (by omega), Nat.zero_add]
    subst hovs
    have HHS : Hid (0 < ((((wb m n s l).drop b).take (p - a))).length → ∃ ad, (some ⟨g, s + b, none⟩ : Option Addr) = some ad ∧ ∀ j v, (intV .u8 ((((wb m n s l).drop b).take (p - a))))[j]? = some v → w7.drew.cell? (ad.add j) = some v) := Lib.hid (fun _ => ⟨_, rfl, rd_cells (by
      have h := HRD7.out.part (s + b) ((p - a))
      rw [Nat.zero_add, ← HWB.out b ((p - a)) (by have := HQQ.out; have := HHH.out; omega)] at h
      exact h)⟩)
    have hrow7 : Hid (w7.drew.ownsRow w0.heap.size 5 1 (.slice (some ⟨g, 0, none⟩) m[n].length cap) m[n].length (intV .u8 m[n])) := Lib.hid HRO7.out
    go_upto_region 8 with fail
    clear c0 d0 d1 d2 d3 d4 d5 x0 x1 x2 x3 x4 x5 x6
    obtain ⟨⟨c0, d0, d1, d2, d3, d4, d5⟩, x0, x1, x2, x3, x4, x5, x6⟩ := HK7.out
    go_region_held3 (fun W => W.cell? ⟨w.heap.size, 0, none⟩ = some (.slice A m.length cm) ∧ W.cell? ⟨w.heap.size, 1, none⟩ = some (.int .i64 n) ∧ W.cell? ⟨w.heap.size, 2, none⟩ = some (.int .i64 s) ∧ W.cell? ⟨w.heap.size, 3, none⟩ = some (.int .i64 l) ∧ W.cell? ⟨w.heap.size, 4, none⟩ = some (.int .i64 c) ∧ W.cell? ⟨w.heap.size, 5, none⟩ = some (.int .i64 a) ∧ W.cell? ⟨w.heap.size, 6, none⟩ = some (.int .i64 b) ∧ W.cell? ⟨w2.heap.size, 0, none⟩ = some (.slice (some ⟨gb, 0, none⟩) m.length cv) ∧ W.cell? ⟨w2.heap.size, 1, none⟩ = some (.int .i64 n) ∧ W.cell? ⟨w2.heap.size, 2, none⟩ = some (.int .i64 s) ∧ W.cell? ⟨w2.heap.size, 3, none⟩ = some (.int .i64 l) ∧ W.cell? ⟨w2.heap.size, 4, none⟩ = some (.int .i64 c) ∧ W.cell? ⟨w2.heap.size, 5, none⟩ = some (.int .i64 p) ∧ W.cell? ⟨w2.heap.size, 6, none⟩ = some (.int .i64 q))
      (first | (with_reducible exact ⟨c0, d0, d1, d2, d3, d4, d5, x0, x1, x2, x3, x4, x5, x6⟩) | (with_reducible exact ⟨k0, k1, k2, k3, k4, k5, k6, z0, z1, z2, z3, z4, z5, z6⟩))
      (first | (refine step_copy_row0 (by rfl) _ _ 46 46 (by rfl) Try.underlying46 hszu (some ⟨g, s + a, none⟩) (some ⟨g, s + b, none⟩) (p - a) (c - a) (q - b) (c - b) (by rfl) (by rfl) g w0.heap.size cap m[n] hrow7.out (s + a) (((wb m n s l).drop b).take (p - a)) (p - a) HYL.out HHN.out (fun _ => rfl) HFIT.out HHS.out ?_; intro w8 hown8 hg8; obtain ⟨⟨k0, k1, k2, k3, k4, k5, k6⟩, z0, z1, z2, z3, z4, z5, z6⟩ := HLB.out w8 (grown_block hg8 (block_drew HG7.out.par) (by omega)) (grown_block hg8 (block_drew HX7.out) (by omega)); have HRES := Lib.hid (grown_block hg8 (block_drew HG7.out.res) (by omega))))
    have HOM : Hid (OwnM w8 w0.heap.size w2.heap.size (.slice (some ⟨gb, 0, none⟩) m.length cv) R) := Lib.hid (by
      rw [HRR.out]
      exact HSE.out w8 _ (over_len HFIT.out) hown8 ((grown_of_below HB27.out.drew (some g)).trans hg8))
    have hB7 := HB2.out.trans (HB27.out.mono HB2.out.size)
    have HB8 := Lib.hid (grown_below hB7.drew hB7.size hg8 (by have := hB7.size; omega))
    clear hB7
    have HCE := Lib.hid (show C = (p - a) by have h := HCC.out; rw [moveC, if_neg (by omega)] at h; omega)
    obtain ⟨r0, r1, r2, r3, r4, r5, r6⟩ := gap_cells HRES.out
    obtain ⟨f0, f1, f2, f3, f4, f5, f6⟩ := gap_frozen HRES.out
    have hs8 : w2.heap.size ≤ w8.heap.size := Nat.le_trans (Nat.le_of_lt hs7) hg8.size
    clear hown8 hg8
    go_wp2_with fail
    refine bodyPost_ret (v := .tuple #[.agg #[.slice (some ⟨gb, 0, none⟩) m.length cv, .int .i64 n, .int .i64 s, .int .i64 l, .int .i64 c, .int .i64 p, .int .i64 q], .int .i64 ((p - a) : Nat), .bool true]) (by simp [results, Try.results37, go_sem, r0, r1, r2, r3, r4, r5, r6]) rfl ⟨_, by first | (rw [HCE.out]; done) | (rw [HCE.out]; rfl), ?_, by (repeat (first | (with_reducible exact Below.refl _ _) | (with_reducible refine Below.drew ?_) | ((with_reducible refine Below.alloc ?_ ?hB _); case hB => (first | (with_reducible exact Nat.le_refl _) | omega | (simp; done) | (simp; omega))) | ((with_reducible refine Below.setCell ?_ ?hB _); case hB => (first | (with_reducible exact Nat.le_refl _) | omega | (simp; done) | (simp; omega))))); exact HB8.out⟩
    have hfin := own_seven (g := w.heap.size + 1) (v0 := .slice (some ⟨gb, 0, none⟩) m.length cv) (v1 := .int .i64 n) (v2 := .int .i64 s) (v3 := .int .i64 l) (v4 := .int .i64 c) (v5 := .int .i64 p) (v6 := .int .i64 q) HOM.out (.inl (by omega))
    first | (with_reducible exact own_finG hfin (by rw [size_seven]; exact hs8) (by omega)) | (with_reducible exact own_drewG hfin (by rw [size_seven]; exact hs8) (by omega))
  · skip
    have hpi : ¬ (p : Int) < a := by omega
    have hqb : b = q := by have := HQQ.out; have := HHH.out; omega
    have hap : a = p := h1.symm
    clear h1
    subst hap
    subst hqb
    have hac : a = c := h2.symm
    clear h2
    subst hac
    obtain rfl : a = b := by omega
    obtain rfl : a = l := by omega
    have HRR : Hid (R = m.set n (over m[n] (s + a) [])) := Lib.hid (by
      rw [HMV.out]
      rw [if_pos (Nat.le_refl _), Nat.sub_self, List.take_zero, over_nil, over_nil])
    have HYL : Hid (([] : List Int).length = 0) := Lib.hid (rfl)
    have HHN : Hid (0 = Nat.min 0 0) := Lib.hid (by show 0 = min 0 0; have := HQQ.out; have := HHH.out; omega)
    have HFIT := Lib.hid (show (s + a) + ([] : List Int).length ≤ m[n].length by rw [HYL.out]; have := HQQ.out; have := HHH.out; omega)
    have HHS : Hid (0 < ([] : List Int).length → ∃ ad, ((some ⟨g, ov, none⟩) : Option Addr) = some ad ∧ ∀ j v, (intV .u8 ([] : List Int))[j]? = some v → w7.drew.cell? (ad.add j) = some v) := Lib.hid (fun h => absurd h (Nat.lt_irrefl _))
    have hrow7 : Hid (w7.drew.ownsRow w0.heap.size 5 1 (.slice (some ⟨g, 0, none⟩) m[n].length cap) m[n].length (intV .u8 m[n])) := Lib.hid HRO7.out
    go_upto_region 8 with fail
    clear c0 d0 d1 d2 d3 d4 d5 x0 x1 x2 x3 x4 x5 x6
    obtain ⟨⟨c0, d0, d1, d2, d3, d4, d5⟩, x0, x1, x2, x3, x4, x5, x6⟩ := HK7.out
    go_region_held3 (fun W => W.cell? ⟨w.heap.size, 0, none⟩ = some (.slice A m.length cm) ∧ W.cell? ⟨w.heap.size, 1, none⟩ = some (.int .i64 n) ∧ W.cell? ⟨w.heap.size, 2, none⟩ = some (.int .i64 s) ∧ W.cell? ⟨w.heap.size, 3, none⟩ = some (.int .i64 a) ∧ W.cell? ⟨w.heap.size, 4, none⟩ = some (.int .i64 a) ∧ W.cell? ⟨w.heap.size, 5, none⟩ = some (.int .i64 a) ∧ W.cell? ⟨w.heap.size, 6, none⟩ = some (.int .i64 a) ∧ W.cell? ⟨w2.heap.size, 0, none⟩ = some (.slice (some ⟨gb, 0, none⟩) m.length cv) ∧ W.cell? ⟨w2.heap.size, 1, none⟩ = some (.int .i64 n) ∧ W.cell? ⟨w2.heap.size, 2, none⟩ = some (.int .i64 s) ∧ W.cell? ⟨w2.heap.size, 3, none⟩ = some (.int .i64 a) ∧ W.cell? ⟨w2.heap.size, 4, none⟩ = some (.int .i64 a) ∧ W.cell? ⟨w2.heap.size, 5, none⟩ = some (.int .i64 a) ∧ W.cell? ⟨w2.heap.size, 6, none⟩ = some (.int .i64 a))
      (first | (with_reducible exact ⟨c0, d0, d1, d2, d3, d4, d5, x0, x1, x2, x3, x4, x5, x6⟩) | (with_reducible exact ⟨k0, k1, k2, k3, k4, k5, k6, z0, z1, z2, z3, z4, z5, z6⟩))
      (first | (refine step_copy_row0 (by rfl) _ _ 46 46 (by rfl) Try.underlying46 hszu (some ⟨g, ov, none⟩) (some ⟨g, ov, none⟩) 0 0 0 0 (by rfl) (by rfl) g w0.heap.size cap m[n] hrow7.out (s + a) [] 0 HYL.out HHN.out (fun h => absurd h (Nat.lt_irrefl _)) HFIT.out HHS.out ?_; intro w8 hown8 hg8; obtain ⟨⟨k0, k1, k2, k3, k4, k5, k6⟩, z0, z1, z2, z3, z4, z5, z6⟩ := HLB.out w8 (grown_block hg8 (block_drew HG7.out.par) (by omega)) (grown_block hg8 (block_drew HX7.out) (by omega)); have HRES := Lib.hid (grown_block hg8 (block_drew HG7.out.res) (by omega))))
    have HOM : Hid (OwnM w8 w0.heap.size w2.heap.size (.slice (some ⟨gb, 0, none⟩) m.length cv) R) := Lib.hid (by
      rw [HRR.out]
      exact HSE.out w8 _ (over_len HFIT.out) hown8 ((grown_of_below HB27.out.drew (some g)).trans hg8))
    have hB7 := HB2.out.trans (HB27.out.mono HB2.out.size)
    have HB8 := Lib.hid (grown_below hB7.drew hB7.size hg8 (by have := hB7.size; omega))
    clear hB7
    have HCE := Lib.hid (show C = 0 by have h := HCC.out; rw [moveC, if_pos (by omega)] at h; omega)
    obtain ⟨r0, r1, r2, r3, r4, r5, r6⟩ := gap_cells HRES.out
    obtain ⟨f0, f1, f2, f3, f4, f5, f6⟩ := gap_frozen HRES.out
    have hs8 : w2.heap.size ≤ w8.heap.size := Nat.le_trans (Nat.le_of_lt hs7) hg8.size
    clear hown8 hg8
    go_wp2_with fail
    refine bodyPost_ret (v := .tuple #[.agg #[.slice (some ⟨gb, 0, none⟩) m.length cv, .int .i64 n, .int .i64 s, .int .i64 a, .int .i64 a, .int .i64 a, .int .i64 a], .int .i64 (0 : Nat), .bool true]) (by simp [results, Try.results37, go_sem, r0, r1, r2, r3, r4, r5, r6]) rfl ⟨_, by first | (rw [HCE.out]; done) | (rw [HCE.out]; rfl), ?_, by (repeat (first | (with_reducible exact Below.refl _ _) | (with_reducible refine Below.drew ?_) | ((with_reducible refine Below.alloc ?_ ?hB _); case hB => (first | (with_reducible exact Nat.le_refl _) | omega | (simp; done) | (simp; omega))) | ((with_reducible refine Below.setCell ?_ ?hB _); case hB => (first | (with_reducible exact Nat.le_refl _) | omega | (simp; done) | (simp; omega))))); exact HB8.out⟩
    have hfin := own_seven (g := w.heap.size + 1) (v0 := .slice (some ⟨gb, 0, none⟩) m.length cv) (v1 := .int .i64 n) (v2 := .int .i64 s) (v3 := .int .i64 a) (v4 := .int .i64 a) (v5 := .int .i64 a) (v6 := .int .i64 a) HOM.out (.inl (by omega))
    first | (with_reducible exact own_finG hfin (by rw [size_seven]; exact hs8) (by omega)) | (with_reducible exact own_drewG hfin (by rw [size_seven]; exact hs8) (by omega))
  · skip
    have hpi : ¬ (p : Int) < a := by omega
    have hqb : b = q := by have := HQQ.out; have := HHH.out; omega
    have hap : a = p := h1.symm
    clear h1
    subst hap
    subst hqb
    have hbc : b = c := h3.symm
    clear h3
    subst hbc
    obtain rfl : b = l := by omega
    have hba : ¬ b = a := by omega
    have HRR : Hid (R = m.set n (over m[n] (s + a) [])) := Lib.hid (by
      rw [HMV.out]
      rw [if_pos (Nat.le_refl _), Nat.sub_self, List.take_zero, over_nil, over_nil])
    have HYL : Hid (([] : List Int).length = 0) := Lib.hid (rfl)
    have HHN : Hid (0 = Nat.min 0 0) := Lib.hid (by show 0 = min 0 0; have := HQQ.out; have := HHH.out; omega)
    have HFIT := Lib.hid (show (s + a) + ([] : List Int).length ≤ m[n].length by rw [HYL.out]; have := HQQ.out; have := HHH.out; omega)
    have HHS : Hid (0 < ([] : List Int).length → ∃ ad, ((some ⟨g, ov, none⟩) : Option Addr) = some ad ∧ ∀ j v, (intV .u8 ([] : List Int))[j]? = some v → w7.drew.cell? (ad.add j) = some v) := Lib.hid (fun h => absurd h (Nat.lt_irrefl _))
    have hrow7 : Hid (w7.drew.ownsRow w0.heap.size 5 1 (.slice (some ⟨g, 0, none⟩) m[n].length cap) m[n].length (intV .u8 m[n])) := Lib.hid HRO7.out
    go_upto_region 8 with fail
    clear c0 d0 d1 d2 d3 d4 d5 x0 x1 x2 x3 x4 x5 x6
    obtain ⟨⟨c0, d0, d1, d2, d3, d4, d5⟩, x0, x1, x2, x3, x4, x5, x6⟩ := HK7.out
    go_region_held3 (fun W => W.cell? ⟨w.heap.size, 0, none⟩ = some (.slice A m.length cm) ∧ W.cell? ⟨w.heap.size, 1, none⟩ = some (.int .i64 n) ∧ W.cell? ⟨w.heap.size, 2, none⟩ = some (.int .i64 s) ∧ W.cell? ⟨w.heap.size, 3, none⟩ = some (.int .i64 b) ∧ W.cell? ⟨w.heap.size, 4, none⟩ = some (.int .i64 b) ∧ W.cell? ⟨w.heap.size, 5, none⟩ = some (.int .i64 a) ∧ W.cell? ⟨w.heap.size, 6, none⟩ = some (.int .i64 b) ∧ W.cell? ⟨w2.heap.size, 0, none⟩ = some (.slice (some ⟨gb, 0, none⟩) m.length cv) ∧ W.cell? ⟨w2.heap.size, 1, none⟩ = some (.int .i64 n) ∧ W.cell? ⟨w2.heap.size, 2, none⟩ = some (.int .i64 s) ∧ W.cell? ⟨w2.heap.size, 3, none⟩ = some (.int .i64 b) ∧ W.cell? ⟨w2.heap.size, 4, none⟩ = some (.int .i64 b) ∧ W.cell? ⟨w2.heap.size, 5, none⟩ = some (.int .i64 a) ∧ W.cell? ⟨w2.heap.size, 6, none⟩ = some (.int .i64 b))
      (first | (with_reducible exact ⟨c0, d0, d1, d2, d3, d4, d5, x0, x1, x2, x3, x4, x5, x6⟩) | (with_reducible exact ⟨k0, k1, k2, k3, k4, k5, k6, z0, z1, z2, z3, z4, z5, z6⟩))
      (first | (refine step_copy_row0 (by rfl) _ _ 46 46 (by rfl) Try.underlying46 hszu (some ⟨g, ov + a, none⟩) (some ⟨g, ov, none⟩) 0 (b - a) 0 0 (by rfl) (by rfl) g w0.heap.size cap m[n] hrow7.out (s + a) [] 0 HYL.out HHN.out (fun h => absurd h (Nat.lt_irrefl _)) HFIT.out HHS.out ?_; intro w8 hown8 hg8; obtain ⟨⟨k0, k1, k2, k3, k4, k5, k6⟩, z0, z1, z2, z3, z4, z5, z6⟩ := HLB.out w8 (grown_block hg8 (block_drew HG7.out.par) (by omega)) (grown_block hg8 (block_drew HX7.out) (by omega)); have HRES := Lib.hid (grown_block hg8 (block_drew HG7.out.res) (by omega))))
    have HOM : Hid (OwnM w8 w0.heap.size w2.heap.size (.slice (some ⟨gb, 0, none⟩) m.length cv) R) := Lib.hid (by
      rw [HRR.out]
      exact HSE.out w8 _ (over_len HFIT.out) hown8 ((grown_of_below HB27.out.drew (some g)).trans hg8))
    have hB7 := HB2.out.trans (HB27.out.mono HB2.out.size)
    have HB8 := Lib.hid (grown_below hB7.drew hB7.size hg8 (by have := hB7.size; omega))
    clear hB7
    have HCE := Lib.hid (show C = 0 by have h := HCC.out; rw [moveC, if_pos (by omega)] at h; omega)
    obtain ⟨r0, r1, r2, r3, r4, r5, r6⟩ := gap_cells HRES.out
    obtain ⟨f0, f1, f2, f3, f4, f5, f6⟩ := gap_frozen HRES.out
    have hs8 : w2.heap.size ≤ w8.heap.size := Nat.le_trans (Nat.le_of_lt hs7) hg8.size
    clear hown8 hg8
    go_wp2_with fail
    refine bodyPost_ret (v := .tuple #[.agg #[.slice (some ⟨gb, 0, none⟩) m.length cv, .int .i64 n, .int .i64 s, .int .i64 b, .int .i64 b, .int .i64 a, .int .i64 b], .int .i64 (0 : Nat), .bool true]) (by simp [results, Try.results37, go_sem, r0, r1, r2, r3, r4, r5, r6]) rfl ⟨_, by first | (rw [HCE.out]; done) | (rw [HCE.out]; rfl), ?_, by (repeat (first | (with_reducible exact Below.refl _ _) | (with_reducible refine Below.drew ?_) | ((with_reducible refine Below.alloc ?_ ?hB _); case hB => (first | (with_reducible exact Nat.le_refl _) | omega | (simp; done) | (simp; omega))) | ((with_reducible refine Below.setCell ?_ ?hB _); case hB => (first | (with_reducible exact Nat.le_refl _) | omega | (simp; done) | (simp; omega))))); exact HB8.out⟩
    have hfin := own_seven (g := w.heap.size + 1) (v0 := .slice (some ⟨gb, 0, none⟩) m.length cv) (v1 := .int .i64 n) (v2 := .int .i64 s) (v3 := .int .i64 b) (v4 := .int .i64 b) (v5 := .int .i64 a) (v6 := .int .i64 b) HOM.out (.inl (by omega))
    first | (with_reducible exact own_finG hfin (by rw [size_seven]; exact hs8) (by omega)) | (with_reducible exact own_drewG hfin (by rw [size_seven]; exact hs8) (by omega))
  · skip
    have hpi : ¬ (p : Int) < a := by omega
    have hqb : b = q := by have := HQQ.out; have := HHH.out; omega
    have hap : a = p := h1.symm
    clear h1
    subst hap
    subst hqb
    have hca : ¬ c = a := by omega
    have hcb : ¬ c = b := by omega
    have HRR : Hid (R = m.set n (over m[n] (s + a) [])) := Lib.hid (by
      rw [HMV.out]
      rw [if_pos (Nat.le_refl _), Nat.sub_self, List.take_zero, over_nil, over_nil])
    have HYL : Hid (([] : List Int).length = 0) := Lib.hid (rfl)
    have HHN : Hid (0 = Nat.min 0 0) := Lib.hid (by show 0 = min 0 0; have := HQQ.out; have := HHH.out; omega)
    have HFIT := Lib.hid (show (s + a) + ([] : List Int).length ≤ m[n].length by rw [HYL.out]; have := HQQ.out; have := HHH.out; omega)
    have HHS : Hid (0 < ([] : List Int).length → ∃ ad, ((some ⟨g, ov + b, none⟩) : Option Addr) = some ad ∧ ∀ j v, (intV .u8 ([] : List Int))[j]? = some v → w7.drew.cell? (ad.add j) = some v) := Lib.hid (fun h => absurd h (Nat.lt_irrefl _))
    have hrow7 : Hid (w7.drew.ownsRow w0.heap.size 5 1 (.slice (some ⟨g, 0, none⟩) m[n].length cap) m[n].length (intV .u8 m[n])) := Lib.hid HRO7.out
    go_upto_region 8 with fail
    clear c0 d0 d1 d2 d3 d4 d5 x0 x1 x2 x3 x4 x5 x6
    obtain ⟨⟨c0, d0, d1, d2, d3, d4, d5⟩, x0, x1, x2, x3, x4, x5, x6⟩ := HK7.out
    go_region_held3 (fun W => W.cell? ⟨w.heap.size, 0, none⟩ = some (.slice A m.length cm) ∧ W.cell? ⟨w.heap.size, 1, none⟩ = some (.int .i64 n) ∧ W.cell? ⟨w.heap.size, 2, none⟩ = some (.int .i64 s) ∧ W.cell? ⟨w.heap.size, 3, none⟩ = some (.int .i64 l) ∧ W.cell? ⟨w.heap.size, 4, none⟩ = some (.int .i64 c) ∧ W.cell? ⟨w.heap.size, 5, none⟩ = some (.int .i64 a) ∧ W.cell? ⟨w.heap.size, 6, none⟩ = some (.int .i64 b) ∧ W.cell? ⟨w2.heap.size, 0, none⟩ = some (.slice (some ⟨gb, 0, none⟩) m.length cv) ∧ W.cell? ⟨w2.heap.size, 1, none⟩ = some (.int .i64 n) ∧ W.cell? ⟨w2.heap.size, 2, none⟩ = some (.int .i64 s) ∧ W.cell? ⟨w2.heap.size, 3, none⟩ = some (.int .i64 l) ∧ W.cell? ⟨w2.heap.size, 4, none⟩ = some (.int .i64 c) ∧ W.cell? ⟨w2.heap.size, 5, none⟩ = some (.int .i64 a) ∧ W.cell? ⟨w2.heap.size, 6, none⟩ = some (.int .i64 b))
      (first | (with_reducible exact ⟨c0, d0, d1, d2, d3, d4, d5, x0, x1, x2, x3, x4, x5, x6⟩) | (with_reducible exact ⟨k0, k1, k2, k3, k4, k5, k6, z0, z1, z2, z3, z4, z5, z6⟩))
      (first | (refine step_copy_row0 (by rfl) _ _ 46 46 (by rfl) Try.underlying46 hszu (some ⟨g, ov + a, none⟩) (some ⟨g, ov + b, none⟩) 0 (c - a) 0 (c - b) (by rfl) (by rfl) g w0.heap.size cap m[n] hrow7.out (s + a) [] 0 HYL.out HHN.out (fun h => absurd h (Nat.lt_irrefl _)) HFIT.out HHS.out ?_; intro w8 hown8 hg8; obtain ⟨⟨k0, k1, k2, k3, k4, k5, k6⟩, z0, z1, z2, z3, z4, z5, z6⟩ := HLB.out w8 (grown_block hg8 (block_drew HG7.out.par) (by omega)) (grown_block hg8 (block_drew HX7.out) (by omega)); have HRES := Lib.hid (grown_block hg8 (block_drew HG7.out.res) (by omega))))
    have HOM : Hid (OwnM w8 w0.heap.size w2.heap.size (.slice (some ⟨gb, 0, none⟩) m.length cv) R) := Lib.hid (by
      rw [HRR.out]
      exact HSE.out w8 _ (over_len HFIT.out) hown8 ((grown_of_below HB27.out.drew (some g)).trans hg8))
    have hB7 := HB2.out.trans (HB27.out.mono HB2.out.size)
    have HB8 := Lib.hid (grown_below hB7.drew hB7.size hg8 (by have := hB7.size; omega))
    clear hB7
    have HCE := Lib.hid (show C = 0 by have h := HCC.out; rw [moveC, if_pos (by omega)] at h; omega)
    obtain ⟨r0, r1, r2, r3, r4, r5, r6⟩ := gap_cells HRES.out
    obtain ⟨f0, f1, f2, f3, f4, f5, f6⟩ := gap_frozen HRES.out
    have hs8 : w2.heap.size ≤ w8.heap.size := Nat.le_trans (Nat.le_of_lt hs7) hg8.size
    clear hown8 hg8
    go_wp2_with fail
    refine bodyPost_ret (v := .tuple #[.agg #[.slice (some ⟨gb, 0, none⟩) m.length cv, .int .i64 n, .int .i64 s, .int .i64 l, .int .i64 c, .int .i64 a, .int .i64 b], .int .i64 (0 : Nat), .bool true]) (by simp [results, Try.results37, go_sem, r0, r1, r2, r3, r4, r5, r6]) rfl ⟨_, by first | (rw [HCE.out]; done) | (rw [HCE.out]; rfl), ?_, by (repeat (first | (with_reducible exact Below.refl _ _) | (with_reducible refine Below.drew ?_) | ((with_reducible refine Below.alloc ?_ ?hB _); case hB => (first | (with_reducible exact Nat.le_refl _) | omega | (simp; done) | (simp; omega))) | ((with_reducible refine Below.setCell ?_ ?hB _); case hB => (first | (with_reducible exact Nat.le_refl _) | omega | (simp; done) | (simp; omega))))); exact HB8.out⟩
    have hfin := own_seven (g := w.heap.size + 1) (v0 := .slice (some ⟨gb, 0, none⟩) m.length cv) (v1 := .int .i64 n) (v2 := .int .i64 s) (v3 := .int .i64 l) (v4 := .int .i64 c) (v5 := .int .i64 a) (v6 := .int .i64 b) HOM.out (.inl (by omega))
    first | (with_reducible exact own_finG hfin (by rw [size_seven]; exact hs8) (by omega)) | (with_reducible exact own_drewG hfin (by rw [size_seven]; exact hs8) (by omega))
end Go.Proofs.Ytkclpppnjfhbpaa
