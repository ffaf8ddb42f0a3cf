/-
  AppendBytes of impl.
-/
import Derived.Test.YtoelagfcapdfpaaRoom
namespace Go.Proofs.Ytoelagfcapdfpaa
open Go.RowKit

theorem over_zeros (xs ys : List Int) (C l : Nat) (hl : xs.length = l) (h : l + ys.length ≤ C) : over (xs ++ List.replicate (C - l) 0) l ys = xs ++ ys ++ List.replicate (C - (l + ys.length)) 0 := by
  subst hl
  unfold over
  rw [List.take_append_of_le_length (Nat.le_refl _), List.take_length, List.drop_append, List.drop_eq_nil_of_le (by omega), List.nil_append, List.drop_replicate]
  congr 2
  omega
/-- The room that is made fits what is appended. -/
theorem room_app {m : List (List Int)} {n s l c : Nat} {xs : List Int} (hok : MemOK m) (hn : n < m.length) (hlc : l ≤ c) (hsc : s + c ≤ m[n].length) :
    (roomR m n s l c (l + xs.length) = ([], ⟨0, 0, 0, 0⟩, false) ∧ appR m n s l c xs = ([], ⟨0, 0, 0, 0⟩, false)) ∨
    ∃ (M' : List (List Int)) (n' s' c' : Nat), ∃ hn' : n' < M'.length, roomR m n s l c (l + xs.length) = (M', ⟨n', s', l, c'⟩, true) ∧ l + xs.length ≤ c' ∧ s' + c' ≤ M'[n'].length ∧ 1 ≤ M'[n'].length ∧ M'[n'].length ≤ 64 ∧ M'.length ≤ 16 ∧
      appR m n s l c xs = (M'.set n' (over M'[n'] (s' + l) xs), ⟨n', s', (l : Int) + xs.length, c'⟩, true) := by
  have hr := hok.2 m[n] (List.getElem_mem hn)
  by_cases hroom : l + xs.length ≤ c
  · right
    refine ⟨m, n, s, c, hn, by rw [roomR, if_pos hroom], hroom, hsc, hr.1, hr.2, hok.1, ?_⟩
    rw [appR, if_pos hroom, getD_eq hn]
  · by_cases hbad : 64 < l + xs.length ∨ m.length = 16
    · left
      exact ⟨by rw [roomR, if_neg hroom, if_pos hbad], by rw [appR, if_neg hroom, if_pos hbad]⟩
    · right
      have hwl : (wb m n s l).length = l := wb_len hn (by omega)
      have hC : max (l + xs.length) (min (2 * c) 64) = min (max (2 * c) (l + xs.length)) 64 := by omega
      obtain ⟨C, hCe⟩ : ∃ C, min (max (2 * c) (l + xs.length)) 64 = C := ⟨_, rfl⟩
      have hC1 : l + xs.length ≤ C := by omega
      have hC2 : C ≤ 64 := by omega
      have hl1 : (wb m n s l ++ List.replicate (C - l) (0 : Int)).length = C := by simp [hwl]; omega
      have hg : (m ++ [wb m n s l ++ List.replicate (C - l) (0 : Int)])[m.length]'(by simp) = wb m n s l ++ List.replicate (C - l) 0 := by simp
      refine ⟨m ++ [wb m n s l ++ List.replicate (C - l) 0], m.length, 0, C, by simp, by rw [roomR, if_neg hroom, if_neg hbad, hC, hCe]; rfl, hC1, by rw [hg, hl1]; omega, by rw [hg, hl1]; omega, by rw [hg, hl1]; exact hC2, by have := hok.1; simp; omega, ?_⟩
      rw [appR, if_neg hroom, if_neg hbad, hCe, hg, List.set_append_right _ _ (Nat.le_refl _), Nat.sub_self, Nat.zero_add, over_zeros _ _ _ _ hwl hC1]
      rfl

/-- What AppendBytes answers. -/
def appendR (m : List (List Int)) (x : Win) (xs : List Int) : List (List Int) × Win × Bool :=
  if WinOK m x then appR m x.arr.toNat x.start.toNat x.len.toNat x.cap.toNat xs else ([], ⟨0, 0, 0, 0⟩, false)
theorem appendR_small (m : List (List Int)) (x : Win) (xs : List Int) : Small (appendR m x xs).1 := by
  unfold appendR
  split
  · rename_i h
    obtain ⟨n, s, l, c, rfl, hnl, hlc, hsc, h1, h64, h16⟩ := h.nat
    simp only [Int.toNat_natCast]
    exact appR_small h.1 hnl hlc hsc
  · exact ⟨by simp, fun r hr => by simp at hr⟩

set_option maxRecDepth 100000 in
set_option maxHeartbeats 6400000 in
theorem implAppendBytes_calls (A : Option Addr) (cm : Nat) (m : List (List Int)) (x : Win) (LA : Option Addr) (lc : Nat) (xs : List Int) (w : World) (hr : Rd2 w w.heap.size A m) (hn : m.length ≤ maxLen) (hx : WArg x) (hxs : xs.length ≤ 2097152) (hlr : Rd w w.heap.size LA (intV .u8 xs)) :
    Calls Try.prog 101 #[.agg #[.slice A m.length cm], .agg #[.int .i64 x.arr, .int .i64 x.start, .int .i64 x.len, .int .i64 x.cap], .slice LA xs.length lc] w fun e w' => ∃ v, e = .returned (.tuple #[.agg #[v], .agg #[.int .i64 (appendR m x xs).2.1.arr, .int .i64 (appendR m x xs).2.1.start, .int .i64 (appendR m x xs).2.1.len, .int .i64 (appendR m x xs).2.1.cap], .bool (appendR m x xs).2.2]) ∧ OwnM w' w.heap.size w'.heap.size v (appendR m x xs).1 ∧ Below w.heap.size w w' := by
  obtain ⟨w0, hw0, hb0, hz0, hmw⟩ := enterMWMW A m.length cm x.arr x.start x.len x.cap w
  obtain ⟨i0, hi0, hz, hz1, hz2⟩ := info_parts info_u8
  have hszu : (Try.prog.info? 5).map (·.size) = some 1 := by rw [hi0]; simp [hz1]
  have HC := Lib.hid (areOne_calls A cm m x w0 ((hr.below hb0).more hb0.size) hn hx (w.heap.size + 1 + 1 + 1 + 1) (by omega))
  have HB := Lib.hid hb0
  have HR := Lib.hid hr
  have HLR := Lib.hid hlr
  have HW := Lib.hid hw0
  have HMW := Lib.hid hmw
  have hrb := run_win1
  clear hr hb0 hmw hw0 hlr
  go_enter Try.func101, Try.ntmps101
  go_wp2_with fail
  rw [HW.out]
  clear hrb
  refine HC.out.mono ?_
  rintro e w2 ⟨rfl, hb2⟩
  have HB2 := Lib.hid (HB.out.trans (hb2.mono HB.out.size))
  have HMW2 := Lib.hid (HMW.out.below hb2)
  have hs02 := hb2.size
  clear hb2
  by_cases hm : WinOK m x
  · rw [show decide (WinOK m x) = true from decide_eq_true hm]
    have HOK := Lib.hid hm.1
    obtain ⟨n, s, l, c, rfl, hnl, hlc, hsc, h1, h64, h16⟩ := hm.nat
    have HVA : Hid (appendR m ⟨n, s, l, c⟩ xs = appR m n s l c xs) := Lib.hid (by rw [appendR, if_pos hm]; simp only [Int.toNat_natCast])
    have HRF := Lib.hid (roomFor_calls A cm m n s l c (l + xs.length) w2 ((HR.out.below HB2.out).more HB2.out.size) hm.1 hnl hlc hsc (by omega) (by omega))
    clear hm
    dsimp only at *
    have c1 := one_cell HMW2.out.mw.mem
    obtain ⟨d0, d1, d2, d3⟩ := four_cells HMW2.out.mw.win
    have hcn : ((l + xs.length : Nat) : Int) = (l : Int) + xs.length := by omega
    rw [hcn] at HRF
    clear hcn
    have i1 : (0 : Int) ≤ l := by omega
    have i2 : (l : Int) ≤ 64 := by omega
    have i3 : (0 : Int) ≤ xs.length := by omega
    have i4 : (xs.length : Int) ≤ 2097152 := by omega
    rcases room_app (xs := xs) HOK.out hnl hlc hsc with ⟨hro, hap⟩ | ⟨M', n', s', c', hn', hro, hk1, hk2, hk3, hk4, hk5, hap⟩
    · have HV : Hid (appendR m ⟨n, s, l, c⟩ xs = ([], ⟨0, 0, 0, 0⟩, false)) := Lib.hid (by rw [HVA.out, hap])
      rw [hro] at HRF
      clear hro hap
      go_wp2_with fail
      refine HRF.out.mono ?_
      rintro e w3 ⟨v, rfl, ho, hb3⟩
      obtain ⟨Av, cv, rfl, hcv⟩ := ho.form
      rw [List.length_nil]
      obtain ⟨w4, hw4⟩ : ∃ w4, (w3.alloc (.cells #[.slice Av 0 cv] 31)).alloc (.cells #[.int .i64 0, .int .i64 0, .int .i64 0, .int .i64 0] 33) = w4 := ⟨_, rfl⟩
      have hb4 : Below w3.heap.size w3 w4 := by rw [← hw4]; exact ((Below.refl _ _).alloc (Nat.le_refl _) _).alloc (by simp) _
      have HB4 := Lib.hid ((HB2.out.trans (hb3.mono HB2.out.size)).trans (hb4.mono (Nat.le_trans HB2.out.size hb3.size)))
      have HMW4 := Lib.hid ((HMW2.out.below hb3).below hb4)
      have HW4 := Lib.hid hw4
      have r0 := one_cell HMW4.out.resM
      have rf := one_frozen HMW4.out.resM
      obtain ⟨q0, q1, q2, q3⟩ := four_cells HMW4.out.resW
      obtain ⟨f0, f1, f2, f3⟩ := oneM HMW4.out.resW
      clear ho hb3 hb4 hw4 hcv c1 d0 d1 d2 d3
      go_upto_region 5 with fail
      rw [HW4.out]
      go_wp2_with fail
      refine bodyPost_ret (v := .tuple #[.agg #[.slice none 0 0], .agg #[.int .i64 0, .int .i64 0, .int .i64 0, .int .i64 0], .bool false]) (by simp [results, Try.results101, go_sem, r0, q0, q1, q2, q3]) rfl ⟨_, by rw [HV.out], by rw [HV.out]; exact own_none _ _ _, by (repeat (first | (with_reducible exact Below.refl _ _) | (with_reducible refine Below.drew ?_) | ((with_reducible refine Below.alloc ?_ ?hB _); case hB => (first | (with_reducible exact Nat.le_refl _) | omega | (simp; done) | (simp; omega))) | ((with_reducible refine Below.setCell ?_ ?hB _); case hB => (first | (with_reducible exact Nat.le_refl _) | omega | (simp; done) | (simp; omega))))); exact HB4.out⟩
    · have HV : Hid (appendR m ⟨n, s, l, c⟩ xs = (M'.set n' (over M'[n'] (s' + l) xs), ⟨n', s', (l : Int) + xs.length, c'⟩, true)) := Lib.hid (by rw [HVA.out, hap])
      rw [hro] at HRF
      clear hro hap
      go_wp2_with fail
      refine HRF.out.mono ?_
      rintro e w3 ⟨v, rfl, ho, hb3⟩
      obtain ⟨Av, cv, rfl, hcv⟩ := ho.form
      obtain ⟨gb, g, cap, rfl, hgb, hg1, hg2, hg3, hg4, hrow, hcap1, hcap2, hcells, hfr, hro, hset⟩ := ho.row_at hn' hk3
      obtain ⟨w4, hw4⟩ : ∃ w4, (w3.alloc (.cells #[.slice (some ⟨gb, 0, none⟩) M'.length cv] 31)).alloc (.cells #[.int .i64 n', .int .i64 s', .int .i64 ((l : Int) + xs.length), .int .i64 c'] 33) = w4 := ⟨_, rfl⟩
      obtain ⟨w4a, hw4a⟩ : ∃ w4a, (w3.alloc (.cells #[.slice (some ⟨gb, 0, none⟩) M'.length cv] 31)).alloc (.cells #[.int .i64 n', .int .i64 s', .int .i64 l, .int .i64 c'] 33) = w4a := ⟨_, rfl⟩
      have hb4a : Below w3.heap.size w3 w4a := by rw [← hw4a]; exact ((Below.refl _ _).alloc (Nat.le_refl _) _).alloc (by simp) _
      have hx1 : w4a.heap[w3.heap.size]? = some (.cells #[.slice (some ⟨gb, 0, none⟩) M'.length cv] 31) := by rw [← hw4a]; exact alloc_old _ (heap_alloc_new _ _)
      have hx2 : w4a.heap[w3.heap.size + 1]? = some (.cells #[.int .i64 n', .int .i64 s', .int .i64 l, .int .i64 c'] 33) := by rw [← hw4a]; exact heap_alloc_at (by simp)
      have HW4a := Lib.hid hw4a
      have g0 := one_cell hx1
      obtain ⟨t0, t1, t2, t3⟩ := four_cells hx2
      obtain ⟨tf0, tf1, tf2, tf3⟩ := oneM hx2
      clear c1 d0 d1 d2 d3 hw4a
      go_upto_region 5 with fail
      rw [HW4a.out]
      go_upto_region 8 with fail
      obtain ⟨w5, hw5⟩ : ∃ w5, w4a.setCell ⟨w3.heap.size + 1, 2, none⟩ (.int .i64 ((l : Int) + xs.length)) = w5 := ⟨_, rfl⟩
      rw [hw5]
      have hs3 := hb3.size
      have hsa : w4a.heap.size = w3.heap.size + 2 := by rw [← HW4a.out]; simp
      have hs5 : w5.heap.size = w3.heap.size + 2 := by rw [← hw5, World.size_setCell, hsa]
      have hb5 : Below w3.heap.size w3 w5 := by rw [← hw5]; exact hb4a.setCell (by simp) _
      have hy1 : w5.heap[w3.heap.size]? = some (.cells #[.slice (some ⟨gb, 0, none⟩) M'.length cv] 31) := by rw [← hw5]; exact keep_set hx1 (by omega)
      have hy2 : w5.heap[w3.heap.size + 1]? = some (.cells #[.int .i64 n', .int .i64 s', .int .i64 ((l : Int) + xs.length), .int .i64 c'] 33) := by
        rw [← hw5]
        have h := heap_set_same w4a (w3.heap.size + 1) 2 _ _ (.int .i64 ((l : Int) + xs.length)) hx2 (by simp)
        simpa using h
      have HB35 := Lib.hid hb5
      have HB25 := Lib.hid (hb3.trans (hb5.mono hb3.size))
      have HB5 := Lib.hid (HB2.out.trans ((hb3.trans (hb5.mono hb3.size)).mono HB2.out.size))
      have HMW5 := Lib.hid ((HMW2.out.below hb3).below hb5)
      have HRO5 := Lib.hid (own_below hro hb5)
      have HSE := Lib.hid hset
      have HROW := Lib.hid ((hb5.cell (p := ⟨gb, n', none⟩) hg3).trans hrow)
      have HY1 := Lib.hid hy1
      have HY2 := Lib.hid hy2
      have HS5 := Lib.hid hs5
      have HC5 : Hid (∀ W, Below w5.heap.size w5 W → W.cell? ⟨w3.heap.size, 0, none⟩ = some (.slice (some ⟨gb, 0, none⟩) M'.length cv) ∧ W.cell? ⟨w3.heap.size + 1, 0, none⟩ = some (.int .i64 n') ∧ W.cell? ⟨w3.heap.size + 1, 1, none⟩ = some (.int .i64 s') ∧ W.cell? ⟨w3.heap.size + 1, 2, none⟩ = some (.int .i64 ((l : Int) + xs.length)) ∧ W.cell? ⟨w3.heap.size + 1, 3, none⟩ = some (.int .i64 c') ∧ W.cell? ⟨w.heap.size + 1, 2, none⟩ = some (.int .i64 l)) := Lib.hid fun W hb => by
        obtain ⟨y0, y1, y2, y3⟩ := four_cells ((hb.block _ (by have := HS5.out; omega)).trans HY2.out)
        exact ⟨one_cell ((hb.block _ (by have := HS5.out; omega)).trans HY1.out), y0, y1, y2, y3, (four_cells (HMW5.out.below hb).mw.win).2.2.1⟩
      have HS1 : Hid (∀ W, Below w5.heap.size w5 W → Calls Try.prog 74 #[.agg #[.slice (some ⟨gb, 0, none⟩) M'.length cv], .agg #[.int .i64 n', .int .i64 s', .int .i64 ((l : Int) + xs.length), .int .i64 c']] W fun e w' => (∃ o, e = .returned (.slice (some ⟨g, o, none⟩) (l + xs.length) c') ∧ (0 < c' → o = s')) ∧ Below W.heap.size W w') := Lib.hid fun W hb => by
        have h := seen_calls gb 0 cv M' n' s' (l + xs.length) c' g 0 cap W hn' hk5 hk1 hk2 hk4 hcap1 hcap2 (by rw [Nat.zero_add]; exact (hb.cell (p := ⟨gb, n', none⟩) (show gb < w5.heap.size by omega)).trans HROW.out) (by have := hb.size; omega)
        rw [show ((l + xs.length : Nat) : Int) = (l : Int) + xs.length by omega] at h
        refine h.mono ?_
        rintro e w' ⟨⟨o, rfl, ho⟩, hbw⟩
        exact ⟨⟨o, rfl, fun h0 => by rw [ho h0, Nat.zero_add]⟩, hbw⟩
      have hc0 := (Below.refl w5.heap.size w5).drew
      obtain ⟨a0, a1, a2, a3, a4, a5⟩ := HC5.out w5.drew hc0
      have j1 : (l : Int) ≤ (l : Int) + xs.length := by omega
      have j2 : (l : Int) + xs.length ≤ c' := by omega
      have j3 : (c' : Int) ≤ 64 := by omega
      clear hx1 hx2 hy1 hy2 hb4a hb5 hb3 hw5 hs5 hsa ho hcells hfr hro hset hrow g0 t0 t1 t2 t3 tf0 tf1 tf2 tf3
      go_region_held3 (fun W => W.cell? ⟨w3.heap.size, 0, none⟩ = some (.slice (some ⟨gb, 0, none⟩) M'.length cv) ∧ W.cell? ⟨w3.heap.size + 1, 0, none⟩ = some (.int .i64 n') ∧ W.cell? ⟨w3.heap.size + 1, 1, none⟩ = some (.int .i64 s') ∧ W.cell? ⟨w3.heap.size + 1, 2, none⟩ = some (.int .i64 ((l : Int) + xs.length)) ∧ W.cell? ⟨w3.heap.size + 1, 3, none⟩ = some (.int .i64 c') ∧ W.cell? ⟨w.heap.size + 1, 2, none⟩ = some (.int .i64 l))
        (first | (with_reducible exact ⟨a0, a1, a2, a3, a4, a5⟩) | (with_reducible exact HC5.out _ hc6) | (have h6 := HC5.out w6 hc6; exact ⟨grown_cell hg7 h6.1 (by simp; omega), grown_cell hg7 h6.2.1 (by simp; omega), grown_cell hg7 h6.2.2.1 (by simp; omega), grown_cell hg7 h6.2.2.2.1 (by simp; omega), grown_cell hg7 h6.2.2.2.2.1 (by simp; omega), grown_cell hg7 h6.2.2.2.2.2 (by simp; omega)⟩))
        (first | (go_at_call 74; refine (HS1.out _ hc0).mono ?_; rintro e w6 ⟨⟨o, rfl, hoo⟩, hb6⟩; have hc6 := hc0.trans hb6; have HRO6 := Lib.hid (own_below HRO5.out hc6); have HSRC := Lib.hid (rd_src (HLR.out.below (HB5.out.trans (hc6.mono HB5.out.size))))) | (refine step_copy_rowm (by rfl) _ _ 64 64 (by rfl) Try.underlying64 hszu _ LA xs.length (c' - l) xs.length lc (by rfl) (by rfl) g w2.heap.size cap M'[n'] HRO6.out hk3 (s' + l) xs xs.length rfl (by simp) (fun h0 => by have hoo2 := hoo (by omega); subst hoo2; first | rfl | (rw [if_neg (by omega)]) | (simp; omega)) (by omega) HSRC.out ?_; intro w7 hown7 hg7))
      all_goals (
        have hh6 := HC5.out w6 hc6
        have x6 := grown_cell hg7 hh6.1 (by simp; omega)
        have y0 := grown_cell hg7 hh6.2.1 (by simp; omega)
        have y1 := grown_cell hg7 hh6.2.2.1 (by simp; omega)
        have y2 := grown_cell hg7 hh6.2.2.2.1 (by simp; omega)
        have y3 := grown_cell hg7 hh6.2.2.2.2.1 (by simp; omega)
        have hG := ((grown_of_below HB35.out (some g)).trans (grown_of_below hc6 (some g))).trans hg7
        have hs6 := hc6.size
        have hz7 := hg7.size
        have hO := HSE.out w7 (over M'[n'] (s' + l) xs) (over_len (by omega)) hown7 hG
        have hs5 := HS5.out
        have HOM := Lib.hid (show OwnM w7 w2.heap.size w7.heap.size (.slice (some ⟨gb, 0, none⟩) M'.length cv) (M'.set n' (over M'[n'] (s' + l) xs)) from hO.mono (Nat.le_refl _) (by omega))
        have hB := (HB5.out.trans (hc6.mono HB5.out.size)).grown hg7 (by have := HB5.out.size; omega) (fun q e => by injection e with e; have := HB2.out.size; omega)
        have HB7 := Lib.hid hB
        have hmw6 := HMW5.out.below hc6
        have hrM := grown_block hg7 hmw6.resM (by omega)
        have hrW := grown_block hg7 hmw6.resW (by omega)
        have r0 := one_cell hrM
        have rf := one_frozen hrM
        obtain ⟨q0, q1, q2, q3⟩ := four_cells hrW
        obtain ⟨f0, f1, f2, f3⟩ := oneM hrW
        have x6d : w7.drew.cell? ⟨w3.heap.size, 0, none⟩ = some (.slice (some ⟨gb, 0, none⟩) M'.length cv) := x6
        have y0d : w7.drew.cell? ⟨w3.heap.size + 1, 0, none⟩ = some (.int .i64 n') := y0
        have y1d : w7.drew.cell? ⟨w3.heap.size + 1, 1, none⟩ = some (.int .i64 s') := y1
        have y2d : w7.drew.cell? ⟨w3.heap.size + 1, 2, none⟩ = some (.int .i64 ((l : Int) + xs.length)) := y2
        have y3d : w7.drew.cell? ⟨w3.heap.size + 1, 3, none⟩ = some (.int .i64 c') := y3
        have HS5b := Lib.hid hs5
        clear hown7 hg7 hG hO hB hmw6 hrM hrW hh6 hc6 hb6 hs5 hs6 hz7 HSRC HRO6
        go_wp2_with fail
        all_goals (
          go_region_held3 (fun W => W.cell? ⟨w3.heap.size, 0, none⟩ = some (.slice (some ⟨gb, 0, none⟩) M'.length cv) ∧ W.cell? ⟨w3.heap.size + 1, 0, none⟩ = some (.int .i64 n') ∧ W.cell? ⟨w3.heap.size + 1, 1, none⟩ = some (.int .i64 s') ∧ W.cell? ⟨w3.heap.size + 1, 2, none⟩ = some (.int .i64 ((l : Int) + xs.length)) ∧ W.cell? ⟨w3.heap.size + 1, 3, none⟩ = some (.int .i64 c'))
            (first | (with_reducible exact ⟨x6d, y0d, y1d, y2d, y3d⟩) | (with_reducible exact ⟨kd1 x6 (by omega), kd1 y0 (by omega), kd1 y1 (by omega), kd1 y2 (by omega), kd1 y3 (by omega)⟩) | (with_reducible exact ⟨kd5 x6 (by omega) (by omega), kd5 y0 (by omega) (by omega), kd5 y1 (by omega) (by omega), kd5 y2 (by omega) (by omega), kd5 y3 (by omega) (by omega)⟩) | (with_reducible exact ⟨kd4 x6 (by omega), kd4 y0 (by omega), kd4 y1 (by omega), kd4 y2 (by omega), kd4 y3 (by omega)⟩)) (fail)
          go_wp2_with fail
          refine bodyPost_ret (v := .tuple #[.agg #[.slice (some ⟨gb, 0, none⟩) M'.length cv], .agg #[.int .i64 n', .int .i64 s', .int .i64 ((l : Int) + xs.length), .int .i64 c'], .bool true]) (by first | (simp [results, Try.results101, go_sem, r0, q0, q1, q2, q3]; done) | (simp [results, Try.results101, go_sem, r0, q0, q1, q2, q3]; omega)) rfl ⟨_, by rw [HV.out], ?_, by (repeat (first | (with_reducible exact Below.refl _ _) | (with_reducible refine Below.drew ?_) | ((with_reducible refine Below.alloc ?_ ?hB _); case hB => (first | (with_reducible exact Nat.le_refl _) | omega | (simp; done) | (simp; omega))) | ((with_reducible refine Below.setCell ?_ ?hB _); case hB => (first | (with_reducible exact Nat.le_refl _) | omega | (simp; done) | (simp; omega))))); exact HB7.out⟩
          rw [HV.out]
          with_reducible exact own_fin5 HOM.out (by omega) (by omega) (by omega)))
  · rw [show decide (WinOK m x) = false from decide_eq_false hm]
    have HV : Hid (appendR m x xs = ([], ⟨0, 0, 0, 0⟩, false)) := Lib.hid (by rw [appendR, if_neg hm])
    have r0 := one_cell HMW2.out.resM
    have rf := one_frozen HMW2.out.resM
    obtain ⟨q0, q1, q2, q3⟩ := four_cells HMW2.out.resW
    obtain ⟨f0, f1, f2, f3⟩ := oneM HMW2.out.resW
    clear hm
    go_wp2_with fail
    refine bodyPost_ret (v := .tuple #[.agg #[.slice none 0 0], .agg #[.int .i64 0, .int .i64 0, .int .i64 0, .int .i64 0], .bool false]) (by simp [results, Try.results101, go_sem, r0, q0, q1, q2, q3]) rfl ⟨_, by rw [HV.out], by rw [HV.out]; exact own_none _ _ _, by (repeat (first | (with_reducible exact Below.refl _ _) | (with_reducible refine Below.drew ?_) | ((with_reducible refine Below.alloc ?_ ?hB _); case hB => (first | (with_reducible exact Nat.le_refl _) | omega | (simp; done) | (simp; omega))) | ((with_reducible refine Below.setCell ?_ ?hB _); case hB => (first | (with_reducible exact Nat.le_refl _) | omega | (simp; done) | (simp; omega))))); exact HB2.out⟩
end Go.Proofs.Ytoelagfcapdfpaa
