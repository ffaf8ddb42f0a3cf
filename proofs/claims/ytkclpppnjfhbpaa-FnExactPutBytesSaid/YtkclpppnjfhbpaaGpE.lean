/-
  The hole widened: WidenGap of spec and impl.
-/
import Derived.Test.YtkclpppnjfhbpaaGpD
import Derived.Test.YtkclpppnjfhbpaaGpP
import Derived.Test.YtkclpppnjfhbpaaAppI
import Derived.Test.YtkclpppnjfhbpaaGpI
namespace Go.Proofs.Ytkclpppnjfhbpaa
open Go.RowKit

theorem widenGapR_small (m : List (List Int)) (g : Gp) (k : Int) : Small (widenGapR m g k).1 := by
  unfold widenGapR
  split
  · rename_i h
    obtain ⟨hok, hk⟩ := h
    by_cases h64 : k.toNat ≤ 64
    · obtain ⟨n, s, l, c, a, b, hn, rfl, _⟩ := hok.nat
      rcases widen_cases (a := a) (b := b) k.toNat hok h64 with ⟨_, hv⟩ | ⟨M, n', s', c', L, q, R, hw⟩
      · rw [hv]; exact small_nil
      · rw [hw.val]; exact small_of hw.good.1.1
    · rw [widenW, if_neg (fun h => h64 h.2)]; exact small_nil
  · exact small_nil

set_option maxRecDepth 100000 in
set_option maxHeartbeats 1600000 in
theorem specWidenGap_calls (A : Option Addr) (cm : Nat) (m : List (List Int)) (g : Gp) (k : Int) (w : World) (hr : Rd2 w w.heap.size A m) (hn : m.length ≤ maxLen) :
    Calls Try.prog 38 #[.agg #[.slice A m.length cm, .int .i64 g.w.arr, .int .i64 g.w.start, .int .i64 g.w.len, .int .i64 g.w.cap, .int .i64 g.fr, .int .i64 g.up], .int .i64 k] w fun e w' => ∃ v, e = .returned (.tuple #[.agg #[v, .int .i64 (widenGapR m g k).2.1.w.arr, .int .i64 (widenGapR m g k).2.1.w.start, .int .i64 (widenGapR m g k).2.1.w.len, .int .i64 (widenGapR m g k).2.1.w.cap, .int .i64 (widenGapR m g k).2.1.fr, .int .i64 (widenGapR m g k).2.1.up], .bool (widenGapR m g k).2.2]) ∧ OwnM w' w.heap.size w'.heap.size v (widenGapR m g k).1 ∧ Below w.heap.size w w' := by
  obtain ⟨w0, hw0, hb0, hz0, hgg⟩ := enterGG A m.length cm g w
  have HC := Lib.hid (specGap_calls A cm m g w0 ((hr.below hb0).more hb0.size) hn)
  have HR := Lib.hid hr
  have HB := Lib.hid hb0
  have HW := Lib.hid hw0
  have HGG := Lib.hid hgg
  have hlr0 : w.heap.size + 1 < w0.heap.size := by omega
  obtain ⟨c0, d0, d1, d2, d3, d4, d5⟩ := gap_cells hgg.par
  clear hr hb0 hw0 hgg hz0
  by_cases hall : GpOK m g ∧ 0 ≤ k
  · obtain ⟨hok, hk0⟩ := hall
    obtain ⟨j, rfl⟩ := Int.eq_ofNat_of_zero_le hk0
    rw [decide_eq_true hok] at HC
    have HWD : Hid (∀ W, Below w.heap.size w W → Calls Try.prog 98 #[.agg #[.slice A m.length cm, .int .i64 g.w.arr, .int .i64 g.w.start, .int .i64 g.w.len, .int .i64 g.w.cap, .int .i64 g.fr, .int .i64 g.up], .int .i64 j] W fun e w' => ∃ v, e = .returned (.tuple #[.agg #[v, .int .i64 (widenGapR m g j).2.1.w.arr, .int .i64 (widenGapR m g j).2.1.w.start, .int .i64 (widenGapR m g j).2.1.w.len, .int .i64 (widenGapR m g j).2.1.w.cap, .int .i64 (widenGapR m g j).2.1.fr, .int .i64 (widenGapR m g j).2.1.up], .bool (widenGapR m g j).2.2]) ∧ OwnM w' W.heap.size w'.heap.size v (widenGapR m g j).1 ∧ Below W.heap.size W w') := Lib.hid (fun W hb => by
      rw [widenGapR, if_pos ⟨hok, hk0⟩, Int.toNat_natCast]
      obtain ⟨n, s, l, c, a, b, hnl, rfl, _⟩ := hok.nat
      exact specWiden_calls A cm m n s l c a b j W ((HR.out.below hb).more hb.size) hok)
    generalize widenGapR m g j = R at *
    obtain ⟨M, y, ok⟩ := R
    dsimp only at *
    have hk1 : ¬ (j : Int) < 0 := by omega
    clear hok
    go_enter Try.func38, Try.ntmps38
    go_wp2_with fail
    rw [HW.out]
    refine HC.out.mono ?_
    rintro e w2 ⟨rfl, hb2⟩
    have HB2 := Lib.hid (HB.out.trans (hb2.mono HB.out.size))
    have HG2 := Lib.hid (HGG.out.below hb2)
    have hs2 := hb2.size
    clear hb2 c0 d0 d1 d2 d3 d4 d5
    obtain ⟨c0, d0, d1, d2, d3, d4, d5⟩ := gap_cells HG2.out.par
    go_wp2_with fail
    refine (HWD.out w2 HB2.out).mono ?_
    rintro e w4 ⟨v, rfl, hv, hb4⟩
    obtain ⟨Av, cv, rfl, hcv⟩ := hv.form
    have HB4 := Lib.hid (HB2.out.trans (hb4.mono HB2.out.size))
    have HG4 := Lib.hid (HG2.out.below hb4)
    have HO := Lib.hid hv
    clear hb4 hv c0 d0 d1 d2 d3 d4 d5
    obtain ⟨r0, r1, r2, r3, r4, r5, r6⟩ := gap_cells HG4.out.res
    obtain ⟨f0, f1, f2, f3, f4, f5, f6⟩ := gap_frozen HG4.out.res
    go_wp2_with fail
    refine bodyPost_ret (v := .tuple #[.agg #[.slice Av M.length cv, .int .i64 y.w.arr, .int .i64 y.w.start, .int .i64 y.w.len, .int .i64 y.w.cap, .int .i64 y.fr, .int .i64 y.up], .bool ok]) (by simp [results, Try.results38, go_sem, r0, r1, r2, r3, r4, r5, r6]) rfl ⟨_, rfl, ?_, by (repeat (first | (with_reducible exact Below.refl _ _) | (with_reducible refine Below.drew ?_) | ((with_reducible refine Below.alloc ?_ ?hB _); case hB => (first | (with_reducible exact Nat.le_refl _) | omega | (simp; done) | (simp; omega))) | ((with_reducible refine Below.setCell ?_ ?hB _); case hB => (first | (with_reducible exact Nat.le_refl _) | omega | (simp; done) | (simp; omega))))); exact HB4.out⟩
    rw [size_seven]
    exact (own_seven HO.out (.inl (by omega))).mono (by omega) (Nat.le_refl _)
  · have HV : Hid (widenGapR m g k = ([], zeroGp, false)) := Lib.hid (by rw [widenGapR, if_neg hall])
    by_cases hok : GpOK m g
    · have hk1 : k < 0 := by
        rcases Int.lt_or_le k 0 with h | h
        · exact h
        · exact absurd ⟨hok, h⟩ hall
      rw [decide_eq_true hok] at HC
      clear hok hall
      go_enter Try.func38, Try.ntmps38
      go_wp2_with fail
      rw [HW.out]
      refine HC.out.mono ?_
      rintro e w2 ⟨rfl, hb2⟩
      have HB2 := Lib.hid (HB.out.trans (hb2.mono HB.out.size))
      have HG2 := Lib.hid (HGG.out.below hb2)
      clear hb2 c0 d0 d1 d2 d3 d4 d5
      obtain ⟨r0, r1, r2, r3, r4, r5, r6⟩ := gap_cells HG2.out.res
      obtain ⟨f0, f1, f2, f3, f4, f5, f6⟩ := gap_frozen HG2.out.res
      go_wp2_with fail
      refine bodyPost_ret (v := .tuple #[.agg #[.slice none 0 0, .int .i64 0, .int .i64 0, .int .i64 0, .int .i64 0, .int .i64 0, .int .i64 0], .bool false]) (by simp [results, Try.results38, go_sem, r0, r1, r2, r3, r4, r5, r6]) rfl ⟨_, by rw [HV.out]; rfl, by rw [HV.out]; exact own_none _ _ _, by (repeat (first | (with_reducible exact Below.refl _ _) | (with_reducible refine Below.drew ?_) | ((with_reducible refine Below.alloc ?_ ?hB _); case hB => (first | (with_reducible exact Nat.le_refl _) | omega | (simp; done) | (simp; omega))) | ((with_reducible refine Below.setCell ?_ ?hB _); case hB => (first | (with_reducible exact Nat.le_refl _) | omega | (simp; done) | (simp; omega))))); exact HB2.out⟩
    · rw [decide_eq_false hok] at HC
      clear hok hall
      go_enter Try.func38, Try.ntmps38
      go_wp2_with fail
      rw [HW.out]
      refine HC.out.mono ?_
      rintro e w2 ⟨rfl, hb2⟩
      have HB2 := Lib.hid (HB.out.trans (hb2.mono HB.out.size))
      have HG2 := Lib.hid (HGG.out.below hb2)
      clear hb2 c0 d0 d1 d2 d3 d4 d5
      obtain ⟨r0, r1, r2, r3, r4, r5, r6⟩ := gap_cells HG2.out.res
      obtain ⟨f0, f1, f2, f3, f4, f5, f6⟩ := gap_frozen HG2.out.res
      go_wp2_with fail
      refine bodyPost_ret (v := .tuple #[.agg #[.slice none 0 0, .int .i64 0, .int .i64 0, .int .i64 0, .int .i64 0, .int .i64 0, .int .i64 0], .bool false]) (by simp [results, Try.results38, go_sem, r0, r1, r2, r3, r4, r5, r6]) rfl ⟨_, by rw [HV.out]; rfl, by rw [HV.out]; exact own_none _ _ _, by (repeat (first | (with_reducible exact Below.refl _ _) | (with_reducible refine Below.drew ?_) | ((with_reducible refine Below.alloc ?_ ?hB _); case hB => (first | (with_reducible exact Nat.le_refl _) | omega | (simp; done) | (simp; omega))) | ((with_reducible refine Below.setCell ?_ ?hB _); case hB => (first | (with_reducible exact Nat.le_refl _) | omega | (simp; done) | (simp; omega))))); exact HB2.out⟩

set_option maxRecDepth 100000 in
set_option maxHeartbeats 6400000 in
theorem implWiden_ok (A : Option Addr) (cm : Nat) (m : List (List Int)) (n s l c a b k : Nat) (w : World) (hr : Rd2 w w.heap.size A m) (hn : m.length ≤ maxLen) (hok : GpOK m ⟨⟨n, s, l, c⟩, a, b⟩) (hx : GArgW ⟨⟨n, s, l, c⟩, a, b⟩) (hk : k ≤ 64) :
    Calls Try.prog 39 #[.agg #[.slice A m.length cm, .int .i64 n, .int .i64 s, .int .i64 l, .int .i64 c, .int .i64 a, .int .i64 b], .int .i64 k] w fun e w' => ∃ v, e = .returned (.tuple #[.agg #[v, .int .i64 (widenW m ⟨⟨n, s, l, c⟩, a, b⟩ k).2.1.w.arr, .int .i64 (widenW m ⟨⟨n, s, l, c⟩, a, b⟩ k).2.1.w.start, .int .i64 (widenW m ⟨⟨n, s, l, c⟩, a, b⟩ k).2.1.w.len, .int .i64 (widenW m ⟨⟨n, s, l, c⟩, a, b⟩ k).2.1.w.cap, .int .i64 (widenW m ⟨⟨n, s, l, c⟩, a, b⟩ k).2.1.fr, .int .i64 (widenW m ⟨⟨n, s, l, c⟩, a, b⟩ k).2.1.up], .bool (widenW m ⟨⟨n, s, l, c⟩, a, b⟩ k).2.2]) ∧ OwnM w' w.heap.size w'.heap.size v (widenW m ⟨⟨n, s, l, c⟩, a, b⟩ k).1 ∧ Below w.heap.size w w' := by
  obtain ⟨we, hwe, hbe, hze, hgg⟩ := enterGG A m.length cm ⟨⟨n, s, l, c⟩, a, b⟩ w
  have HC := Lib.hid (implIsGap_calls A cm m ⟨⟨n, s, l, c⟩, a, b⟩ we ((hr.below hbe).more hbe.size) hn hx)
  rw [decide_eq_true hok] at HC
  dsimp only at hwe hgg HC
  have HR := Lib.hid hr
  have HBE := Lib.hid hbe
  have HWE := Lib.hid hwe
  have HGE := Lib.hid hgg
  have hlre : w.heap.size + 1 < we.heap.size := by omega
  have hwc := widen_cases (a := a) (b := b) k hok hk
  have hmo := hok.1
  obtain ⟨n', s', l', c', a', b', hnl, e, hab, hbl, hlc, hsc, h1m, h64, h16⟩ := hok.nat
  injection e with e1 e2 e3
  injection e1 with e4 e5 e6 e7
  obtain rfl : n = n' := by omega
  obtain rfl : s = s' := by omega
  obtain rfl : l = l' := by omega
  obtain rfl : c = c' := by omega
  obtain rfl : a = a' := by omega
  obtain rfl : b = b' := by omega
  clear e2 e3 e4 e5 e6 e7 hze
  have hki : ¬ (64 : Int) < k := by omega
  have hk0 : (0 : Int) ≤ k := by omega
  have hkn : ¬ (k : Int) < 0 := by omega
  have hwl : (wb m n s l).length = l := wb_len hnl (by omega)
  obtain ⟨R, x, ok, happ⟩ : ∃ R x ok, appR m n s l c (zerosL k) = (R, x, ok) := ⟨_, _, _, rfl⟩
  have HWC := Lib.hid hwc
  have HAPP := Lib.hid happ
  obtain ⟨c0, d0, d1, d2, d3, d4, d5⟩ := gap_cells hgg.par
  have HMO := Lib.hid hmo
  have HXX := Lib.hid hx
  clear hr hbe hwe hgg hok hmo hwc happ hx
  go_enter Try.func39, Try.ntmps39
  go_wp2_with fail
  rw [HWE.out]
  refine HC.out.mono ?_
  rintro e w0 ⟨rfl, hb0⟩
  have HB := Lib.hid (HBE.out.trans (hb0.mono HBE.out.size))
  have HGG := Lib.hid (HGE.out.below hb0)
  have hlr0 : w.heap.size + 1 < w0.heap.size := Nat.lt_of_lt_of_le hlre hb0.size
  have hs0 := HB.out.size
  clear hb0 c0 d0 d1 d2 d3 d4 d5
  obtain ⟨mk, hmk⟩ := make_all k (by omega)
  have HXL := Lib.hid (show (List.replicate k (0 : Int)).length = k by simp)
  have HNW : Hid (∀ X (hb : Below w0.heap.size w0 X) g, Rd X X.heap.size (some ⟨g, 0, none⟩) (intV .u8 (List.replicate k 0)) → Calls Try.prog 99 #[.agg #[.slice A m.length cm], .agg #[.int .i64 n, .int .i64 s, .int .i64 l, .int .i64 c], .slice (some ⟨g, 0, none⟩) k k] X fun e w' => ∃ v, e = .returned (.tuple #[.agg #[v], .agg #[.int .i64 x.arr, .int .i64 x.start, .int .i64 x.len, .int .i64 x.cap], .bool ok]) ∧ OwnM w' X.heap.size w'.heap.size v R ∧ Below X.heap.size X w') := Lib.hid fun X hb g hrd => by
    have h := implAppendBytes_calls A cm m ⟨n, s, l, c⟩ (some ⟨g, 0, none⟩) k (List.replicate k 0) X ((HR.out.below (HB.out.trans (hb.mono HB.out.size))).more (Nat.le_trans HB.out.size hb.size)) hn HXX.out.1 (by rw [HXL.out]; omega) hrd
    rw [show appendR m ⟨n, s, l, c⟩ (List.replicate k 0) = (R, x, ok) by rw [appendR, if_pos HMO.out]; exact HAPP.out, HXL.out] at h
    exact h
  have HA : Hid (∀ W, Below w0.heap.size w0 W → W.cell? ⟨w.heap.size, 0, none⟩ = some (.slice A m.length cm) ∧ W.cell? ⟨w.heap.size, 1, none⟩ = some (.int .i64 n) ∧ W.cell? ⟨w.heap.size, 2, none⟩ = some (.int .i64 s) ∧ W.cell? ⟨w.heap.size, 3, none⟩ = some (.int .i64 l) ∧ W.cell? ⟨w.heap.size, 4, none⟩ = some (.int .i64 c) ∧ W.cell? ⟨w.heap.size, 5, none⟩ = some (.int .i64 a) ∧ W.cell? ⟨w.heap.size, 6, none⟩ = some (.int .i64 b)) := Lib.hid fun W hb => gap_cells (HGG.out.below hb).par
  have HMB : Hid (∀ W, Below w0.heap.size w0 W → Below w0.heap.size w0 (mk W)) := Lib.hid fun W hb => hb.trans ((hmk W).2.2.mono hb.size)
  have hrun := fun W => (hmk W).1
  have HD_ := Lib.hid (show Below w0.heap.size w0 (mk w0.drew) from HMB.out _ (by (repeat (first | (with_reducible exact Below.refl _ _) | (with_reducible refine Below.drew ?_) | ((with_reducible refine Below.alloc ?_ ?hB _); case hB => (first | (with_reducible exact Nat.le_refl _) | omega | (simp; done) | (simp; omega))) | ((with_reducible refine Below.setCell ?_ ?hB _); case hB => (first | (with_reducible exact Nat.le_refl _) | omega | (simp; done) | (simp; omega)))))))
  have hq_ := HD_.out.size
  have HR_ : Hid (Rd (mk w0.drew) (mk w0.drew).heap.size (some ⟨w0.heap.size, 0, none⟩) (intV .u8 (List.replicate k 0))) := Lib.hid (by have h := Rd.of_own (hmk w0.drew).2.1; simpa using h)
  have HDM_ := Lib.hid (show Below w0.heap.size w0 (mk (w0.alloc (.cells #[.slice none 0 0] 31)).drew) from HMB.out _ (by (repeat (first | (with_reducible exact Below.refl _ _) | (with_reducible refine Below.drew ?_) | ((with_reducible refine Below.alloc ?_ ?hB _); case hB => (first | (with_reducible exact Nat.le_refl _) | omega | (simp; done) | (simp; omega))) | ((with_reducible refine Below.setCell ?_ ?hB _); case hB => (first | (with_reducible exact Nat.le_refl _) | omega | (simp; done) | (simp; omega)))))))
  have hqM_ := HDM_.out.size
  have HRM_ : Hid (Rd (mk (w0.alloc (.cells #[.slice none 0 0] 31)).drew) (mk (w0.alloc (.cells #[.slice none 0 0] 31)).drew).heap.size (some ⟨w0.heap.size + 1, 0, none⟩) (intV .u8 (List.replicate k 0))) := Lib.hid (by have h := Rd.of_own (hmk (w0.alloc (.cells #[.slice none 0 0] 31)).drew).2.1; simpa using h)
  have hlM_ : w0.heap.size + 1 ≤ (mk (w0.alloc (.cells #[.slice none 0 0] 31)).drew).heap.size := by have h := (hmk (w0.alloc (.cells #[.slice none 0 0] 31)).drew).2.2.size; simpa using h
  have HZMM_ : Hid ((mk (w0.alloc (.cells #[.slice none 0 0] 31)).drew).heap[w0.heap.size]? = some (.cells #[.slice none 0 0] 31)) := Lib.hid (((hmk (w0.alloc (.cells #[.slice none 0 0] 31)).drew).2.2.block _ (by simp)).trans (heap_alloc_new w0 (.cells #[.slice none 0 0] 31)))
  have HDW_ := Lib.hid (show Below w0.heap.size w0 (mk (w0.alloc (.cells #[.int .i64 0, .int .i64 0, .int .i64 0, .int .i64 0] 32)).drew) from HMB.out _ (by (repeat (first | (with_reducible exact Below.refl _ _) | (with_reducible refine Below.drew ?_) | ((with_reducible refine Below.alloc ?_ ?hB _); case hB => (first | (with_reducible exact Nat.le_refl _) | omega | (simp; done) | (simp; omega))) | ((with_reducible refine Below.setCell ?_ ?hB _); case hB => (first | (with_reducible exact Nat.le_refl _) | omega | (simp; done) | (simp; omega)))))))
  have hqW_ := HDW_.out.size
  have HRW_ : Hid (Rd (mk (w0.alloc (.cells #[.int .i64 0, .int .i64 0, .int .i64 0, .int .i64 0] 32)).drew) (mk (w0.alloc (.cells #[.int .i64 0, .int .i64 0, .int .i64 0, .int .i64 0] 32)).drew).heap.size (some ⟨w0.heap.size + 1, 0, none⟩) (intV .u8 (List.replicate k 0))) := Lib.hid (by have h := Rd.of_own (hmk (w0.alloc (.cells #[.int .i64 0, .int .i64 0, .int .i64 0, .int .i64 0] 32)).drew).2.1; simpa using h)
  have hlW_ : w0.heap.size + 1 ≤ (mk (w0.alloc (.cells #[.int .i64 0, .int .i64 0, .int .i64 0, .int .i64 0] 32)).drew).heap.size := by have h := (hmk (w0.alloc (.cells #[.int .i64 0, .int .i64 0, .int .i64 0, .int .i64 0] 32)).drew).2.2.size; simpa using h
  have HZWW_ : Hid ((mk (w0.alloc (.cells #[.int .i64 0, .int .i64 0, .int .i64 0, .int .i64 0] 32)).drew).heap[w0.heap.size]? = some (.cells #[.int .i64 0, .int .i64 0, .int .i64 0, .int .i64 0] 32)) := Lib.hid (((hmk (w0.alloc (.cells #[.int .i64 0, .int .i64 0, .int .i64 0, .int .i64 0] 32)).drew).2.2.block _ (by simp)).trans (heap_alloc_new w0 (.cells #[.int .i64 0, .int .i64 0, .int .i64 0, .int .i64 0] 32)))
  have HDMW_ := Lib.hid (show Below w0.heap.size w0 (mk ((w0.alloc (.cells #[.slice none 0 0] 31)).alloc (.cells #[.int .i64 0, .int .i64 0, .int .i64 0, .int .i64 0] 32)).drew) from HMB.out _ (by (repeat (first | (with_reducible exact Below.refl _ _) | (with_reducible refine Below.drew ?_) | ((with_reducible refine Below.alloc ?_ ?hB _); case hB => (first | (with_reducible exact Nat.le_refl _) | omega | (simp; done) | (simp; omega))) | ((with_reducible refine Below.setCell ?_ ?hB _); case hB => (first | (with_reducible exact Nat.le_refl _) | omega | (simp; done) | (simp; omega)))))))
  have hqMW_ := HDMW_.out.size
  have HRMW_ : Hid (Rd (mk ((w0.alloc (.cells #[.slice none 0 0] 31)).alloc (.cells #[.int .i64 0, .int .i64 0, .int .i64 0, .int .i64 0] 32)).drew) (mk ((w0.alloc (.cells #[.slice none 0 0] 31)).alloc (.cells #[.int .i64 0, .int .i64 0, .int .i64 0, .int .i64 0] 32)).drew).heap.size (some ⟨w0.heap.size + 1 + 1, 0, none⟩) (intV .u8 (List.replicate k 0))) := Lib.hid (by have h := Rd.of_own (hmk ((w0.alloc (.cells #[.slice none 0 0] 31)).alloc (.cells #[.int .i64 0, .int .i64 0, .int .i64 0, .int .i64 0] 32)).drew).2.1; simpa using h)
  have hlMW_ : w0.heap.size + 1 + 1 ≤ (mk ((w0.alloc (.cells #[.slice none 0 0] 31)).alloc (.cells #[.int .i64 0, .int .i64 0, .int .i64 0, .int .i64 0] 32)).drew).heap.size := by have h := (hmk ((w0.alloc (.cells #[.slice none 0 0] 31)).alloc (.cells #[.int .i64 0, .int .i64 0, .int .i64 0, .int .i64 0] 32)).drew).2.2.size; simpa using h
  have HZMWM_ : Hid ((mk ((w0.alloc (.cells #[.slice none 0 0] 31)).alloc (.cells #[.int .i64 0, .int .i64 0, .int .i64 0, .int .i64 0] 32)).drew).heap[w0.heap.size]? = some (.cells #[.slice none 0 0] 31)) := Lib.hid (((hmk ((w0.alloc (.cells #[.slice none 0 0] 31)).alloc (.cells #[.int .i64 0, .int .i64 0, .int .i64 0, .int .i64 0] 32)).drew).2.2.block _ (by simp; omega)).trans (alloc_old (.cells #[.int .i64 0, .int .i64 0, .int .i64 0, .int .i64 0] 32) (heap_alloc_new w0 (.cells #[.slice none 0 0] 31))))
  have HZMWW_ : Hid ((mk ((w0.alloc (.cells #[.slice none 0 0] 31)).alloc (.cells #[.int .i64 0, .int .i64 0, .int .i64 0, .int .i64 0] 32)).drew).heap[w0.heap.size + 1]? = some (.cells #[.int .i64 0, .int .i64 0, .int .i64 0, .int .i64 0] 32)) := Lib.hid (((hmk ((w0.alloc (.cells #[.slice none 0 0] 31)).alloc (.cells #[.int .i64 0, .int .i64 0, .int .i64 0, .int .i64 0] 32)).drew).2.2.block _ (by simp)).trans (heap_alloc_at (w := (w0.alloc (.cells #[.slice none 0 0] 31))) (o := .cells #[.int .i64 0, .int .i64 0, .int .i64 0, .int .i64 0] 32) (g := w0.heap.size + 1) (by simp)))
  have HDWM_ := Lib.hid (show Below w0.heap.size w0 (mk ((w0.alloc (.cells #[.int .i64 0, .int .i64 0, .int .i64 0, .int .i64 0] 32)).alloc (.cells #[.slice none 0 0] 31)).drew) from HMB.out _ (by (repeat (first | (with_reducible exact Below.refl _ _) | (with_reducible refine Below.drew ?_) | ((with_reducible refine Below.alloc ?_ ?hB _); case hB => (first | (with_reducible exact Nat.le_refl _) | omega | (simp; done) | (simp; omega))) | ((with_reducible refine Below.setCell ?_ ?hB _); case hB => (first | (with_reducible exact Nat.le_refl _) | omega | (simp; done) | (simp; omega)))))))
  have hqWM_ := HDWM_.out.size
  have HRWM_ : Hid (Rd (mk ((w0.alloc (.cells #[.int .i64 0, .int .i64 0, .int .i64 0, .int .i64 0] 32)).alloc (.cells #[.slice none 0 0] 31)).drew) (mk ((w0.alloc (.cells #[.int .i64 0, .int .i64 0, .int .i64 0, .int .i64 0] 32)).alloc (.cells #[.slice none 0 0] 31)).drew).heap.size (some ⟨w0.heap.size + 1 + 1, 0, none⟩) (intV .u8 (List.replicate k 0))) := Lib.hid (by have h := Rd.of_own (hmk ((w0.alloc (.cells #[.int .i64 0, .int .i64 0, .int .i64 0, .int .i64 0] 32)).alloc (.cells #[.slice none 0 0] 31)).drew).2.1; simpa using h)
  have hlWM_ : w0.heap.size + 1 + 1 ≤ (mk ((w0.alloc (.cells #[.int .i64 0, .int .i64 0, .int .i64 0, .int .i64 0] 32)).alloc (.cells #[.slice none 0 0] 31)).drew).heap.size := by have h := (hmk ((w0.alloc (.cells #[.int .i64 0, .int .i64 0, .int .i64 0, .int .i64 0] 32)).alloc (.cells #[.slice none 0 0] 31)).drew).2.2.size; simpa using h
  have HZWMW_ : Hid ((mk ((w0.alloc (.cells #[.int .i64 0, .int .i64 0, .int .i64 0, .int .i64 0] 32)).alloc (.cells #[.slice none 0 0] 31)).drew).heap[w0.heap.size]? = some (.cells #[.int .i64 0, .int .i64 0, .int .i64 0, .int .i64 0] 32)) := Lib.hid (((hmk ((w0.alloc (.cells #[.int .i64 0, .int .i64 0, .int .i64 0, .int .i64 0] 32)).alloc (.cells #[.slice none 0 0] 31)).drew).2.2.block _ (by simp; omega)).trans (alloc_old (.cells #[.slice none 0 0] 31) (heap_alloc_new w0 (.cells #[.int .i64 0, .int .i64 0, .int .i64 0, .int .i64 0] 32))))
  have HZWMM_ : Hid ((mk ((w0.alloc (.cells #[.int .i64 0, .int .i64 0, .int .i64 0, .int .i64 0] 32)).alloc (.cells #[.slice none 0 0] 31)).drew).heap[w0.heap.size + 1]? = some (.cells #[.slice none 0 0] 31)) := Lib.hid (((hmk ((w0.alloc (.cells #[.int .i64 0, .int .i64 0, .int .i64 0, .int .i64 0] 32)).alloc (.cells #[.slice none 0 0] 31)).drew).2.2.block _ (by simp)).trans (heap_alloc_at (w := (w0.alloc (.cells #[.int .i64 0, .int .i64 0, .int .i64 0, .int .i64 0] 32))) (o := .cells #[.slice none 0 0] 31) (g := w0.heap.size + 1) (by simp)))
  have HRUN := Lib.hid hrun
  clear hmk hrun
  go_upto_region 3 with fail
  have hrun := HRUN.out
  have hc0 := (Below.refl w0.heap.size w0).drew
  obtain ⟨u0, u1, u2, u3, u4, u5, u6⟩ := HA.out w0.drew hc0
  go_cut [6, 7, 8] (fun s6 s7 s8 wx => ∃ (g7 lo7 hi7 : Nat) (v7 : Value) (g8 : Nat), s6 = .pointer (some ⟨g7, 0, none⟩) ∧ MBox wx w0.heap.size g7 lo7 hi7 v7 R ∧ s7 = .pointer (some ⟨g8, 0, none⟩) ∧ WBox wx w0.heap.size g8 x.arr x.start x.len x.cap ∧ s8 = .bool ok ∧ Below w0.heap.size w0 wx)
  case first =>
    go_region_held3 (fun W => W.cell? ⟨w.heap.size, 0, none⟩ = some (.slice A m.length cm) ∧ W.cell? ⟨w.heap.size, 1, none⟩ = some (.int .i64 n) ∧ W.cell? ⟨w.heap.size, 2, none⟩ = some (.int .i64 s) ∧ W.cell? ⟨w.heap.size, 3, none⟩ = some (.int .i64 l) ∧ W.cell? ⟨w.heap.size, 4, none⟩ = some (.int .i64 c) ∧ W.cell? ⟨w.heap.size, 5, none⟩ = some (.int .i64 a) ∧ W.cell? ⟨w.heap.size, 6, none⟩ = some (.int .i64 b))
      (first | (with_reducible exact ⟨u0, u1, u2, u3, u4, u5, u6⟩) | (exact HA.out _ (by (repeat (first | (with_reducible exact Below.refl _ _) | (with_reducible refine Below.drew ?_) | ((with_reducible refine Below.alloc ?_ ?hB _); case hB => (first | (with_reducible exact Nat.le_refl _) | omega | (simp; done) | (simp; omega))) | ((with_reducible refine Below.setCell ?_ ?hB _); case hB => (first | (with_reducible exact Nat.le_refl _) | omega | (simp; done) | (simp; omega))))); (first | done | exact hc5))) | (exact HA.out _ (by (repeat (first | (with_reducible exact Below.refl _ _) | (with_reducible refine Below.drew ?_) | ((with_reducible refine Below.alloc ?_ ?hB _); case hB => (first | (with_reducible exact Nat.le_refl _) | omega | (simp; done) | (simp; omega))) | ((with_reducible refine Below.setCell ?_ ?hB _); case hB => (first | (with_reducible exact Nat.le_refl _) | omega | (simp; done) | (simp; omega))))); (refine HMB.out _ ?_); (repeat (first | (with_reducible exact Below.refl _ _) | (with_reducible refine Below.drew ?_) | ((with_reducible refine Below.alloc ?_ ?hB _); case hB => (first | (with_reducible exact Nat.le_refl _) | omega | (simp; done) | (simp; omega))) | ((with_reducible refine Below.setCell ?_ ?hB _); case hB => (first | (with_reducible exact Nat.le_refl _) | omega | (simp; done) | (simp; omega))))))) | fail)
      (first | (go_at_call 99; (with_reducible refine (HNW.out (mk w0.drew) HD_.out _ HR_.out).mono ?_); rintro e w5 ⟨V, rfl, o5, b5⟩; have hc5 : Below w0.heap.size w0 w5 := below_step HD_.out b5; have q5 := hc5.size; obtain ⟨L, hL, O5⟩ : ∃ L, L = (mk w0.drew).heap.size ∧ OwnM w5 L w5.heap.size V R := ⟨_, rfl, o5⟩; have hL1 : L ≤ w5.heap.size := Nat.le_trans (Nat.le_of_eq hL) b5.size; have hL2 : w0.heap.size ≤ L := Nat.le_trans HD_.out.size (Nat.le_of_eq hL.symm); obtain ⟨VA, Vk, rfl, Vh⟩ := o5.form; have HO5 := Lib.hid O5; clear o5 b5 hL O5) | (go_at_call 99; (with_reducible refine (HNW.out ((mk w0.drew).alloc (.cells #[.slice none 0 0] 31)) (below_al HD_.out (.cells #[.slice none 0 0] 31)) _ (rd_al HR_.out (.cells #[.slice none 0 0] 31))).mono ?_); rintro e w5 ⟨V, rfl, o5, b5⟩; have hc5 : Below w0.heap.size w0 w5 := below_step (below_al HD_.out (.cells #[.slice none 0 0] 31)) b5; have q5 := hc5.size; obtain ⟨L, hL, O5⟩ : ∃ L, L = ((mk w0.drew).alloc (.cells #[.slice none 0 0] 31)).heap.size ∧ OwnM w5 L w5.heap.size V R := ⟨_, rfl, o5⟩; have hL1 : L ≤ w5.heap.size := Nat.le_trans (Nat.le_of_eq hL) b5.size; have hL2 : w0.heap.size ≤ L := Nat.le_trans (below_al HD_.out (.cells #[.slice none 0 0] 31)).size (Nat.le_of_eq hL.symm); have zM := box_keep (heap_alloc_at (w := (mk w0.drew)) (o := .cells #[.slice none 0 0] 31) (g := (mk w0.drew).heap.size) (by first | rfl | (simp; done))) b5; have mM := Nat.lt_of_lt_of_le (Array.getElem?_eq_some_iff.1 (heap_alloc_at (w := (mk w0.drew)) (o := .cells #[.slice none 0 0] 31) (g := (mk w0.drew).heap.size) (by first | rfl | (simp; done)))).1 (Nat.le_of_eq hL.symm); have lM := (Array.getElem?_eq_some_iff.1 zM).1; have kM := one_cell zM; have kfM := one_frozen zM; obtain ⟨VA, Vk, rfl, Vh⟩ := o5.form; have HO5 := Lib.hid O5; clear o5 b5 hL O5) | (go_at_call 99; (with_reducible refine (HNW.out ((mk w0.drew).alloc (.cells #[.int .i64 0, .int .i64 0, .int .i64 0, .int .i64 0] 32)) (below_al HD_.out (.cells #[.int .i64 0, .int .i64 0, .int .i64 0, .int .i64 0] 32)) _ (rd_al HR_.out (.cells #[.int .i64 0, .int .i64 0, .int .i64 0, .int .i64 0] 32))).mono ?_); rintro e w5 ⟨V, rfl, o5, b5⟩; have hc5 : Below w0.heap.size w0 w5 := below_step (below_al HD_.out (.cells #[.int .i64 0, .int .i64 0, .int .i64 0, .int .i64 0] 32)) b5; have q5 := hc5.size; obtain ⟨L, hL, O5⟩ : ∃ L, L = ((mk w0.drew).alloc (.cells #[.int .i64 0, .int .i64 0, .int .i64 0, .int .i64 0] 32)).heap.size ∧ OwnM w5 L w5.heap.size V R := ⟨_, rfl, o5⟩; have hL1 : L ≤ w5.heap.size := Nat.le_trans (Nat.le_of_eq hL) b5.size; have hL2 : w0.heap.size ≤ L := Nat.le_trans (below_al HD_.out (.cells #[.int .i64 0, .int .i64 0, .int .i64 0, .int .i64 0] 32)).size (Nat.le_of_eq hL.symm); have zW := box_keep (heap_alloc_at (w := (mk w0.drew)) (o := .cells #[.int .i64 0, .int .i64 0, .int .i64 0, .int .i64 0] 32) (g := (mk w0.drew).heap.size) (by first | rfl | (simp; done))) b5; have mW := Nat.lt_of_lt_of_le (Array.getElem?_eq_some_iff.1 (heap_alloc_at (w := (mk w0.drew)) (o := .cells #[.int .i64 0, .int .i64 0, .int .i64 0, .int .i64 0] 32) (g := (mk w0.drew).heap.size) (by first | rfl | (simp; done)))).1 (Nat.le_of_eq hL.symm); have lW := (Array.getElem?_eq_some_iff.1 zW).1; obtain ⟨k0, k1, k2, k3⟩ := four_cells zW; obtain ⟨kf0, kf1, kf2, kf3⟩ := oneM zW; obtain ⟨VA, Vk, rfl, Vh⟩ := o5.form; have HO5 := Lib.hid O5; clear o5 b5 hL O5) | (go_at_call 99; (with_reducible refine (HNW.out (((mk w0.drew).alloc (.cells #[.slice none 0 0] 31)).alloc (.cells #[.int .i64 0, .int .i64 0, .int .i64 0, .int .i64 0] 32)) (below_al (below_al HD_.out (.cells #[.slice none 0 0] 31)) (.cells #[.int .i64 0, .int .i64 0, .int .i64 0, .int .i64 0] 32)) _ (rd_al (rd_al HR_.out (.cells #[.slice none 0 0] 31)) (.cells #[.int .i64 0, .int .i64 0, .int .i64 0, .int .i64 0] 32))).mono ?_); rintro e w5 ⟨V, rfl, o5, b5⟩; have hc5 : Below w0.heap.size w0 w5 := below_step (below_al (below_al HD_.out (.cells #[.slice none 0 0] 31)) (.cells #[.int .i64 0, .int .i64 0, .int .i64 0, .int .i64 0] 32)) b5; have q5 := hc5.size; obtain ⟨L, hL, O5⟩ : ∃ L, L = (((mk w0.drew).alloc (.cells #[.slice none 0 0] 31)).alloc (.cells #[.int .i64 0, .int .i64 0, .int .i64 0, .int .i64 0] 32)).heap.size ∧ OwnM w5 L w5.heap.size V R := ⟨_, rfl, o5⟩; have hL1 : L ≤ w5.heap.size := Nat.le_trans (Nat.le_of_eq hL) b5.size; have hL2 : w0.heap.size ≤ L := Nat.le_trans (below_al (below_al HD_.out (.cells #[.slice none 0 0] 31)) (.cells #[.int .i64 0, .int .i64 0, .int .i64 0, .int .i64 0] 32)).size (Nat.le_of_eq hL.symm); have zM := box_keep (alloc_old (.cells #[.int .i64 0, .int .i64 0, .int .i64 0, .int .i64 0] 32) (heap_alloc_at (w := (mk w0.drew)) (o := .cells #[.slice none 0 0] 31) (g := (mk w0.drew).heap.size) (by first | rfl | (simp; done)))) b5; have mM := Nat.lt_of_lt_of_le (Array.getElem?_eq_some_iff.1 (alloc_old (.cells #[.int .i64 0, .int .i64 0, .int .i64 0, .int .i64 0] 32) (heap_alloc_at (w := (mk w0.drew)) (o := .cells #[.slice none 0 0] 31) (g := (mk w0.drew).heap.size) (by first | rfl | (simp; done))))).1 (Nat.le_of_eq hL.symm); have lM := (Array.getElem?_eq_some_iff.1 zM).1; have kM := one_cell zM; have kfM := one_frozen zM; have zW := box_keep (heap_alloc_at (w := ((mk w0.drew).alloc (.cells #[.slice none 0 0] 31))) (o := .cells #[.int .i64 0, .int .i64 0, .int .i64 0, .int .i64 0] 32) (g := (mk w0.drew).heap.size + 1) (by first | rfl | (simp; done))) b5; have mW := Nat.lt_of_lt_of_le (Array.getElem?_eq_some_iff.1 (heap_alloc_at (w := ((mk w0.drew).alloc (.cells #[.slice none 0 0] 31))) (o := .cells #[.int .i64 0, .int .i64 0, .int .i64 0, .int .i64 0] 32) (g := (mk w0.drew).heap.size + 1) (by first | rfl | (simp; done)))).1 (Nat.le_of_eq hL.symm); have lW := (Array.getElem?_eq_some_iff.1 zW).1; obtain ⟨k0, k1, k2, k3⟩ := four_cells zW; obtain ⟨kf0, kf1, kf2, kf3⟩ := oneM zW; obtain ⟨VA, Vk, rfl, Vh⟩ := o5.form; have HO5 := Lib.hid O5; clear o5 b5 hL O5) | (go_at_call 99; (with_reducible refine (HNW.out (((mk w0.drew).alloc (.cells #[.int .i64 0, .int .i64 0, .int .i64 0, .int .i64 0] 32)).alloc (.cells #[.slice none 0 0] 31)) (below_al (below_al HD_.out (.cells #[.int .i64 0, .int .i64 0, .int .i64 0, .int .i64 0] 32)) (.cells #[.slice none 0 0] 31)) _ (rd_al (rd_al HR_.out (.cells #[.int .i64 0, .int .i64 0, .int .i64 0, .int .i64 0] 32)) (.cells #[.slice none 0 0] 31))).mono ?_); rintro e w5 ⟨V, rfl, o5, b5⟩; have hc5 : Below w0.heap.size w0 w5 := below_step (below_al (below_al HD_.out (.cells #[.int .i64 0, .int .i64 0, .int .i64 0, .int .i64 0] 32)) (.cells #[.slice none 0 0] 31)) b5; have q5 := hc5.size; obtain ⟨L, hL, O5⟩ : ∃ L, L = (((mk w0.drew).alloc (.cells #[.int .i64 0, .int .i64 0, .int .i64 0, .int .i64 0] 32)).alloc (.cells #[.slice none 0 0] 31)).heap.size ∧ OwnM w5 L w5.heap.size V R := ⟨_, rfl, o5⟩; have hL1 : L ≤ w5.heap.size := Nat.le_trans (Nat.le_of_eq hL) b5.size; have hL2 : w0.heap.size ≤ L := Nat.le_trans (below_al (below_al HD_.out (.cells #[.int .i64 0, .int .i64 0, .int .i64 0, .int .i64 0] 32)) (.cells #[.slice none 0 0] 31)).size (Nat.le_of_eq hL.symm); have zW := box_keep (alloc_old (.cells #[.slice none 0 0] 31) (heap_alloc_at (w := (mk w0.drew)) (o := .cells #[.int .i64 0, .int .i64 0, .int .i64 0, .int .i64 0] 32) (g := (mk w0.drew).heap.size) (by first | rfl | (simp; done)))) b5; have mW := Nat.lt_of_lt_of_le (Array.getElem?_eq_some_iff.1 (alloc_old (.cells #[.slice none 0 0] 31) (heap_alloc_at (w := (mk w0.drew)) (o := .cells #[.int .i64 0, .int .i64 0, .int .i64 0, .int .i64 0] 32) (g := (mk w0.drew).heap.size) (by first | rfl | (simp; done))))).1 (Nat.le_of_eq hL.symm); have lW := (Array.getElem?_eq_some_iff.1 zW).1; obtain ⟨k0, k1, k2, k3⟩ := four_cells zW; obtain ⟨kf0, kf1, kf2, kf3⟩ := oneM zW; have zM := box_keep (heap_alloc_at (w := ((mk w0.drew).alloc (.cells #[.int .i64 0, .int .i64 0, .int .i64 0, .int .i64 0] 32))) (o := .cells #[.slice none 0 0] 31) (g := (mk w0.drew).heap.size + 1) (by first | rfl | (simp; done))) b5; have mM := Nat.lt_of_lt_of_le (Array.getElem?_eq_some_iff.1 (heap_alloc_at (w := ((mk w0.drew).alloc (.cells #[.int .i64 0, .int .i64 0, .int .i64 0, .int .i64 0] 32))) (o := .cells #[.slice none 0 0] 31) (g := (mk w0.drew).heap.size + 1) (by first | rfl | (simp; done)))).1 (Nat.le_of_eq hL.symm); have lM := (Array.getElem?_eq_some_iff.1 zM).1; have kM := one_cell zM; have kfM := one_frozen zM; obtain ⟨VA, Vk, rfl, Vh⟩ := o5.form; have HO5 := Lib.hid O5; clear o5 b5 hL O5) | (go_at_call 99; (with_reducible refine (HNW.out (mk (w0.alloc (.cells #[.slice none 0 0] 31)).drew) HDM_.out _ HRM_.out).mono ?_); rintro e w5 ⟨V, rfl, o5, b5⟩; have hc5 : Below w0.heap.size w0 w5 := below_step HDM_.out b5; have q5 := hc5.size; obtain ⟨L, hL, O5⟩ : ∃ L, L = (mk (w0.alloc (.cells #[.slice none 0 0] 31)).drew).heap.size ∧ OwnM w5 L w5.heap.size V R := ⟨_, rfl, o5⟩; have hL1 : L ≤ w5.heap.size := Nat.le_trans (Nat.le_of_eq hL) b5.size; have hL2 : w0.heap.size ≤ L := Nat.le_trans HDM_.out.size (Nat.le_of_eq hL.symm); have zM := box_keep HZMM_.out b5; have mM := Nat.lt_of_lt_of_le (Array.getElem?_eq_some_iff.1 HZMM_.out).1 (Nat.le_of_eq hL.symm); have lM := (Array.getElem?_eq_some_iff.1 zM).1; have kM := one_cell zM; have kfM := one_frozen zM; obtain ⟨VA, Vk, rfl, Vh⟩ := o5.form; have HO5 := Lib.hid O5; clear o5 b5 hL O5) | (go_at_call 99; (with_reducible refine (HNW.out ((mk (w0.alloc (.cells #[.slice none 0 0] 31)).drew).alloc (.cells #[.int .i64 0, .int .i64 0, .int .i64 0, .int .i64 0] 32)) (below_al HDM_.out (.cells #[.int .i64 0, .int .i64 0, .int .i64 0, .int .i64 0] 32)) _ (rd_al HRM_.out (.cells #[.int .i64 0, .int .i64 0, .int .i64 0, .int .i64 0] 32))).mono ?_); rintro e w5 ⟨V, rfl, o5, b5⟩; have hc5 : Below w0.heap.size w0 w5 := below_step (below_al HDM_.out (.cells #[.int .i64 0, .int .i64 0, .int .i64 0, .int .i64 0] 32)) b5; have q5 := hc5.size; obtain ⟨L, hL, O5⟩ : ∃ L, L = ((mk (w0.alloc (.cells #[.slice none 0 0] 31)).drew).alloc (.cells #[.int .i64 0, .int .i64 0, .int .i64 0, .int .i64 0] 32)).heap.size ∧ OwnM w5 L w5.heap.size V R := ⟨_, rfl, o5⟩; have hL1 : L ≤ w5.heap.size := Nat.le_trans (Nat.le_of_eq hL) b5.size; have hL2 : w0.heap.size ≤ L := Nat.le_trans (below_al HDM_.out (.cells #[.int .i64 0, .int .i64 0, .int .i64 0, .int .i64 0] 32)).size (Nat.le_of_eq hL.symm); have zM := box_keep (alloc_old (.cells #[.int .i64 0, .int .i64 0, .int .i64 0, .int .i64 0] 32) HZMM_.out) b5; have mM := Nat.lt_of_lt_of_le (Array.getElem?_eq_some_iff.1 (alloc_old (.cells #[.int .i64 0, .int .i64 0, .int .i64 0, .int .i64 0] 32) HZMM_.out)).1 (Nat.le_of_eq hL.symm); have lM := (Array.getElem?_eq_some_iff.1 zM).1; have kM := one_cell zM; have kfM := one_frozen zM; have zW := box_keep (heap_alloc_at (w := (mk (w0.alloc (.cells #[.slice none 0 0] 31)).drew)) (o := .cells #[.int .i64 0, .int .i64 0, .int .i64 0, .int .i64 0] 32) (g := (mk (w0.alloc (.cells #[.slice none 0 0] 31)).drew).heap.size) (by first | rfl | (simp; done))) b5; have mW := Nat.lt_of_lt_of_le (Array.getElem?_eq_some_iff.1 (heap_alloc_at (w := (mk (w0.alloc (.cells #[.slice none 0 0] 31)).drew)) (o := .cells #[.int .i64 0, .int .i64 0, .int .i64 0, .int .i64 0] 32) (g := (mk (w0.alloc (.cells #[.slice none 0 0] 31)).drew).heap.size) (by first | rfl | (simp; done)))).1 (Nat.le_of_eq hL.symm); have lW := (Array.getElem?_eq_some_iff.1 zW).1; obtain ⟨k0, k1, k2, k3⟩ := four_cells zW; obtain ⟨kf0, kf1, kf2, kf3⟩ := oneM zW; obtain ⟨VA, Vk, rfl, Vh⟩ := o5.form; have HO5 := Lib.hid O5; clear o5 b5 hL O5) | (go_at_call 99; (with_reducible refine (HNW.out (mk (w0.alloc (.cells #[.int .i64 0, .int .i64 0, .int .i64 0, .int .i64 0] 32)).drew) HDW_.out _ HRW_.out).mono ?_); rintro e w5 ⟨V, rfl, o5, b5⟩; have hc5 : Below w0.heap.size w0 w5 := below_step HDW_.out b5; have q5 := hc5.size; obtain ⟨L, hL, O5⟩ : ∃ L, L = (mk (w0.alloc (.cells #[.int .i64 0, .int .i64 0, .int .i64 0, .int .i64 0] 32)).drew).heap.size ∧ OwnM w5 L w5.heap.size V R := ⟨_, rfl, o5⟩; have hL1 : L ≤ w5.heap.size := Nat.le_trans (Nat.le_of_eq hL) b5.size; have hL2 : w0.heap.size ≤ L := Nat.le_trans HDW_.out.size (Nat.le_of_eq hL.symm); have zW := box_keep HZWW_.out b5; have mW := Nat.lt_of_lt_of_le (Array.getElem?_eq_some_iff.1 HZWW_.out).1 (Nat.le_of_eq hL.symm); have lW := (Array.getElem?_eq_some_iff.1 zW).1; obtain ⟨k0, k1, k2, k3⟩ := four_cells zW; obtain ⟨kf0, kf1, kf2, kf3⟩ := oneM zW; obtain ⟨VA, Vk, rfl, Vh⟩ := o5.form; have HO5 := Lib.hid O5; clear o5 b5 hL O5) | (go_at_call 99; (with_reducible refine (HNW.out ((mk (w0.alloc (.cells #[.int .i64 0, .int .i64 0, .int .i64 0, .int .i64 0] 32)).drew).alloc (.cells #[.slice none 0 0] 31)) (below_al HDW_.out (.cells #[.slice none 0 0] 31)) _ (rd_al HRW_.out (.cells #[.slice none 0 0] 31))).mono ?_); rintro e w5 ⟨V, rfl, o5, b5⟩; have hc5 : Below w0.heap.size w0 w5 := below_step (below_al HDW_.out (.cells #[.slice none 0 0] 31)) b5; have q5 := hc5.size; obtain ⟨L, hL, O5⟩ : ∃ L, L = ((mk (w0.alloc (.cells #[.int .i64 0, .int .i64 0, .int .i64 0, .int .i64 0] 32)).drew).alloc (.cells #[.slice none 0 0] 31)).heap.size ∧ OwnM w5 L w5.heap.size V R := ⟨_, rfl, o5⟩; have hL1 : L ≤ w5.heap.size := Nat.le_trans (Nat.le_of_eq hL) b5.size; have hL2 : w0.heap.size ≤ L := Nat.le_trans (below_al HDW_.out (.cells #[.slice none 0 0] 31)).size (Nat.le_of_eq hL.symm); have zW := box_keep (alloc_old (.cells #[.slice none 0 0] 31) HZWW_.out) b5; have mW := Nat.lt_of_lt_of_le (Array.getElem?_eq_some_iff.1 (alloc_old (.cells #[.slice none 0 0] 31) HZWW_.out)).1 (Nat.le_of_eq hL.symm); have lW := (Array.getElem?_eq_some_iff.1 zW).1; obtain ⟨k0, k1, k2, k3⟩ := four_cells zW; obtain ⟨kf0, kf1, kf2, kf3⟩ := oneM zW; have zM := box_keep (heap_alloc_at (w := (mk (w0.alloc (.cells #[.int .i64 0, .int .i64 0, .int .i64 0, .int .i64 0] 32)).drew)) (o := .cells #[.slice none 0 0] 31) (g := (mk (w0.alloc (.cells #[.int .i64 0, .int .i64 0, .int .i64 0, .int .i64 0] 32)).drew).heap.size) (by first | rfl | (simp; done))) b5; have mM := Nat.lt_of_lt_of_le (Array.getElem?_eq_some_iff.1 (heap_alloc_at (w := (mk (w0.alloc (.cells #[.int .i64 0, .int .i64 0, .int .i64 0, .int .i64 0] 32)).drew)) (o := .cells #[.slice none 0 0] 31) (g := (mk (w0.alloc (.cells #[.int .i64 0, .int .i64 0, .int .i64 0, .int .i64 0] 32)).drew).heap.size) (by first | rfl | (simp; done)))).1 (Nat.le_of_eq hL.symm); have lM := (Array.getElem?_eq_some_iff.1 zM).1; have kM := one_cell zM; have kfM := one_frozen zM; obtain ⟨VA, Vk, rfl, Vh⟩ := o5.form; have HO5 := Lib.hid O5; clear o5 b5 hL O5) | (go_at_call 99; (with_reducible refine (HNW.out (mk ((w0.alloc (.cells #[.slice none 0 0] 31)).alloc (.cells #[.int .i64 0, .int .i64 0, .int .i64 0, .int .i64 0] 32)).drew) HDMW_.out _ HRMW_.out).mono ?_); rintro e w5 ⟨V, rfl, o5, b5⟩; have hc5 : Below w0.heap.size w0 w5 := below_step HDMW_.out b5; have q5 := hc5.size; obtain ⟨L, hL, O5⟩ : ∃ L, L = (mk ((w0.alloc (.cells #[.slice none 0 0] 31)).alloc (.cells #[.int .i64 0, .int .i64 0, .int .i64 0, .int .i64 0] 32)).drew).heap.size ∧ OwnM w5 L w5.heap.size V R := ⟨_, rfl, o5⟩; have hL1 : L ≤ w5.heap.size := Nat.le_trans (Nat.le_of_eq hL) b5.size; have hL2 : w0.heap.size ≤ L := Nat.le_trans HDMW_.out.size (Nat.le_of_eq hL.symm); have zM := box_keep HZMWM_.out b5; have mM := Nat.lt_of_lt_of_le (Array.getElem?_eq_some_iff.1 HZMWM_.out).1 (Nat.le_of_eq hL.symm); have lM := (Array.getElem?_eq_some_iff.1 zM).1; have kM := one_cell zM; have kfM := one_frozen zM; have zW := box_keep HZMWW_.out b5; have mW := Nat.lt_of_lt_of_le (Array.getElem?_eq_some_iff.1 HZMWW_.out).1 (Nat.le_of_eq hL.symm); have lW := (Array.getElem?_eq_some_iff.1 zW).1; obtain ⟨k0, k1, k2, k3⟩ := four_cells zW; obtain ⟨kf0, kf1, kf2, kf3⟩ := oneM zW; obtain ⟨VA, Vk, rfl, Vh⟩ := o5.form; have HO5 := Lib.hid O5; clear o5 b5 hL O5) | (go_at_call 99; (with_reducible refine (HNW.out (mk ((w0.alloc (.cells #[.int .i64 0, .int .i64 0, .int .i64 0, .int .i64 0] 32)).alloc (.cells #[.slice none 0 0] 31)).drew) HDWM_.out _ HRWM_.out).mono ?_); rintro e w5 ⟨V, rfl, o5, b5⟩; have hc5 : Below w0.heap.size w0 w5 := below_step HDWM_.out b5; have q5 := hc5.size; obtain ⟨L, hL, O5⟩ : ∃ L, L = (mk ((w0.alloc (.cells #[.int .i64 0, .int .i64 0, .int .i64 0, .int .i64 0] 32)).alloc (.cells #[.slice none 0 0] 31)).drew).heap.size ∧ OwnM w5 L w5.heap.size V R := ⟨_, rfl, o5⟩; have hL1 : L ≤ w5.heap.size := Nat.le_trans (Nat.le_of_eq hL) b5.size; have hL2 : w0.heap.size ≤ L := Nat.le_trans HDWM_.out.size (Nat.le_of_eq hL.symm); have zW := box_keep HZWMW_.out b5; have mW := Nat.lt_of_lt_of_le (Array.getElem?_eq_some_iff.1 HZWMW_.out).1 (Nat.le_of_eq hL.symm); have lW := (Array.getElem?_eq_some_iff.1 zW).1; obtain ⟨k0, k1, k2, k3⟩ := four_cells zW; obtain ⟨kf0, kf1, kf2, kf3⟩ := oneM zW; have zM := box_keep HZWMM_.out b5; have mM := Nat.lt_of_lt_of_le (Array.getElem?_eq_some_iff.1 HZWMM_.out).1 (Nat.le_of_eq hL.symm); have lM := (Array.getElem?_eq_some_iff.1 zM).1; have kM := one_cell zM; have kfM := one_frozen zM; obtain ⟨VA, Vk, rfl, Vh⟩ := o5.form; have HO5 := Lib.hid O5; clear o5 b5 hL O5))
    all_goals (go_wp2_with fail)
    all_goals go_meet
    all_goals exact ⟨_, L, w5.heap.size, _, _, rfl, MBox.mk' (by first | (with_reducible exact keep_set4 (one_set zM) (by first | omega | (simp; omega))) | (with_reducible exact alloc_old _ (one_set zM)) | (with_reducible exact heap_alloc_at (by first | rfl | (simp; done) | (simp; omega))) | (with_reducible exact alloc_old _ (heap_alloc_at (by first | rfl | (simp; done) | (simp; omega))))) (by (repeat (first | (with_reducible exact HO5.out) | (with_reducible refine own_setC ?_ (by first | omega | (simp; omega))) | (with_reducible refine own_alc ?_)))) (by first | omega | (simp; omega)) (by first | omega | (simp; omega)) (by first | (simp; done) | (simp; omega)) (by first | omega | (simp; omega)) (by first | omega | (simp; omega)), rfl, WBox.mk' (by first | (with_reducible exact four_set (keep_set zW (by first | omega | (simp; omega)))) | (with_reducible exact alloc_old _ (four_set zW)) | (with_reducible exact heap_alloc_at (by first | rfl | (simp; done) | (simp; omega))) | (with_reducible exact alloc_old _ (heap_alloc_at (by first | rfl | (simp; done) | (simp; omega))))) (by first | omega | (simp; omega)), rfl, by (repeat (first | (with_reducible exact Below.refl _ _) | (with_reducible refine Below.drew ?_) | ((with_reducible refine Below.alloc ?_ ?hB _); case hB => (first | (with_reducible exact Nat.le_refl _) | omega | (simp; done) | (simp; omega))) | ((with_reducible refine Below.setCell ?_ ?hB _); case hB => (first | (with_reducible exact Nat.le_refl _) | omega | (simp; done) | (simp; omega))))); (first | done | exact hc5)⟩
  case rest =>
    obtain ⟨g7, lo7, hi7, v7, g8, rfl, hm7, rfl, hw8, rfl, hb6⟩ := hcut
    obtain ⟨w6, hw6⟩ : ∃ w6, w6 = wc := ⟨_, rfl⟩
    subst hw6
    obtain ⟨A7, k7, rfl, hk7⟩ := hm7.own.form
    have HB6 := Lib.hid (HB.out.trans (hb6.mono HB.out.size))
    have HG6 := Lib.hid (HGG.out.below hb6)
    have HM7 := Lib.hid hm7
    have HW8 := Lib.hid hw8
    have hg7 := hm7.bg
    have hlo7 := hm7.blo
    have hhi7 := hm7.hiW
    have hg8 := hw8.bg
    have hs6 := hb6.size
    clear hm7 hw8 hb6 hk7 hrun
    rcases HWC.out with ⟨hno, hval⟩ | ⟨M, n', s', c', L, q, R', hw⟩
    · rw [HAPP.out] at hno
      dsimp only at hno
      subst hno
      have HV := Lib.hid hval
      clear hval
      obtain ⟨r0, r1, r2, r3, r4, r5, r6⟩ := gap_cells HG6.out.res
      obtain ⟨f0, f1, f2, f3, f4, f5, f6⟩ := gap_frozen HG6.out.res
      go_wp2_with fail
      refine bodyPost_ret (v := .tuple #[.agg #[.slice none 0 0, .int .i64 0, .int .i64 0, .int .i64 0, .int .i64 0, .int .i64 0, .int .i64 0], .bool false]) (by simp [results, Try.results39, go_sem, r0, r1, r2, r3, r4, r5, r6]) rfl ⟨_, by rw [HV.out]; rfl, by rw [HV.out]; exact own_none _ _ _, by (repeat (first | (with_reducible exact Below.refl _ _) | (with_reducible refine Below.drew ?_) | ((with_reducible refine Below.alloc ?_ ?hB _); case hB => (first | (with_reducible exact Nat.le_refl _) | omega | (simp; done) | (simp; omega))) | ((with_reducible refine Below.setCell ?_ ?hB _); case hB => (first | (with_reducible exact Nat.le_refl _) | omega | (simp; done) | (simp; omega))))); exact HB6.out⟩
    · have hap := HAPP.out
      rw [hw.app] at hap
      simp only [Prod.mk.injEq] at hap
      obtain ⟨hRM, hxe, hoe⟩ := hap
      have hRM2 := hRM.symm
      clear hRM
      subst hRM2
      subst hxe
      subst hoe
      dsimp only at HW8
      have HWI := Lib.hid hw
      clear hw
      have hwl1 := HWI.out.lc
      have hwsc := HWI.out.sc
      have hn' := HWI.out.hn
      have h64' := (HWI.out.ok.2 _ (List.getElem_mem hn')).2
      have h1m' := (HWI.out.ok.2 _ (List.getElem_mem hn')).1
      have h16' := HWI.out.ok.1
      have hq := HWI.out.hq
      have hL := HWI.out.len
      have HQ := Lib.hid hq
      have HLL := Lib.hid hL
      obtain ⟨gb, g, cap, rfl, hgb, hg1, hg2, hg3, hg4, hrow, hcap1, hcap2, hcells, hfr, hro, hset⟩ := HM7.out.own.row_at hn' h1m'
      have HRO := Lib.hid hro
      have HRW := Lib.hid hrow
      have HSE := Lib.hid hset
      clear hcells hfr hro hrow hset hq hL
      obtain ⟨w9, hw9⟩ : ∃ w9, w6.alloc (.cells #[.slice (some ⟨gb, 0, none⟩) R.length k7, .int .i64 n', .int .i64 s', .int .i64 L, .int .i64 c', .int .i64 a, .int .i64 q] 34) = w9 := ⟨_, rfl⟩
      have hb9 : Below w6.heap.size w6 w9 := by rw [← hw9]; exact (Below.refl _ _).alloc (Nat.le_refl _) _
      have HX9 := Lib.hid (show w9.heap[w6.heap.size]? = some (.cells #[.slice (some ⟨gb, 0, none⟩) R.length k7, .int .i64 n', .int .i64 s', .int .i64 L, .int .i64 c', .int .i64 a, .int .i64 q] 34) by rw [← hw9]; exact heap_alloc_new _ _)
      have HG9 := Lib.hid (HG6.out.below hb9)
      have HB69 := Lib.hid hb9
      have HW9 := Lib.hid hw9
      have hl9 : w6.heap.size < w9.heap.size := (Array.getElem?_eq_some_iff.1 HX9.out).1
      have m0 := HM7.out.cell
      obtain ⟨x0, x1, x2, x3⟩ := HW8.out.cells
      obtain ⟨c0, d0, d1, d2, d3, d4, d5⟩ := gap_cells HG6.out.par
      have hsq : (b : Int) + k = q := by have := HQ.out; omega
      have hwq : IntKind.i64.wrap ((b : Int) + k) = q := by rw [hsq]; exact IntWalk.i64_in _ (by have := HQ.out; have := HLL.out; omega)
      have hwqq : IntKind.i64.wrap (q : Int) = q := IntWalk.i64_in _ (by have := HQ.out; have := HLL.out; omega)
      clear hb9 hw9
      go_upto_region 7 with fail
      rw [HW9.out]
      clear m0 x0 x1 x2 x3 c0 d0 d1 d2 d3 d4 d5 hsq hwq hwqq
      obtain ⟨x0, x1, x2, x3, x4, x5, x6⟩ := gap_cells HX9.out
      have HST := Lib.hid (stored_calls gb 0 k7 R n' s' L c' a q g 0 cap w9 hn' h16' hwl1 hwsc h64' hcap1 hcap2 (by rw [Nat.zero_add]; exact (HB69.out.cell (p := ⟨gb, n', none⟩) hg3).trans HRW.out) (Nat.lt_of_lt_of_le hg3 HB69.out.size))
      go_wp2_with fail
      refine HST.out.mono ?_
      rintro e w10 ⟨⟨ov, rfl, hov⟩, hb10⟩
      have HG10 := Lib.hid (HG9.out.below hb10)
      have HX10 := Lib.hid ((hb10.block _ hl9).trans HX9.out)
      have HB10 := Lib.hid (HB69.out.trans (hb10.mono HB69.out.size))
      have hs10 : w6.heap.size < w10.heap.size := Nat.lt_of_lt_of_le hl9 hb10.size
      have HRO10 := Lib.hid (own_below HRO.out HB10.out)
      have HRD10 := Lib.hid (Rd.of_own HRO10.out)
      clear hb10 x0 x1 x2 x3 x4 x5 x6
      have hszu : (Try.prog.info? 5).map (·.size) = some 1 := by kernel_rfl
      have HLB := Lib.hid (fun (W : World) (h : W.heap[w.heap.size]? = some (.cells #[.slice A m.length cm, .int .i64 n, .int .i64 s, .int .i64 l, .int .i64 c, .int .i64 a, .int .i64 b] 34)) (h' : W.heap[w6.heap.size]? = some (.cells #[.slice (some ⟨gb, 0, none⟩) R.length k7, .int .i64 n', .int .i64 s', .int .i64 L, .int .i64 c', .int .i64 a, .int .i64 q] 34)) => And.intro (gap_cells h) (gap_cells h'))
      have HK10 := Lib.hid (HLB.out w10.drew (block_drew HG10.out.par) (block_drew HX10.out))
      have lp := (Array.getElem?_eq_some_iff.1 HG6.out.res).1
      have i0 : (0 : Int) ≤ (b : Int) := by omega
      have i1 : (0 : Int) ≤ (q : Int) := by omega
      have i2 : (b : Int) ≤ (l : Int) := by omega
      have i3 : (q : Int) ≤ (L : Int) := by have := HQ.out; have := HLL.out; omega
      have i4 : (l : Int) ≤ (c' : Int) := by have := HLL.out; omega
      go_upto_region 8 with fail
      rcases (show b < l ∨ (b = l ∧ c' = q ∧ k = 0) ∨ (b = l ∧ c' = q ∧ b < c') ∨ (b = l ∧ q < c') by have := HQ.out; have := HLL.out; omega) with h1 | ⟨h1, h2, h3⟩ | ⟨h1, h2, h3⟩ | ⟨h1, h2⟩
      · skip
        have hcq : ¬ c' = q := by have := HQ.out; have := HLL.out; omega
        have hcb : ¬ c' = b := by have := HQ.out; have := HLL.out; omega
        have HYL : Hid ((((wb m n s l).drop b) : List Int).length = (l - b)) := Lib.hid (by rw [List.length_drop, wb_len hnl (by omega)])
        have HHN : Hid ((l - b) = Nat.min (l - b) (L - q)) := Lib.hid (by show (l - b) = min (l - b) (L - q); have := HQ.out; have := HLL.out; omega)
        have HFIT := Lib.hid (show s' + q + (((wb m n s l).drop b) : List Int).length ≤ R[n'].length by rw [HYL.out]; have := HQ.out; have := HLL.out; omega)
        have HRES : Hid (R' = R.set n' (over R[n'] (s' + q) ((wb m n s l).drop b))) := Lib.hid (by rw [HWI.out.res])
        have hovs : s' = ov := by rw [hov (by omega), Nat.zero_add]
        subst hovs
        have HHS : Hid (0 < (((wb m n s l).drop b)).length → ∃ ad, (some ⟨g, s' + b, none⟩ : Option Addr) = some ad ∧ ∀ j v, (intV .u8 (((wb m n s l).drop b)))[j]? = some v → w10.drew.cell? (ad.add j) = some v) := Lib.hid (fun _ => ⟨_, rfl, rd_cells (by
          have h := HRD10.out.part (s' + b) (l - b)
          have e : (R[n'].drop (s' + b)).take (l - b) = (wb m n s l).drop b := by
            rw [← HWI.out.seen, wb_eq hn', List.drop_take, List.drop_drop]
          rw [Nat.zero_add, e] at h
          exact h)⟩)
        have hrow10 : Hid (w10.drew.ownsRow lo7 5 1 (.slice (some ⟨g, 0, none⟩) R[n'].length cap) R[n'].length (intV .u8 R[n'])) := Lib.hid HRO10.out
        obtain ⟨⟨c0, d0, d1, d2, d3, d4, d5⟩, x0, x1, x2, x3, x4, x5, x6⟩ := HK10.out
        go_region_held3 (fun W => W.cell? ⟨w.heap.size, 0, none⟩ = some (.slice A m.length cm) ∧ W.cell? ⟨w.heap.size, 1, none⟩ = some (.int .i64 n) ∧ W.cell? ⟨w.heap.size, 2, none⟩ = some (.int .i64 s) ∧ W.cell? ⟨w.heap.size, 3, none⟩ = some (.int .i64 l) ∧ W.cell? ⟨w.heap.size, 4, none⟩ = some (.int .i64 c) ∧ W.cell? ⟨w.heap.size, 5, none⟩ = some (.int .i64 a) ∧ W.cell? ⟨w.heap.size, 6, none⟩ = some (.int .i64 b) ∧ W.cell? ⟨w6.heap.size, 0, none⟩ = some (.slice (some ⟨gb, 0, none⟩) R.length k7) ∧ W.cell? ⟨w6.heap.size, 1, none⟩ = some (.int .i64 n') ∧ W.cell? ⟨w6.heap.size, 2, none⟩ = some (.int .i64 s') ∧ W.cell? ⟨w6.heap.size, 3, none⟩ = some (.int .i64 L) ∧ W.cell? ⟨w6.heap.size, 4, none⟩ = some (.int .i64 c') ∧ W.cell? ⟨w6.heap.size, 5, none⟩ = some (.int .i64 a) ∧ W.cell? ⟨w6.heap.size, 6, none⟩ = some (.int .i64 q))
          (first | (with_reducible exact ⟨c0, d0, d1, d2, d3, d4, d5, x0, x1, x2, x3, x4, x5, x6⟩) | (with_reducible exact ⟨k0, k1, k2, k3, k4, k5, k6, z0, z1, z2, z3, z4, z5, z6⟩))
          (first | (refine step_copy_row0 (by rfl) _ _ 46 46 (by rfl) Try.underlying46 hszu (some ⟨g, s' + q, none⟩) (some ⟨g, s' + b, none⟩) (L - q) (c' - q) (l - b) (c' - b) (by rfl) (by rfl) g lo7 cap R[n'] hrow10.out (s' + q) ((wb m n s l).drop b) (l - b) HYL.out HHN.out (fun _ => rfl) HFIT.out HHS.out ?_; intro w11 hown11 hg11; obtain ⟨⟨k0, k1, k2, k3, k4, k5, k6⟩, z0, z1, z2, z3, z4, z5, z6⟩ := HLB.out w11 (grown_block hg11 (block_drew HG10.out.par) (by omega)) (grown_block hg11 (block_drew HX10.out) (by omega)); have HRS := Lib.hid (grown_block hg11 (block_drew HG10.out.res) (by omega))))
        have HOM : Hid (OwnM w11 lo7 hi7 (.slice (some ⟨gb, 0, none⟩) R.length k7) R') := Lib.hid (by
          rw [HRES.out]
          exact HSE.out w11 _ (over_len HFIT.out) hown11 ((grown_of_below HB10.out.drew (some g)).trans hg11))
        have hRL : R'.length = R.length := by rw [HRES.out, List.length_set]
        have hB10 := HB6.out.trans (HB10.out.mono HB6.out.size)
        have HB11 := Lib.hid (grown_below hB10.drew hB10.size hg11 (by omega))
        obtain ⟨r0, r1, r2, r3, r4, r5, r6⟩ := gap_cells HRS.out
        obtain ⟨f0, f1, f2, f3, f4, f5, f6⟩ := gap_frozen HRS.out
        have hs11 : w6.heap.size ≤ w11.heap.size := Nat.le_trans (Nat.le_of_lt hs10) hg11.size
        have HV := Lib.hid HWI.out.val
        have HRL := Lib.hid hRL
        clear hown11 hg11 hB10 hRL
        go_wp2_with fail
        refine bodyPost_ret (v := .tuple #[.agg #[.slice (some ⟨gb, 0, none⟩) R.length k7, .int .i64 n', .int .i64 s', .int .i64 L, .int .i64 c', .int .i64 a, .int .i64 q], .bool true]) (by simp [results, Try.results39, go_sem, r0, r1, r2, r3, r4, r5, r6]) rfl ⟨_, by rw [HV.out], ?_, by (repeat (first | (with_reducible exact Below.refl _ _) | (with_reducible refine Below.drew ?_) | ((with_reducible refine Below.alloc ?_ ?hB _); case hB => (first | (with_reducible exact Nat.le_refl _) | omega | (simp; done) | (simp; omega))) | ((with_reducible refine Below.setCell ?_ ?hB _); case hB => (first | (with_reducible exact Nat.le_refl _) | omega | (simp; done) | (simp; omega))))); exact HB11.out⟩
        rw [HV.out]
        have hfin := own_seven (g := w.heap.size + 1) (v0 := .slice (some ⟨gb, 0, none⟩) R.length k7) (v1 := .int .i64 n') (v2 := .int .i64 s') (v3 := .int .i64 L) (v4 := .int .i64 c') (v5 := .int .i64 a) (v6 := .int .i64 q) HOM.out (.inl (by omega))
        first | (with_reducible exact own_finG hfin (by rw [size_seven]; omega) (by omega)) | (with_reducible exact own_drewG hfin (by rw [size_seven]; omega) (by omega))
      · skip
        have hbq : b = q := by have := HQ.out; omega
        have hqL : b = L := by have := HQ.out; have := HLL.out; omega
        have hbc : b = c' := by omega
        clear h2
        subst hbq
        subst hqL
        subst hbc
        subst h1
        have HYL : Hid (([] : List Int).length = 0) := Lib.hid (rfl)
        have HHN : Hid (0 = Nat.min 0 0) := Lib.hid (by show 0 = min 0 0; have := HQ.out; have := HLL.out; omega)
        have HFIT := Lib.hid (show s' + b + ([] : List Int).length ≤ R[n'].length by rw [HYL.out]; have := HQ.out; have := HLL.out; omega)
        have HRES : Hid (R' = R.set n' (over R[n'] (s' + b) [])) := Lib.hid (by rw [HWI.out.res]; rw [show (wb m n s b).drop b = [] from List.drop_eq_nil_of_le (by rw [wb_len hnl (by omega)]; omega)])
        have HHS : Hid (0 < ([] : List Int).length → ∃ ad, ((some ⟨g, ov, none⟩) : Option Addr) = some ad ∧ ∀ j v, (intV .u8 ([] : List Int))[j]? = some v → w10.drew.cell? (ad.add j) = some v) := Lib.hid (fun h => absurd h (Nat.lt_irrefl _))
        have hrow10 : Hid (w10.drew.ownsRow lo7 5 1 (.slice (some ⟨g, 0, none⟩) R[n'].length cap) R[n'].length (intV .u8 R[n'])) := Lib.hid HRO10.out
        obtain ⟨⟨c0, d0, d1, d2, d3, d4, d5⟩, x0, x1, x2, x3, x4, x5, x6⟩ := HK10.out
        go_region_held3 (fun W => W.cell? ⟨w.heap.size, 0, none⟩ = some (.slice A m.length cm) ∧ W.cell? ⟨w.heap.size, 1, none⟩ = some (.int .i64 n) ∧ W.cell? ⟨w.heap.size, 2, none⟩ = some (.int .i64 s) ∧ W.cell? ⟨w.heap.size, 3, none⟩ = some (.int .i64 b) ∧ W.cell? ⟨w.heap.size, 4, none⟩ = some (.int .i64 c) ∧ W.cell? ⟨w.heap.size, 5, none⟩ = some (.int .i64 a) ∧ W.cell? ⟨w.heap.size, 6, none⟩ = some (.int .i64 b) ∧ W.cell? ⟨w6.heap.size, 0, none⟩ = some (.slice (some ⟨gb, 0, none⟩) R.length k7) ∧ W.cell? ⟨w6.heap.size, 1, none⟩ = some (.int .i64 n') ∧ W.cell? ⟨w6.heap.size, 2, none⟩ = some (.int .i64 s') ∧ W.cell? ⟨w6.heap.size, 3, none⟩ = some (.int .i64 b) ∧ W.cell? ⟨w6.heap.size, 4, none⟩ = some (.int .i64 b) ∧ W.cell? ⟨w6.heap.size, 5, none⟩ = some (.int .i64 a) ∧ W.cell? ⟨w6.heap.size, 6, none⟩ = some (.int .i64 b))
          (first | (with_reducible exact ⟨c0, d0, d1, d2, d3, d4, d5, x0, x1, x2, x3, x4, x5, x6⟩) | (with_reducible exact ⟨k0, k1, k2, k3, k4, k5, k6, z0, z1, z2, z3, z4, z5, z6⟩))
          (first | (refine step_copy_row0 (by rfl) _ _ 46 46 (by rfl) Try.underlying46 hszu (some ⟨g, ov, none⟩) (some ⟨g, ov, none⟩) 0 0 0 0 (by rfl) (by rfl) g lo7 cap R[n'] hrow10.out (s' + b) [] 0 HYL.out HHN.out (fun h => absurd h (Nat.lt_irrefl _)) HFIT.out HHS.out ?_; intro w11 hown11 hg11; obtain ⟨⟨k0, k1, k2, k3, k4, k5, k6⟩, z0, z1, z2, z3, z4, z5, z6⟩ := HLB.out w11 (grown_block hg11 (block_drew HG10.out.par) (by omega)) (grown_block hg11 (block_drew HX10.out) (by omega)); have HRS := Lib.hid (grown_block hg11 (block_drew HG10.out.res) (by omega))))
        have HOM : Hid (OwnM w11 lo7 hi7 (.slice (some ⟨gb, 0, none⟩) R.length k7) R') := Lib.hid (by
          rw [HRES.out]
          exact HSE.out w11 _ (over_len HFIT.out) hown11 ((grown_of_below HB10.out.drew (some g)).trans hg11))
        have hRL : R'.length = R.length := by rw [HRES.out, List.length_set]
        have hB10 := HB6.out.trans (HB10.out.mono HB6.out.size)
        have HB11 := Lib.hid (grown_below hB10.drew hB10.size hg11 (by omega))
        obtain ⟨r0, r1, r2, r3, r4, r5, r6⟩ := gap_cells HRS.out
        obtain ⟨f0, f1, f2, f3, f4, f5, f6⟩ := gap_frozen HRS.out
        have hs11 : w6.heap.size ≤ w11.heap.size := Nat.le_trans (Nat.le_of_lt hs10) hg11.size
        have HV := Lib.hid HWI.out.val
        have HRL := Lib.hid hRL
        clear hown11 hg11 hB10 hRL
        go_wp2_with fail
        refine bodyPost_ret (v := .tuple #[.agg #[.slice (some ⟨gb, 0, none⟩) R.length k7, .int .i64 n', .int .i64 s', .int .i64 b, .int .i64 b, .int .i64 a, .int .i64 b], .bool true]) (by simp [results, Try.results39, go_sem, r0, r1, r2, r3, r4, r5, r6]) rfl ⟨_, by rw [HV.out], ?_, by (repeat (first | (with_reducible exact Below.refl _ _) | (with_reducible refine Below.drew ?_) | ((with_reducible refine Below.alloc ?_ ?hB _); case hB => (first | (with_reducible exact Nat.le_refl _) | omega | (simp; done) | (simp; omega))) | ((with_reducible refine Below.setCell ?_ ?hB _); case hB => (first | (with_reducible exact Nat.le_refl _) | omega | (simp; done) | (simp; omega))))); exact HB11.out⟩
        rw [HV.out]
        have hfin := own_seven (g := w.heap.size + 1) (v0 := .slice (some ⟨gb, 0, none⟩) R.length k7) (v1 := .int .i64 n') (v2 := .int .i64 s') (v3 := .int .i64 b) (v4 := .int .i64 b) (v5 := .int .i64 a) (v6 := .int .i64 b) HOM.out (.inl (by omega))
        first | (with_reducible exact own_finG hfin (by rw [size_seven]; omega) (by omega)) | (with_reducible exact own_drewG hfin (by rw [size_seven]; omega) (by omega))
      · skip
        have hqL : q = L := by have := HQ.out; have := HLL.out; omega
        subst hqL
        have hqc : q = c' := h2.symm
        clear h2
        subst hqc
        have hcb : ¬ q = b := by omega
        subst h1
        have HYL : Hid (([] : List Int).length = 0) := Lib.hid (rfl)
        have HHN : Hid (0 = Nat.min 0 0) := Lib.hid (by show 0 = min 0 0; have := HQ.out; have := HLL.out; omega)
        have HFIT := Lib.hid (show s' + q + ([] : List Int).length ≤ R[n'].length by rw [HYL.out]; have := HQ.out; have := HLL.out; omega)
        have HRES : Hid (R' = R.set n' (over R[n'] (s' + q) [])) := Lib.hid (by rw [HWI.out.res]; rw [show (wb m n s b).drop b = [] from List.drop_eq_nil_of_le (by rw [wb_len hnl (by omega)]; omega)])
        have HHS : Hid (0 < ([] : List Int).length → ∃ ad, ((some ⟨g, ov + b, none⟩) : Option Addr) = some ad ∧ ∀ j v, (intV .u8 ([] : List Int))[j]? = some v → w10.drew.cell? (ad.add j) = some v) := Lib.hid (fun h => absurd h (Nat.lt_irrefl _))
        have hrow10 : Hid (w10.drew.ownsRow lo7 5 1 (.slice (some ⟨g, 0, none⟩) R[n'].length cap) R[n'].length (intV .u8 R[n'])) := Lib.hid HRO10.out
        obtain ⟨⟨c0, d0, d1, d2, d3, d4, d5⟩, x0, x1, x2, x3, x4, x5, x6⟩ := HK10.out
        go_region_held3 (fun W => W.cell? ⟨w.heap.size, 0, none⟩ = some (.slice A m.length cm) ∧ W.cell? ⟨w.heap.size, 1, none⟩ = some (.int .i64 n) ∧ W.cell? ⟨w.heap.size, 2, none⟩ = some (.int .i64 s) ∧ W.cell? ⟨w.heap.size, 3, none⟩ = some (.int .i64 b) ∧ W.cell? ⟨w.heap.size, 4, none⟩ = some (.int .i64 c) ∧ W.cell? ⟨w.heap.size, 5, none⟩ = some (.int .i64 a) ∧ W.cell? ⟨w.heap.size, 6, none⟩ = some (.int .i64 b) ∧ W.cell? ⟨w6.heap.size, 0, none⟩ = some (.slice (some ⟨gb, 0, none⟩) R.length k7) ∧ W.cell? ⟨w6.heap.size, 1, none⟩ = some (.int .i64 n') ∧ W.cell? ⟨w6.heap.size, 2, none⟩ = some (.int .i64 s') ∧ W.cell? ⟨w6.heap.size, 3, none⟩ = some (.int .i64 q) ∧ W.cell? ⟨w6.heap.size, 4, none⟩ = some (.int .i64 q) ∧ W.cell? ⟨w6.heap.size, 5, none⟩ = some (.int .i64 a) ∧ W.cell? ⟨w6.heap.size, 6, none⟩ = some (.int .i64 q))
          (first | (with_reducible exact ⟨c0, d0, d1, d2, d3, d4, d5, x0, x1, x2, x3, x4, x5, x6⟩) | (with_reducible exact ⟨k0, k1, k2, k3, k4, k5, k6, z0, z1, z2, z3, z4, z5, z6⟩))
          (first | (refine step_copy_row0 (by rfl) _ _ 46 46 (by rfl) Try.underlying46 hszu (some ⟨g, ov, none⟩) (some ⟨g, ov + b, none⟩) 0 0 0 (q - b) (by rfl) (by rfl) g lo7 cap R[n'] hrow10.out (s' + q) [] 0 HYL.out HHN.out (fun h => absurd h (Nat.lt_irrefl _)) HFIT.out HHS.out ?_; intro w11 hown11 hg11; obtain ⟨⟨k0, k1, k2, k3, k4, k5, k6⟩, z0, z1, z2, z3, z4, z5, z6⟩ := HLB.out w11 (grown_block hg11 (block_drew HG10.out.par) (by omega)) (grown_block hg11 (block_drew HX10.out) (by omega)); have HRS := Lib.hid (grown_block hg11 (block_drew HG10.out.res) (by omega))))
        have HOM : Hid (OwnM w11 lo7 hi7 (.slice (some ⟨gb, 0, none⟩) R.length k7) R') := Lib.hid (by
          rw [HRES.out]
          exact HSE.out w11 _ (over_len HFIT.out) hown11 ((grown_of_below HB10.out.drew (some g)).trans hg11))
        have hRL : R'.length = R.length := by rw [HRES.out, List.length_set]
        have hB10 := HB6.out.trans (HB10.out.mono HB6.out.size)
        have HB11 := Lib.hid (grown_below hB10.drew hB10.size hg11 (by omega))
        obtain ⟨r0, r1, r2, r3, r4, r5, r6⟩ := gap_cells HRS.out
        obtain ⟨f0, f1, f2, f3, f4, f5, f6⟩ := gap_frozen HRS.out
        have hs11 : w6.heap.size ≤ w11.heap.size := Nat.le_trans (Nat.le_of_lt hs10) hg11.size
        have HV := Lib.hid HWI.out.val
        have HRL := Lib.hid hRL
        clear hown11 hg11 hB10 hRL
        go_wp2_with fail
        refine bodyPost_ret (v := .tuple #[.agg #[.slice (some ⟨gb, 0, none⟩) R.length k7, .int .i64 n', .int .i64 s', .int .i64 q, .int .i64 q, .int .i64 a, .int .i64 q], .bool true]) (by simp [results, Try.results39, go_sem, r0, r1, r2, r3, r4, r5, r6]) rfl ⟨_, by rw [HV.out], ?_, by (repeat (first | (with_reducible exact Below.refl _ _) | (with_reducible refine Below.drew ?_) | ((with_reducible refine Below.alloc ?_ ?hB _); case hB => (first | (with_reducible exact Nat.le_refl _) | omega | (simp; done) | (simp; omega))) | ((with_reducible refine Below.setCell ?_ ?hB _); case hB => (first | (with_reducible exact Nat.le_refl _) | omega | (simp; done) | (simp; omega))))); exact HB11.out⟩
        rw [HV.out]
        have hfin := own_seven (g := w.heap.size + 1) (v0 := .slice (some ⟨gb, 0, none⟩) R.length k7) (v1 := .int .i64 n') (v2 := .int .i64 s') (v3 := .int .i64 q) (v4 := .int .i64 q) (v5 := .int .i64 a) (v6 := .int .i64 q) HOM.out (.inl (by omega))
        first | (with_reducible exact own_finG hfin (by rw [size_seven]; omega) (by omega)) | (with_reducible exact own_drewG hfin (by rw [size_seven]; omega) (by omega))
      · skip
        have hqL : q = L := by have := HQ.out; have := HLL.out; omega
        subst hqL
        have hcq : ¬ c' = q := by omega
        have hcb : ¬ c' = b := by have := HQ.out; omega
        subst h1
        have HYL : Hid (([] : List Int).length = 0) := Lib.hid (rfl)
        have HHN : Hid (0 = Nat.min 0 0) := Lib.hid (by show 0 = min 0 0; have := HQ.out; have := HLL.out; omega)
        have HFIT := Lib.hid (show s' + q + ([] : List Int).length ≤ R[n'].length by rw [HYL.out]; have := HQ.out; have := HLL.out; omega)
        have HRES : Hid (R' = R.set n' (over R[n'] (s' + q) [])) := Lib.hid (by rw [HWI.out.res]; rw [show (wb m n s b).drop b = [] from List.drop_eq_nil_of_le (by rw [wb_len hnl (by omega)]; omega)])
        have HHS : Hid (0 < ([] : List Int).length → ∃ ad, ((some ⟨g, ov + b, none⟩) : Option Addr) = some ad ∧ ∀ j v, (intV .u8 ([] : List Int))[j]? = some v → w10.drew.cell? (ad.add j) = some v) := Lib.hid (fun h => absurd h (Nat.lt_irrefl _))
        have hrow10 : Hid (w10.drew.ownsRow lo7 5 1 (.slice (some ⟨g, 0, none⟩) R[n'].length cap) R[n'].length (intV .u8 R[n'])) := Lib.hid HRO10.out
        obtain ⟨⟨c0, d0, d1, d2, d3, d4, d5⟩, x0, x1, x2, x3, x4, x5, x6⟩ := HK10.out
        go_region_held3 (fun W => W.cell? ⟨w.heap.size, 0, none⟩ = some (.slice A m.length cm) ∧ W.cell? ⟨w.heap.size, 1, none⟩ = some (.int .i64 n) ∧ W.cell? ⟨w.heap.size, 2, none⟩ = some (.int .i64 s) ∧ W.cell? ⟨w.heap.size, 3, none⟩ = some (.int .i64 b) ∧ W.cell? ⟨w.heap.size, 4, none⟩ = some (.int .i64 c) ∧ W.cell? ⟨w.heap.size, 5, none⟩ = some (.int .i64 a) ∧ W.cell? ⟨w.heap.size, 6, none⟩ = some (.int .i64 b) ∧ W.cell? ⟨w6.heap.size, 0, none⟩ = some (.slice (some ⟨gb, 0, none⟩) R.length k7) ∧ W.cell? ⟨w6.heap.size, 1, none⟩ = some (.int .i64 n') ∧ W.cell? ⟨w6.heap.size, 2, none⟩ = some (.int .i64 s') ∧ W.cell? ⟨w6.heap.size, 3, none⟩ = some (.int .i64 q) ∧ W.cell? ⟨w6.heap.size, 4, none⟩ = some (.int .i64 c') ∧ W.cell? ⟨w6.heap.size, 5, none⟩ = some (.int .i64 a) ∧ W.cell? ⟨w6.heap.size, 6, none⟩ = some (.int .i64 q))
          (first | (with_reducible exact ⟨c0, d0, d1, d2, d3, d4, d5, x0, x1, x2, x3, x4, x5, x6⟩) | (with_reducible exact ⟨k0, k1, k2, k3, k4, k5, k6, z0, z1, z2, z3, z4, z5, z6⟩))
          (first | (refine step_copy_row0 (by rfl) _ _ 46 46 (by rfl) Try.underlying46 hszu (some ⟨g, ov + q, none⟩) (some ⟨g, ov + b, none⟩) 0 (c' - q) 0 (c' - b) (by rfl) (by rfl) g lo7 cap R[n'] hrow10.out (s' + q) [] 0 HYL.out HHN.out (fun h => absurd h (Nat.lt_irrefl _)) HFIT.out HHS.out ?_; intro w11 hown11 hg11; obtain ⟨⟨k0, k1, k2, k3, k4, k5, k6⟩, z0, z1, z2, z3, z4, z5, z6⟩ := HLB.out w11 (grown_block hg11 (block_drew HG10.out.par) (by omega)) (grown_block hg11 (block_drew HX10.out) (by omega)); have HRS := Lib.hid (grown_block hg11 (block_drew HG10.out.res) (by omega))))
        have HOM : Hid (OwnM w11 lo7 hi7 (.slice (some ⟨gb, 0, none⟩) R.length k7) R') := Lib.hid (by
          rw [HRES.out]
          exact HSE.out w11 _ (over_len HFIT.out) hown11 ((grown_of_below HB10.out.drew (some g)).trans hg11))
        have hRL : R'.length = R.length := by rw [HRES.out, List.length_set]
        have hB10 := HB6.out.trans (HB10.out.mono HB6.out.size)
        have HB11 := Lib.hid (grown_below hB10.drew hB10.size hg11 (by omega))
        obtain ⟨r0, r1, r2, r3, r4, r5, r6⟩ := gap_cells HRS.out
        obtain ⟨f0, f1, f2, f3, f4, f5, f6⟩ := gap_frozen HRS.out
        have hs11 : w6.heap.size ≤ w11.heap.size := Nat.le_trans (Nat.le_of_lt hs10) hg11.size
        have HV := Lib.hid HWI.out.val
        have HRL := Lib.hid hRL
        clear hown11 hg11 hB10 hRL
        go_wp2_with fail
        refine bodyPost_ret (v := .tuple #[.agg #[.slice (some ⟨gb, 0, none⟩) R.length k7, .int .i64 n', .int .i64 s', .int .i64 q, .int .i64 c', .int .i64 a, .int .i64 q], .bool true]) (by simp [results, Try.results39, go_sem, r0, r1, r2, r3, r4, r5, r6]) rfl ⟨_, by rw [HV.out], ?_, by (repeat (first | (with_reducible exact Below.refl _ _) | (with_reducible refine Below.drew ?_) | ((with_reducible refine Below.alloc ?_ ?hB _); case hB => (first | (with_reducible exact Nat.le_refl _) | omega | (simp; done) | (simp; omega))) | ((with_reducible refine Below.setCell ?_ ?hB _); case hB => (first | (with_reducible exact Nat.le_refl _) | omega | (simp; done) | (simp; omega))))); exact HB11.out⟩
        rw [HV.out]
        have hfin := own_seven (g := w.heap.size + 1) (v0 := .slice (some ⟨gb, 0, none⟩) R.length k7) (v1 := .int .i64 n') (v2 := .int .i64 s') (v3 := .int .i64 q) (v4 := .int .i64 c') (v5 := .int .i64 a) (v6 := .int .i64 q) HOM.out (.inl (by omega))
        first | (with_reducible exact own_finG hfin (by rw [size_seven]; omega) (by omega)) | (with_reducible exact own_drewG hfin (by rw [size_seven]; omega) (by omega))
end Go.Proofs.Ytkclpppnjfhbpaa
