/-
  The hole widened: WidenGap of impl, at every width.
-/
import Derived.Test.YtkclpppnjfhbpaaGpE
namespace Go.Proofs.Ytkclpppnjfhbpaa
open Go.RowKit

set_option maxRecDepth 100000 in
set_option maxHeartbeats 1600000 in
theorem implWidenGap_calls (A : Option Addr) (cm : Nat) (m : List (List Int)) (g : Gp) (k : Int) (w : World) (hr : Rd2 w w.heap.size A m) (hn : m.length ≤ maxLen) (hx : GArgW g) :
    Calls Try.prog 39 #[.agg #[.slice A m.length cm, .int .i64 g.w.arr, .int .i64 g.w.start, .int .i64 g.w.len, .int .i64 g.w.cap, .int .i64 g.fr, .int .i64 g.up], .int .i64 k] w fun e w' => ∃ v, e = .returned (.tuple #[.agg #[v, .int .i64 (widenGapR m g k).2.1.w.arr, .int .i64 (widenGapR m g k).2.1.w.start, .int .i64 (widenGapR m g k).2.1.w.len, .int .i64 (widenGapR m g k).2.1.w.cap, .int .i64 (widenGapR m g k).2.1.fr, .int .i64 (widenGapR m g k).2.1.up], .bool (widenGapR m g k).2.2]) ∧ OwnM w' w.heap.size w'.heap.size v (widenGapR m g k).1 ∧ Below w.heap.size w w' := by
  by_cases hall : GpOK m g ∧ 0 ≤ k ∧ k ≤ 64
  · obtain ⟨hok, hk0, hk1⟩ := hall
    obtain ⟨j, rfl⟩ := Int.eq_ofNat_of_zero_le hk0
    rw [widenGapR, if_pos ⟨hok, hk0⟩, Int.toNat_natCast]
    obtain ⟨n, s, l, c, a, b, hnl, rfl, _⟩ := hok.nat
    exact implWiden_ok A cm m n s l c a b j w hr hn hok hx (by omega)
  · have HV : Hid (widenGapR m g k = ([], zeroGp, false)) := Lib.hid (by
      rw [widenGapR]
      split
      · rename_i h
        rw [widenW, if_neg (fun h2 => hall ⟨h.1, h.2, by omega⟩)]
      · rfl)
    obtain ⟨w0, hw0, hb0, hz0, hgg⟩ := enterGG A m.length cm g w
    have HC := Lib.hid (implIsGap_calls A cm m g w0 ((hr.below hb0).more hb0.size) hn hx)
    have HB := Lib.hid hb0
    have HW := Lib.hid hw0
    have HGG := Lib.hid hgg
    obtain ⟨c0, d0, d1, d2, d3, d4, d5⟩ := gap_cells hgg.par
    have hin : ¬ GpOK m g ∨ k < 0 ∨ (0 ≤ k ∧ 64 < k) := by
      rcases Int.lt_or_le k 0 with h1 | h1
      · exact .inr (.inl h1)
      · rcases Int.lt_or_le 64 k with h2 | h2
        · exact .inr (.inr ⟨h1, h2⟩)
        · exact .inl (fun h => hall ⟨h, h1, h2⟩)
    clear hr hb0 hw0 hgg hz0 hall
    by_cases hok : GpOK m g
    · rw [decide_eq_true hok] at HC
      rcases hin with hin | hin | ⟨hin1, hin2⟩
      · exact absurd hok hin
      · clear hok
        go_enter Try.func39, Try.ntmps39
        go_wp2_with fail
        rw [HW.out]
        refine HC.out.mono ?_
        rintro e w2 ⟨rfl, hb2⟩
        have HB2 := Lib.hid (HB.out.trans (hb2.mono HB.out.size))
        have HG2 := Lib.hid (HGG.out.below hb2)
        clear hb2 c0 d0 d1 d2 d3 d4 d5
        obtain ⟨r0, r1, r2, r3, r4, r5, r6⟩ := gap_cells HG2.out.res
        obtain ⟨f0, f1, f2, f3, f4, f5, f6⟩ := gap_frozen HG2.out.res
        go_wp2_with fail
        refine bodyPost_ret (v := .tuple #[.agg #[.slice none 0 0, .int .i64 0, .int .i64 0, .int .i64 0, .int .i64 0, .int .i64 0, .int .i64 0], .bool false]) (by simp [results, Try.results39, go_sem, r0, r1, r2, r3, r4, r5, r6]) rfl ⟨_, by rw [HV.out]; rfl, by rw [HV.out]; exact own_none _ _ _, by (repeat (first | (with_reducible exact Below.refl _ _) | (with_reducible refine Below.drew ?_) | ((with_reducible refine Below.alloc ?_ ?hB _); case hB => (first | (with_reducible exact Nat.le_refl _) | omega | (simp; done) | (simp; omega))) | ((with_reducible refine Below.setCell ?_ ?hB _); case hB => (first | (with_reducible exact Nat.le_refl _) | omega | (simp; done) | (simp; omega))))); exact HB2.out⟩
      · have hk0 : ¬ k < 0 := by omega
        clear hok
        go_enter Try.func39, Try.ntmps39
        go_wp2_with fail
        rw [HW.out]
        refine HC.out.mono ?_
        rintro e w2 ⟨rfl, hb2⟩
        have HB2 := Lib.hid (HB.out.trans (hb2.mono HB.out.size))
        have HG2 := Lib.hid (HGG.out.below hb2)
        clear hb2 c0 d0 d1 d2 d3 d4 d5
        obtain ⟨r0, r1, r2, r3, r4, r5, r6⟩ := gap_cells HG2.out.res
        obtain ⟨f0, f1, f2, f3, f4, f5, f6⟩ := gap_frozen HG2.out.res
        go_wp2_with fail
        refine bodyPost_ret (v := .tuple #[.agg #[.slice none 0 0, .int .i64 0, .int .i64 0, .int .i64 0, .int .i64 0, .int .i64 0, .int .i64 0], .bool false]) (by simp [results, Try.results39, go_sem, r0, r1, r2, r3, r4, r5, r6]) rfl ⟨_, by rw [HV.out]; rfl, by rw [HV.out]; exact own_none _ _ _, by (repeat (first | (with_reducible exact Below.refl _ _) | (with_reducible refine Below.drew ?_) | ((with_reducible refine Below.alloc ?_ ?hB _); case hB => (first | (with_reducible exact Nat.le_refl _) | omega | (simp; done) | (simp; omega))) | ((with_reducible refine Below.setCell ?_ ?hB _); case hB => (first | (with_reducible exact Nat.le_refl _) | omega | (simp; done) | (simp; omega))))); exact HB2.out⟩
    · rw [decide_eq_false hok] at HC
      clear hok hin
      go_enter Try.func39, Try.ntmps39
      go_wp2_with fail
      rw [HW.out]
      refine HC.out.mono ?_
      rintro e w2 ⟨rfl, hb2⟩
      have HB2 := Lib.hid (HB.out.trans (hb2.mono HB.out.size))
      have HG2 := Lib.hid (HGG.out.below hb2)
      clear hb2 c0 d0 d1 d2 d3 d4 d5
      obtain ⟨r0, r1, r2, r3, r4, r5, r6⟩ := gap_cells HG2.out.res
      obtain ⟨f0, f1, f2, f3, f4, f5, f6⟩ := gap_frozen HG2.out.res
      go_wp2_with fail
      refine bodyPost_ret (v := .tuple #[.agg #[.slice none 0 0, .int .i64 0, .int .i64 0, .int .i64 0, .int .i64 0, .int .i64 0, .int .i64 0], .bool false]) (by simp [results, Try.results39, go_sem, r0, r1, r2, r3, r4, r5, r6]) rfl ⟨_, by rw [HV.out]; rfl, by rw [HV.out]; exact own_none _ _ _, by (repeat (first | (with_reducible exact Below.refl _ _) | (with_reducible refine Below.drew ?_) | ((with_reducible refine Below.alloc ?_ ?hB _); case hB => (first | (with_reducible exact Nat.le_refl _) | omega | (simp; done) | (simp; omega))) | ((with_reducible refine Below.setCell ?_ ?hB _); case hB => (first | (with_reducible exact Nat.le_refl _) | omega | (simp; done) | (simp; omega))))); exact HB2.out⟩
end Go.Proofs.Ytkclpppnjfhbpaa
