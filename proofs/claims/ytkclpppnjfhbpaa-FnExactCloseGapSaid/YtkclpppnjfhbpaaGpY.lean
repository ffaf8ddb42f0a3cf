/-
  MoveGap of impl, whatever comes in.
-/
import Derived.Test.YtkclpppnjfhbpaaGpX
namespace Go.Proofs.Ytkclpppnjfhbpaa
open Go.RowKit

set_option maxRecDepth 100000 in
set_option maxHeartbeats 1600000 in
theorem implMoveGap_calls (A : Option Addr) (cm : Nat) (m : List (List Int)) (g : Gp) (p : Int) (w : World) (hr : Rd2 w w.heap.size A m) (hn : m.length ≤ maxLen) (hx : GArgW g) :
    Calls Try.prog 37 #[.agg #[.slice A m.length cm, .int .i64 g.w.arr, .int .i64 g.w.start, .int .i64 g.w.len, .int .i64 g.w.cap, .int .i64 g.fr, .int .i64 g.up], .int .i64 p] w fun e w' => ∃ v, e = .returned (.tuple #[.agg #[v, .int .i64 (moveGapR m g p).2.1.w.arr, .int .i64 (moveGapR m g p).2.1.w.start, .int .i64 (moveGapR m g p).2.1.w.len, .int .i64 (moveGapR m g p).2.1.w.cap, .int .i64 (moveGapR m g p).2.1.fr, .int .i64 (moveGapR m g p).2.1.up], .int .i64 (moveGapR m g p).2.2.1, .bool (moveGapR m g p).2.2.2]) ∧ OwnM w' w.heap.size w'.heap.size v (moveGapR m g p).1 ∧ Below w.heap.size w w' := by
  by_cases hall : GpOK m g ∧ 0 ≤ p ∧ p ≤ g.w.len - (g.up - g.fr)
  · rw [moveGapR, if_pos hall]
    obtain ⟨hok, hp1, hp2⟩ := hall
    obtain ⟨n, s, l, c, a, b, hnl, rfl, hab, hbl, _⟩ := hok.nat
    obtain ⟨k, rfl⟩ := Int.eq_ofNat_of_zero_le hp1
    dsimp only at hp2 ⊢
    obtain ⟨q, hq⟩ : ∃ q, k + (b - a) = q := ⟨_, rfl⟩
    have hqi : (k : Int) + ((b : Int) - a) = q := by omega
    rw [hqi]
    simp only [Int.toNat_natCast]
    exact implMove_ok A cm m n s l c a b k q _ w hr hok hx hq (by omega) rfl
  · have HV : Hid (moveGapR m g p = ([], zeroGp, 0, false)) := Lib.hid (by rw [moveGapR, if_neg hall])
    obtain ⟨w0, hw0, hb0, hz0, hgg⟩ := enterGG A m.length cm g w
    have HC := Lib.hid (openGap_calls A cm m g w0 ((hr.below hb0).more hb0.size) hn hx)
    have HB := Lib.hid hb0
    have HW := Lib.hid hw0
    have HGG := Lib.hid hgg
    have HALL := Lib.hid hall
    obtain ⟨c0, d0, d1, d2, d3, d4, d5⟩ := gap_cells hgg.par
    clear hr hb0 hw0 hgg hall
    go_enter Try.func37, Try.ntmps37
    go_wp2_with fail
    rw [HW.out]
    refine HC.out.mono ?_
    rintro e w2 ⟨ho2, hb2⟩
    have HB2 := Lib.hid (HB.out.trans (hb2.mono HB.out.size))
    have HG2 := Lib.hid (HGG.out.below hb2)
    have hs2 := hb2.size
    clear hb2 c0 d0 d1 d2 d3 d4 d5
    rcases ho2 with ⟨hok, rfl⟩ | ⟨hok, Av, cv, rfl, hv⟩
    · clear hok
      obtain ⟨w3, hw3⟩ : ∃ w3, w2.alloc (.cells #[.slice none 0 0, .int .i64 0, .int .i64 0, .int .i64 0, .int .i64 0, .int .i64 0, .int .i64 0] 34) = w3 := ⟨_, rfl⟩
      have hb3 : Below w2.heap.size w2 w3 := by rw [← hw3]; exact (Below.refl _ _).alloc (Nat.le_refl _) _
      have HG3 := Lib.hid (HG2.out.below hb3)
      have HB3 := Lib.hid (HB2.out.trans (hb3.mono HB2.out.size))
      have HW3 := Lib.hid hw3
      clear hb3 hw3
      go_upto_region 2 with fail
      rw [HW3.out]
      obtain ⟨r0, r1, r2, r3, r4, r5, r6⟩ := gap_cells HG3.out.res
      obtain ⟨f0, f1, f2, f3, f4, f5, f6⟩ := gap_frozen HG3.out.res
      go_wp2_with fail
      refine bodyPost_ret (v := .tuple #[.agg #[.slice none 0 0, .int .i64 0, .int .i64 0, .int .i64 0, .int .i64 0, .int .i64 0, .int .i64 0], .int .i64 0, .bool false]) (by simp [results, Try.results37, go_sem, r0, r1, r2, r3, r4, r5, r6]) rfl ⟨_, by rw [HV.out]; rfl, by rw [HV.out]; exact own_none _ _ _, by (repeat (first | (with_reducible exact Below.refl _ _) | (with_reducible refine Below.drew ?_) | ((with_reducible refine Below.alloc ?_ ?hB _); case hB => (first | (with_reducible exact Nat.le_refl _) | omega | (simp; done) | (simp; omega))) | ((with_reducible refine Below.setCell ?_ ?hB _); case hB => (first | (with_reducible exact Nat.le_refl _) | omega | (simp; done) | (simp; omega))))); exact HB3.out⟩
    · obtain ⟨w3, hw3⟩ : ∃ w3, w2.alloc (.cells #[.slice Av m.length cv, .int .i64 g.w.arr, .int .i64 g.w.start, .int .i64 g.w.len, .int .i64 g.w.cap, .int .i64 g.fr, .int .i64 g.up] 34) = w3 := ⟨_, rfl⟩
      have hb3 : Below w2.heap.size w2 w3 := by rw [← hw3]; exact (Below.refl _ _).alloc (Nat.le_refl _) _
      have HG3 := Lib.hid (HG2.out.below hb3)
      have HB3 := Lib.hid (HB2.out.trans (hb3.mono HB2.out.size))
      have HW3 := Lib.hid hw3
      clear hb3 hw3 hv
      go_upto_region 2 with fail
      rw [HW3.out]
      obtain ⟨c0, d0, d1, d2, d3, d4, d5⟩ := gap_cells HG3.out.par
      by_cases hp0 : p < 0
      · obtain ⟨r0, r1, r2, r3, r4, r5, r6⟩ := gap_cells HG3.out.res
        obtain ⟨f0, f1, f2, f3, f4, f5, f6⟩ := gap_frozen HG3.out.res
        go_wp2_with fail
        refine bodyPost_ret (v := .tuple #[.agg #[.slice none 0 0, .int .i64 0, .int .i64 0, .int .i64 0, .int .i64 0, .int .i64 0, .int .i64 0], .int .i64 0, .bool false]) (by simp [results, Try.results37, go_sem, r0, r1, r2, r3, r4, r5, r6]) rfl ⟨_, by rw [HV.out]; rfl, by rw [HV.out]; exact own_none _ _ _, by (repeat (first | (with_reducible exact Below.refl _ _) | (with_reducible refine Below.drew ?_) | ((with_reducible refine Below.alloc ?_ ?hB _); case hB => (first | (with_reducible exact Nat.le_refl _) | omega | (simp; done) | (simp; omega))) | ((with_reducible refine Below.setCell ?_ ?hB _); case hB => (first | (with_reducible exact Nat.le_refl _) | omega | (simp; done) | (simp; omega))))); exact HB3.out⟩
      · have hp1 : g.w.len - (g.up - g.fr) < p := by
          have h := HALL.out
          rcases Int.lt_or_le (g.w.len - (g.up - g.fr)) p with h1 | h1
          · exact h1
          · exact absurd ⟨hok, by omega, h1⟩ h
        obtain ⟨_, _, _, _, hl0, hl1, _⟩ := hok.1.small
        obtain ⟨_, h1, h2, h3⟩ := hok
        have HLEN := Lib.hid (length_calls A m.length cm g w3 (by omega) (by omega) (by omega))
        generalize g.w.len - (g.up - g.fr) = L at *
        go_wp2_with fail
        refine HLEN.out.mono ?_
        rintro e w4 ⟨rfl, hb4⟩
        have HG4 := Lib.hid (HG3.out.below hb4)
        have HB4 := Lib.hid (HB3.out.trans (hb4.mono HB3.out.size))
        clear hb4 c0 d0 d1 d2 d3 d4 d5
        obtain ⟨r0, r1, r2, r3, r4, r5, r6⟩ := gap_cells HG4.out.res
        obtain ⟨f0, f1, f2, f3, f4, f5, f6⟩ := gap_frozen HG4.out.res
        go_wp2_with fail
        refine bodyPost_ret (v := .tuple #[.agg #[.slice none 0 0, .int .i64 0, .int .i64 0, .int .i64 0, .int .i64 0, .int .i64 0, .int .i64 0], .int .i64 0, .bool false]) (by simp [results, Try.results37, go_sem, r0, r1, r2, r3, r4, r5, r6]) rfl ⟨_, by rw [HV.out]; rfl, by rw [HV.out]; exact own_none _ _ _, by (repeat (first | (with_reducible exact Below.refl _ _) | (with_reducible refine Below.drew ?_) | ((with_reducible refine Below.alloc ?_ ?hB _); case hB => (first | (with_reducible exact Nat.le_refl _) | omega | (simp; done) | (simp; omega))) | ((with_reducible refine Below.setCell ?_ ?hB _); case hB => (first | (with_reducible exact Nat.le_refl _) | omega | (simp; done) | (simp; omega))))); exact HB4.out⟩
end Go.Proofs.Ytkclpppnjfhbpaa
