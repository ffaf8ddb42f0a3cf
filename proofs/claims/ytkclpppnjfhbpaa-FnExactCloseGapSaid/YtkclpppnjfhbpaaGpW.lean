/-
  MoveGap of spec.
-/
import Derived.Test.YtkclpppnjfhbpaaGpV
namespace Go.Proofs.Ytkclpppnjfhbpaa
open Go.RowKit

/-- l6Move at a gap that is valid, as MoveGap's answer says it. -/
theorem move_at {m : List (List Int)} {g : Gp} {p : Int} (hok : GpOK m g) (hp : 0 ≤ p ∧ p ≤ g.w.len - (g.up - g.fr)) (A : Option Addr) (cm : Nat) (w : World) (hr : Rd2 w w.heap.size A m) :
    Calls Try.prog 95 #[.agg #[.slice A m.length cm, .int .i64 g.w.arr, .int .i64 g.w.start, .int .i64 g.w.len, .int .i64 g.w.cap, .int .i64 g.fr, .int .i64 g.up], .int .i64 p] w fun e w' => ∃ v, e = .returned (.tuple #[.agg #[v, .int .i64 (moveGapR m g p).2.1.w.arr, .int .i64 (moveGapR m g p).2.1.w.start, .int .i64 (moveGapR m g p).2.1.w.len, .int .i64 (moveGapR m g p).2.1.w.cap, .int .i64 (moveGapR m g p).2.1.fr, .int .i64 (moveGapR m g p).2.1.up], .int .i64 (moveGapR m g p).2.2.1]) ∧ OwnM w' w.heap.size w'.heap.size v (moveGapR m g p).1 ∧ Below w.heap.size w w' := by
  rw [moveGapR, if_pos ⟨hok, hp⟩]
  obtain ⟨n, s, l, c, a, b, hnl, rfl, hab, hbl, _⟩ := hok.nat
  obtain ⟨k, rfl⟩ := Int.eq_ofNat_of_zero_le hp.1
  have h2 := hp.2
  dsimp only at h2 ⊢
  obtain ⟨q, hq⟩ : ∃ q, k + (b - a) = q := ⟨_, rfl⟩
  have hqi : (k : Int) + ((b : Int) - a) = q := by omega
  rw [hqi]
  simp only [Int.toNat_natCast]
  exact specMove_calls A cm m n s l c a b k q _ w hr hok hq (by omega) rfl

set_option maxRecDepth 100000 in
set_option maxHeartbeats 1600000 in
theorem specMoveGap_calls (A : Option Addr) (cm : Nat) (m : List (List Int)) (g : Gp) (p : Int) (w : World) (hr : Rd2 w w.heap.size A m) (hn : m.length ≤ maxLen) :
    Calls Try.prog 36 #[.agg #[.slice A m.length cm, .int .i64 g.w.arr, .int .i64 g.w.start, .int .i64 g.w.len, .int .i64 g.w.cap, .int .i64 g.fr, .int .i64 g.up], .int .i64 p] w fun e w' => ∃ v, e = .returned (.tuple #[.agg #[v, .int .i64 (moveGapR m g p).2.1.w.arr, .int .i64 (moveGapR m g p).2.1.w.start, .int .i64 (moveGapR m g p).2.1.w.len, .int .i64 (moveGapR m g p).2.1.w.cap, .int .i64 (moveGapR m g p).2.1.fr, .int .i64 (moveGapR m g p).2.1.up], .int .i64 (moveGapR m g p).2.2.1, .bool (moveGapR m g p).2.2.2]) ∧ OwnM w' w.heap.size w'.heap.size v (moveGapR m g p).1 ∧ Below w.heap.size w w' := by
  obtain ⟨w0, hw0, hb0, hz0, hgg⟩ := enterGG A m.length cm g w
  have HC := Lib.hid (specGap_calls A cm m g w0 ((hr.below hb0).more hb0.size) hn)
  have HR := Lib.hid hr
  have HB := Lib.hid hb0
  have HW := Lib.hid hw0
  have HGG := Lib.hid hgg
  obtain ⟨c0, d0, d1, d2, d3, d4, d5⟩ := gap_cells hgg.par
  clear hr hb0 hw0 hgg
  by_cases hok : GpOK m g
  · have HOK := Lib.hid hok
    obtain ⟨_, _, _, _, hl0, hl1, _⟩ := hok.1.small
    obtain ⟨_, h1, h2, h3⟩ := hok
    have HLG := Lib.hid (fun W => specLong_calls A m.length cm g W (by omega) (by omega) (by omega))
    have HIN := Lib.hid (fun W => specIn_calls p 0 (g.w.len - (g.up - g.fr)) W)
    rw [decide_eq_true HOK.out] at HC
    by_cases hp : 0 ≤ p ∧ p ≤ g.w.len - (g.up - g.fr)
    · have HMV := Lib.hid (fun W (hb : Below w.heap.size w W) => move_at HOK.out hp A cm W ((HR.out.below hb).more hb.size))
      have HP := Lib.hid hp
      rw [decide_eq_true hp] at HIN
      have HV : Hid ((moveGapR m g p).2.2.2 = true) := Lib.hid (by rw [moveGapR, if_pos ⟨HOK.out, hp⟩])
      clear hp
      rw [HV.out]
      generalize moveGapR m g p = R at *
      obtain ⟨M, y, C, ok⟩ := R
      dsimp only at *
      go_enter Try.func36, Try.ntmps36
      go_wp2_with fail
      rw [HW.out]
      refine HC.out.mono ?_
      rintro e w2 ⟨rfl, hb2⟩
      have HB2 := Lib.hid (HB.out.trans (hb2.mono HB.out.size))
      have HG2 := Lib.hid (HGG.out.below hb2)
      have hs2 := hb2.size
      clear hb2 c0 d0 d1 d2 d3 d4 d5
      obtain ⟨c0, d0, d1, d2, d3, d4, d5⟩ := gap_cells HG2.out.par
      go_wp2_with fail
      refine (HLG.out w2).mono ?_
      rintro e w3 ⟨rfl, hb3⟩
      have HB3 := Lib.hid (HB2.out.trans (hb3.mono HB2.out.size))
      have HG3 := Lib.hid (HG2.out.below hb3)
      have hs3 := hb3.size
      clear hb3 c0 d0 d1 d2 d3 d4 d5
      obtain ⟨c0, d0, d1, d2, d3, d4, d5⟩ := gap_cells HG3.out.par
      go_wp2_with fail
      refine (HIN.out w3).mono ?_
      rintro e w3' ⟨rfl, rfl⟩
      go_wp2_with fail
      refine (HMV.out w3 HB3.out).mono ?_
      rintro e w4 ⟨v, rfl, hv, hb4⟩
      obtain ⟨Av, cv, rfl, hcv⟩ := hv.form
      obtain ⟨w5, hw5⟩ : ∃ w5, w4.alloc (.cells #[.slice Av M.length cv, .int .i64 y.w.arr, .int .i64 y.w.start, .int .i64 y.w.len, .int .i64 y.w.cap, .int .i64 y.fr, .int .i64 y.up] 34) = w5 := ⟨_, rfl⟩
      have hb5 : Below w4.heap.size w4 w5 := by rw [← hw5]; exact (Below.refl _ _).alloc (Nat.le_refl _) _
      have HX := Lib.hid (show w5.heap[w4.heap.size]? = some (.cells #[.slice Av M.length cv, .int .i64 y.w.arr, .int .i64 y.w.start, .int .i64 y.w.len, .int .i64 y.w.cap, .int .i64 y.fr, .int .i64 y.up] 34) by rw [← hw5]; exact heap_alloc_new _ _)
      have HB5 := Lib.hid ((HB3.out.trans (hb4.mono HB3.out.size)).trans (hb5.mono (Nat.le_trans HB3.out.size hb4.size)))
      have HG5 := Lib.hid ((HG3.out.below hb4).below hb5)
      have HO := Lib.hid (hv.below hb5)
      have HW5 := Lib.hid hw5
      have hs4 := hb4.size
      have hs5 := hb5.size
      clear hb4 hb5 hw5 hv c0 d0 d1 d2 d3 d4 d5
      go_upto_region 4 with fail
      rw [HW5.out]
      obtain ⟨c0, d0, d1, d2, d3, d4, d5⟩ := gap_cells HX.out
      obtain ⟨r0, r1, r2, r3, r4, r5, r6⟩ := gap_cells HG5.out.res
      obtain ⟨f0, f1, f2, f3, f4, f5, f6⟩ := gap_frozen HG5.out.res
      go_wp2_with fail
      refine bodyPost_ret (v := .tuple #[.agg #[.slice Av M.length cv, .int .i64 y.w.arr, .int .i64 y.w.start, .int .i64 y.w.len, .int .i64 y.w.cap, .int .i64 y.fr, .int .i64 y.up], .int .i64 C, .bool true]) (by simp [results, Try.results36, go_sem, r0, r1, r2, r3, r4, r5, r6]) rfl ⟨_, rfl, ?_, by (repeat (first | (with_reducible exact Below.refl _ _) | (with_reducible refine Below.drew ?_) | ((with_reducible refine Below.alloc ?_ ?hB _); case hB => (first | (with_reducible exact Nat.le_refl _) | omega | (simp; done) | (simp; omega))) | ((with_reducible refine Below.setCell ?_ ?hB _); case hB => (first | (with_reducible exact Nat.le_refl _) | omega | (simp; done) | (simp; omega))))); exact HB5.out⟩
      rw [size_seven]
      exact (own_seven HO.out (.inl (by omega))).mono (by omega) (by omega)
    · rw [decide_eq_false hp] at HIN
      have HV : Hid (moveGapR m g p = ([], zeroGp, 0, false)) := Lib.hid (by rw [moveGapR, if_neg (fun h => hp h.2)])
      clear hp
      go_enter Try.func36, Try.ntmps36
      go_wp2_with fail
      rw [HW.out]
      refine HC.out.mono ?_
      rintro e w2 ⟨rfl, hb2⟩
      have HB2 := Lib.hid (HB.out.trans (hb2.mono HB.out.size))
      have HG2 := Lib.hid (HGG.out.below hb2)
      have hs2 := hb2.size
      clear hb2 c0 d0 d1 d2 d3 d4 d5
      obtain ⟨c0, d0, d1, d2, d3, d4, d5⟩ := gap_cells HG2.out.par
      go_wp2_with fail
      refine (HLG.out w2).mono ?_
      rintro e w3 ⟨rfl, hb3⟩
      have HB3 := Lib.hid (HB2.out.trans (hb3.mono HB2.out.size))
      have HG3 := Lib.hid (HG2.out.below hb3)
      clear hb3 c0 d0 d1 d2 d3 d4 d5
      obtain ⟨r0, r1, r2, r3, r4, r5, r6⟩ := gap_cells HG3.out.res
      obtain ⟨f0, f1, f2, f3, f4, f5, f6⟩ := gap_frozen HG3.out.res
      go_wp2_with fail
      refine (HIN.out w3).mono ?_
      rintro e w3' ⟨rfl, rfl⟩
      go_wp2_with fail
      refine bodyPost_ret (v := .tuple #[.agg #[.slice none 0 0, .int .i64 0, .int .i64 0, .int .i64 0, .int .i64 0, .int .i64 0, .int .i64 0], .int .i64 0, .bool false]) (by simp [results, Try.results36, go_sem, r0, r1, r2, r3, r4, r5, r6]) rfl ⟨_, by rw [HV.out]; rfl, by rw [HV.out]; exact own_none _ _ _, by (repeat (first | (with_reducible exact Below.refl _ _) | (with_reducible refine Below.drew ?_) | ((with_reducible refine Below.alloc ?_ ?hB _); case hB => (first | (with_reducible exact Nat.le_refl _) | omega | (simp; done) | (simp; omega))) | ((with_reducible refine Below.setCell ?_ ?hB _); case hB => (first | (with_reducible exact Nat.le_refl _) | omega | (simp; done) | (simp; omega))))); exact HB3.out⟩
  · rw [decide_eq_false hok] at HC
    have HV : Hid (moveGapR m g p = ([], zeroGp, 0, false)) := Lib.hid (by rw [moveGapR, if_neg (fun h => hok h.1)])
    clear hok
    go_enter Try.func36, Try.ntmps36
    go_wp2_with fail
    rw [HW.out]
    refine HC.out.mono ?_
    rintro e w2 ⟨rfl, hb2⟩
    have HB2 := Lib.hid (HB.out.trans (hb2.mono HB.out.size))
    have HG2 := Lib.hid (HGG.out.below hb2)
    clear hb2 c0 d0 d1 d2 d3 d4 d5
    obtain ⟨r0, r1, r2, r3, r4, r5, r6⟩ := gap_cells HG2.out.res
    obtain ⟨f0, f1, f2, f3, f4, f5, f6⟩ := gap_frozen HG2.out.res
    go_wp2_with fail
    refine bodyPost_ret (v := .tuple #[.agg #[.slice none 0 0, .int .i64 0, .int .i64 0, .int .i64 0, .int .i64 0, .int .i64 0, .int .i64 0], .int .i64 0, .bool false]) (by simp [results, Try.results36, go_sem, r0, r1, r2, r3, r4, r5, r6]) rfl ⟨_, by rw [HV.out]; rfl, by rw [HV.out]; exact own_none _ _ _, by (repeat (first | (with_reducible exact Below.refl _ _) | (with_reducible refine Below.drew ?_) | ((with_reducible refine Below.alloc ?_ ?hB _); case hB => (first | (with_reducible exact Nat.le_refl _) | omega | (simp; done) | (simp; omega))) | ((with_reducible refine Below.setCell ?_ ?hB _); case hB => (first | (with_reducible exact Nat.le_refl _) | omega | (simp; done) | (simp; omega))))); exact HB2.out⟩
end Go.Proofs.Ytkclpppnjfhbpaa
