/-
  openGap, TakeBack, TakeAhead of impl.
-/
import Derived.Test.YtkclpppnjfhbpaaGpO
import Derived.Test.YtkclpppnjfhbpaaCopyM
namespace Go.Proofs.Ytkclpppnjfhbpaa
open Go.RowKit

/-- What openGap answers. -/
def OpenedG (m : List (List Int)) (g : Gp) (lo : Nat) (e : Ending) (w' : World) : Prop :=
  (¬ GpOK m g ∧ e = .returned (.tuple #[.agg #[.slice none 0 0, .int .i64 0, .int .i64 0, .int .i64 0, .int .i64 0, .int .i64 0, .int .i64 0], .bool false])) ∨
  (GpOK m g ∧ ∃ A c, e = .returned (.tuple #[.agg #[.slice A m.length c, .int .i64 g.w.arr, .int .i64 g.w.start, .int .i64 g.w.len, .int .i64 g.w.cap, .int .i64 g.fr, .int .i64 g.up], .bool true]) ∧ OwnM w' lo w'.heap.size (.slice A m.length c) m)

set_option maxRecDepth 100000 in
set_option maxHeartbeats 1600000 in
theorem openGap_calls (A : Option Addr) (cm : Nat) (m : List (List Int)) (g : Gp) (w : World) (hr : Rd2 w w.heap.size A m) (hn : m.length ≤ maxLen) (hx : GArgW g) :
    Calls Try.prog 96 #[.agg #[.slice A m.length cm, .int .i64 g.w.arr, .int .i64 g.w.start, .int .i64 g.w.len, .int .i64 g.w.cap, .int .i64 g.fr, .int .i64 g.up]] w fun e w' => OpenedG m g w.heap.size e w' ∧ Below w.heap.size w w' := by
  obtain ⟨w0, hw0, hb0, hz0, hgg⟩ := enterGG A m.length cm g w
  have HC := Lib.hid (implIsGap_calls A cm m g w0 ((hr.below hb0).more hb0.size) hn hx)
  have HR := Lib.hid hr
  have HB := Lib.hid hb0
  have HW := Lib.hid hw0
  have HGG := Lib.hid hgg
  obtain ⟨c0, d0, d1, d2, d3, d4, d5⟩ := gap_cells hgg.par
  clear hr hb0 hw0 hgg
  go_enter Try.func96, Try.ntmps96
  go_wp2_with fail
  rw [HW.out]
  refine HC.out.mono ?_
  rintro e w2 ⟨rfl, hb2⟩
  have HB2 := Lib.hid (HB.out.trans (hb2.mono HB.out.size))
  have HG2 := Lib.hid (HGG.out.below hb2)
  have hs2 := hb2.size
  clear hb2 c0 d0 d1 d2 d3 d4 d5
  by_cases hok : GpOK m g
  · have hd : decide (GpOK m g) = true := decide_eq_true hok
    have HOK := Lib.hid hok
    have HCM := Lib.hid (copyMemory_calls A cm m w2 ((HR.out.below HB2.out).more HB2.out.size) hok.1.1)
    obtain ⟨c0, d0, d1, d2, d3, d4, d5⟩ := gap_cells HG2.out.par
    clear hok
    go_wp2_with fail
    refine HCM.out.mono ?_
    rintro e w3 ⟨v, rfl, hv, hb3⟩
    obtain ⟨Av, cv, rfl, hcv⟩ := hv.form
    have HG3 := Lib.hid (HG2.out.below hb3)
    have HB3 := Lib.hid (HB2.out.trans (hb3.mono HB2.out.size))
    have HO := Lib.hid hv
    have hs3 := hb3.size
    clear hb3 hv c0 d0 d1 d2 d3 d4 d5
    obtain ⟨c0, d0, d1, d2, d3, d4, d5⟩ := gap_cells HG3.out.par
    obtain ⟨e0, e1, e2, e3, e4, e5, e6⟩ := gap_frozen HG3.out.par
    obtain ⟨r0, r1, r2, r3, r4, r5, r6⟩ := gap_cells HG3.out.res
    obtain ⟨f0, f1, f2, f3, f4, f5, f6⟩ := gap_frozen HG3.out.res
    go_wp2_with fail
    refine bodyPost_ret (v := .tuple #[.agg #[.slice Av m.length cv, .int .i64 g.w.arr, .int .i64 g.w.start, .int .i64 g.w.len, .int .i64 g.w.cap, .int .i64 g.fr, .int .i64 g.up], .bool true]) (by simp [results, Try.results96, go_sem, r0, r1, r2, r3, r4, r5, r6]) rfl ⟨.inr ⟨HOK.out, _, _, rfl, ?_⟩, by (repeat (first | (with_reducible exact Below.refl _ _) | (with_reducible refine Below.drew ?_) | ((with_reducible refine Below.alloc ?_ ?hB _); case hB => (first | (with_reducible exact Nat.le_refl _) | omega | (simp; done) | (simp; omega))) | ((with_reducible refine Below.setCell ?_ ?hB _); case hB => (first | (with_reducible exact Nat.le_refl _) | omega | (simp; done) | (simp; omega))))); exact HB3.out⟩
    rw [size_seven, World.size_setCell]
    exact (own_seven (own_setC HO.out (.inl (by omega))) (.inl (by omega))).mono (by omega) (Nat.le_refl _)
  · have hd : decide (GpOK m g) = false := decide_eq_false hok
    have HOK := Lib.hid hok
    clear hok
    obtain ⟨r0, r1, r2, r3, r4, r5, r6⟩ := gap_cells HG2.out.res
    obtain ⟨f0, f1, f2, f3, f4, f5, f6⟩ := gap_frozen HG2.out.res
    go_wp2_with fail
    refine bodyPost_ret (v := .tuple #[.agg #[.slice none 0 0, .int .i64 0, .int .i64 0, .int .i64 0, .int .i64 0, .int .i64 0, .int .i64 0], .bool false]) (by simp [results, Try.results96, go_sem, r0, r1, r2, r3, r4, r5, r6]) rfl ⟨.inl ⟨HOK.out, rfl⟩, by (repeat (first | (with_reducible exact Below.refl _ _) | (with_reducible refine Below.drew ?_) | ((with_reducible refine Below.alloc ?_ ?hB _); case hB => (first | (with_reducible exact Nat.le_refl _) | omega | (simp; done) | (simp; omega))) | ((with_reducible refine Below.setCell ?_ ?hB _); case hB => (first | (with_reducible exact Nat.le_refl _) | omega | (simp; done) | (simp; omega))))); exact HB2.out⟩

set_option maxRecDepth 100000 in
set_option maxHeartbeats 1600000 in
theorem implTakeBack_calls (A : Option Addr) (cm : Nat) (m : List (List Int)) (g : Gp) (k : Int) (w : World) (hr : Rd2 w w.heap.size A m) (hn : m.length ≤ maxLen) (hx : GArgW g) :
    Calls Try.prog 44 #[.agg #[.slice A m.length cm, .int .i64 g.w.arr, .int .i64 g.w.start, .int .i64 g.w.len, .int .i64 g.w.cap, .int .i64 g.fr, .int .i64 g.up], .int .i64 k] w fun e w' => ∃ v, e = .returned (.tuple #[.agg #[v, .int .i64 (takeBackR m g k).2.1.w.arr, .int .i64 (takeBackR m g k).2.1.w.start, .int .i64 (takeBackR m g k).2.1.w.len, .int .i64 (takeBackR m g k).2.1.w.cap, .int .i64 (takeBackR m g k).2.1.fr, .int .i64 (takeBackR m g k).2.1.up], .bool (takeBackR m g k).2.2]) ∧ OwnM w' w.heap.size w'.heap.size v (takeBackR m g k).1 ∧ Below w.heap.size w w' := by
  obtain ⟨w0, hw0, hb0, hz0, hgg⟩ := enterGG A m.length cm g w
  have HC := Lib.hid (openGap_calls A cm m g w0 ((hr.below hb0).more hb0.size) hn hx)
  have HB := Lib.hid hb0
  have HW := Lib.hid hw0
  have HGG := Lib.hid hgg
  obtain ⟨c0, d0, d1, d2, d3, d4, d5⟩ := gap_cells hgg.par
  clear hr hb0 hw0 hgg
  go_enter Try.func44, Try.ntmps44
  go_wp2_with fail
  rw [HW.out]
  refine HC.out.mono ?_
  rintro e w2 ⟨ho2, hb2⟩
  have HB2 := Lib.hid (HB.out.trans (hb2.mono HB.out.size))
  have HG2 := Lib.hid (HGG.out.below hb2)
  have hs2 := hb2.size
  clear hb2 c0 d0 d1 d2 d3 d4 d5
  rcases ho2 with ⟨hok, rfl⟩ | ⟨hok, Av, cv, rfl, hv⟩
  · have HV : Hid (takeBackR m g k = ([], zeroGp, false)) := Lib.hid (by rw [takeBackR, if_neg (fun h => hok h.1)])
    clear hok
    obtain ⟨w3, hw3⟩ : ∃ w3, w2.alloc (.cells #[.slice none 0 0, .int .i64 0, .int .i64 0, .int .i64 0, .int .i64 0, .int .i64 0, .int .i64 0] 34) = w3 := ⟨_, rfl⟩
    have hb3 : Below w2.heap.size w2 w3 := by rw [← hw3]; exact (Below.refl _ _).alloc (Nat.le_refl _) _
    have HG3 := Lib.hid (HG2.out.below hb3)
    have HB3 := Lib.hid (HB2.out.trans (hb3.mono HB2.out.size))
    have HW3 := Lib.hid hw3
    clear hb3 hw3
    go_upto_region 2 with fail
    rw [HW3.out]
    obtain ⟨r0, r1, r2, r3, r4, r5, r6⟩ := gap_cells HG3.out.res
    obtain ⟨f0, f1, f2, f3, f4, f5, f6⟩ := gap_frozen HG3.out.res
    go_wp2_with fail
    refine bodyPost_ret (v := .tuple #[.agg #[.slice none 0 0, .int .i64 0, .int .i64 0, .int .i64 0, .int .i64 0, .int .i64 0, .int .i64 0], .bool false]) (by simp [results, Try.results44, go_sem, r0, r1, r2, r3, r4, r5, r6]) rfl ⟨_, by rw [HV.out]; rfl, by rw [HV.out]; exact own_none _ _ _, by (repeat (first | (with_reducible exact Below.refl _ _) | (with_reducible refine Below.drew ?_) | ((with_reducible refine Below.alloc ?_ ?hB _); case hB => (first | (with_reducible exact Nat.le_refl _) | omega | (simp; done) | (simp; omega))) | ((with_reducible refine Below.setCell ?_ ?hB _); case hB => (first | (with_reducible exact Nat.le_refl _) | omega | (simp; done) | (simp; omega))))); exact HB3.out⟩
  · obtain ⟨w3, hw3⟩ : ∃ w3, w2.alloc (.cells #[.slice Av m.length cv, .int .i64 g.w.arr, .int .i64 g.w.start, .int .i64 g.w.len, .int .i64 g.w.cap, .int .i64 g.fr, .int .i64 g.up] 34) = w3 := ⟨_, rfl⟩
    have hb3 : Below w2.heap.size w2 w3 := by rw [← hw3]; exact (Below.refl _ _).alloc (Nat.le_refl _) _
    have HX := Lib.hid (show w3.heap[w2.heap.size]? = some (.cells #[.slice Av m.length cv, .int .i64 g.w.arr, .int .i64 g.w.start, .int .i64 g.w.len, .int .i64 g.w.cap, .int .i64 g.fr, .int .i64 g.up] 34) by rw [← hw3]; exact heap_alloc_new _ _)
    have HG3 := Lib.hid (HG2.out.below hb3)
    have HB3 := Lib.hid (HB2.out.trans (hb3.mono HB2.out.size))
    have HO := Lib.hid (hv.below hb3)
    have HW3 := Lib.hid hw3
    have hs3 := hb3.size
    have hl3 : w2.heap.size < w3.heap.size := (Array.getElem?_eq_some_iff.1 HX.out).1
    clear hb3 hw3 hv
    go_upto_region 2 with fail
    rw [HW3.out]
    obtain ⟨c0, d0, d1, d2, d3, d4, d5⟩ := gap_cells HG3.out.par
    obtain ⟨r0, r1, r2, r3, r4, r5, r6⟩ := gap_cells HG3.out.res
    obtain ⟨f0, f1, f2, f3, f4, f5, f6⟩ := gap_frozen HG3.out.res
    by_cases hk0 : 0 ≤ k
    · by_cases hk1 : k ≤ g.fr
      · have HV : Hid (takeBackR m g k = (m, ⟨g.w, g.fr - k, g.up⟩, true)) := Lib.hid (by rw [takeBackR, if_pos ⟨hok, hk0, hk1⟩])
        obtain ⟨_, _, _, _, hl0, hl1, _⟩ := hok.1.small
        obtain ⟨_, h1, h2, h3⟩ := hok
        obtain ⟨t0, t1, t2, t3, t4, t5, t6⟩ := gap_cells HX.out
        obtain ⟨e0, e1, e2, e3, e4, e5, e6⟩ := gap_frozen HX.out
        go_wp2_with fail
        refine bodyPost_ret (v := .tuple #[.agg #[.slice Av m.length cv, .int .i64 g.w.arr, .int .i64 g.w.start, .int .i64 g.w.len, .int .i64 g.w.cap, .int .i64 (g.fr - k), .int .i64 g.up], .bool true]) (by simp [results, Try.results44, go_sem, r0, r1, r2, r3, r4, r5, r6]) rfl ⟨_, by rw [HV.out], ?_, by (repeat (first | (with_reducible exact Below.refl _ _) | (with_reducible refine Below.drew ?_) | ((with_reducible refine Below.alloc ?_ ?hB _); case hB => (first | (with_reducible exact Nat.le_refl _) | omega | (simp; done) | (simp; omega))) | ((with_reducible refine Below.setCell ?_ ?hB _); case hB => (first | (with_reducible exact Nat.le_refl _) | omega | (simp; done) | (simp; omega))))); exact HB3.out⟩
        rw [HV.out, size_seven, World.size_setCell]
        exact (own_seven (own_setC HO.out (.inr (Nat.le_refl _))) (.inl (by omega))).mono (by omega) (by omega)
      · have HV : Hid (takeBackR m g k = ([], zeroGp, false)) := Lib.hid (by rw [takeBackR, if_neg (fun h => hk1 h.2.2)])
        go_wp2_with fail
        refine bodyPost_ret (v := .tuple #[.agg #[.slice none 0 0, .int .i64 0, .int .i64 0, .int .i64 0, .int .i64 0, .int .i64 0, .int .i64 0], .bool false]) (by simp [results, Try.results44, go_sem, r0, r1, r2, r3, r4, r5, r6]) rfl ⟨_, by rw [HV.out]; rfl, by rw [HV.out]; exact own_none _ _ _, by (repeat (first | (with_reducible exact Below.refl _ _) | (with_reducible refine Below.drew ?_) | ((with_reducible refine Below.alloc ?_ ?hB _); case hB => (first | (with_reducible exact Nat.le_refl _) | omega | (simp; done) | (simp; omega))) | ((with_reducible refine Below.setCell ?_ ?hB _); case hB => (first | (with_reducible exact Nat.le_refl _) | omega | (simp; done) | (simp; omega))))); exact HB3.out⟩
    · have HV : Hid (takeBackR m g k = ([], zeroGp, false)) := Lib.hid (by rw [takeBackR, if_neg (fun h => hk0 h.2.1)])
      go_wp2_with fail
      refine bodyPost_ret (v := .tuple #[.agg #[.slice none 0 0, .int .i64 0, .int .i64 0, .int .i64 0, .int .i64 0, .int .i64 0, .int .i64 0], .bool false]) (by simp [results, Try.results44, go_sem, r0, r1, r2, r3, r4, r5, r6]) rfl ⟨_, by rw [HV.out]; rfl, by rw [HV.out]; exact own_none _ _ _, by (repeat (first | (with_reducible exact Below.refl _ _) | (with_reducible refine Below.drew ?_) | ((with_reducible refine Below.alloc ?_ ?hB _); case hB => (first | (with_reducible exact Nat.le_refl _) | omega | (simp; done) | (simp; omega))) | ((with_reducible refine Below.setCell ?_ ?hB _); case hB => (first | (with_reducible exact Nat.le_refl _) | omega | (simp; done) | (simp; omega))))); exact HB3.out⟩
set_option maxRecDepth 100000 in
set_option maxHeartbeats 1600000 in
theorem implTakeAhead_calls (A : Option Addr) (cm : Nat) (m : List (List Int)) (g : Gp) (k : Int) (w : World) (hr : Rd2 w w.heap.size A m) (hn : m.length ≤ maxLen) (hx : GArgW g) :
    Calls Try.prog 46 #[.agg #[.slice A m.length cm, .int .i64 g.w.arr, .int .i64 g.w.start, .int .i64 g.w.len, .int .i64 g.w.cap, .int .i64 g.fr, .int .i64 g.up], .int .i64 k] w fun e w' => ∃ v, e = .returned (.tuple #[.agg #[v, .int .i64 (takeAheadR m g k).2.1.w.arr, .int .i64 (takeAheadR m g k).2.1.w.start, .int .i64 (takeAheadR m g k).2.1.w.len, .int .i64 (takeAheadR m g k).2.1.w.cap, .int .i64 (takeAheadR m g k).2.1.fr, .int .i64 (takeAheadR m g k).2.1.up], .bool (takeAheadR m g k).2.2]) ∧ OwnM w' w.heap.size w'.heap.size v (takeAheadR m g k).1 ∧ Below w.heap.size w w' := by
  obtain ⟨w0, hw0, hb0, hz0, hgg⟩ := enterGG A m.length cm g w
  have HC := Lib.hid (openGap_calls A cm m g w0 ((hr.below hb0).more hb0.size) hn hx)
  have HB := Lib.hid hb0
  have HW := Lib.hid hw0
  have HGG := Lib.hid hgg
  obtain ⟨c0, d0, d1, d2, d3, d4, d5⟩ := gap_cells hgg.par
  clear hr hb0 hw0 hgg
  go_enter Try.func46, Try.ntmps46
  go_wp2_with fail
  rw [HW.out]
  refine HC.out.mono ?_
  rintro e w2 ⟨ho2, hb2⟩
  have HB2 := Lib.hid (HB.out.trans (hb2.mono HB.out.size))
  have HG2 := Lib.hid (HGG.out.below hb2)
  have hs2 := hb2.size
  clear hb2 c0 d0 d1 d2 d3 d4 d5
  rcases ho2 with ⟨hok, rfl⟩ | ⟨hok, Av, cv, rfl, hv⟩
  · have HV : Hid (takeAheadR m g k = ([], zeroGp, false)) := Lib.hid (by rw [takeAheadR, if_neg (fun h => hok h.1)])
    clear hok
    obtain ⟨w3, hw3⟩ : ∃ w3, w2.alloc (.cells #[.slice none 0 0, .int .i64 0, .int .i64 0, .int .i64 0, .int .i64 0, .int .i64 0, .int .i64 0] 34) = w3 := ⟨_, rfl⟩
    have hb3 : Below w2.heap.size w2 w3 := by rw [← hw3]; exact (Below.refl _ _).alloc (Nat.le_refl _) _
    have HG3 := Lib.hid (HG2.out.below hb3)
    have HB3 := Lib.hid (HB2.out.trans (hb3.mono HB2.out.size))
    have HW3 := Lib.hid hw3
    clear hb3 hw3
    go_upto_region 2 with fail
    rw [HW3.out]
    obtain ⟨r0, r1, r2, r3, r4, r5, r6⟩ := gap_cells HG3.out.res
    obtain ⟨f0, f1, f2, f3, f4, f5, f6⟩ := gap_frozen HG3.out.res
    go_wp2_with fail
    refine bodyPost_ret (v := .tuple #[.agg #[.slice none 0 0, .int .i64 0, .int .i64 0, .int .i64 0, .int .i64 0, .int .i64 0, .int .i64 0], .bool false]) (by simp [results, Try.results46, go_sem, r0, r1, r2, r3, r4, r5, r6]) rfl ⟨_, by rw [HV.out]; rfl, by rw [HV.out]; exact own_none _ _ _, by (repeat (first | (with_reducible exact Below.refl _ _) | (with_reducible refine Below.drew ?_) | ((with_reducible refine Below.alloc ?_ ?hB _); case hB => (first | (with_reducible exact Nat.le_refl _) | omega | (simp; done) | (simp; omega))) | ((with_reducible refine Below.setCell ?_ ?hB _); case hB => (first | (with_reducible exact Nat.le_refl _) | omega | (simp; done) | (simp; omega))))); exact HB3.out⟩
  · obtain ⟨w3, hw3⟩ : ∃ w3, w2.alloc (.cells #[.slice Av m.length cv, .int .i64 g.w.arr, .int .i64 g.w.start, .int .i64 g.w.len, .int .i64 g.w.cap, .int .i64 g.fr, .int .i64 g.up] 34) = w3 := ⟨_, rfl⟩
    have hb3 : Below w2.heap.size w2 w3 := by rw [← hw3]; exact (Below.refl _ _).alloc (Nat.le_refl _) _
    have HX := Lib.hid (show w3.heap[w2.heap.size]? = some (.cells #[.slice Av m.length cv, .int .i64 g.w.arr, .int .i64 g.w.start, .int .i64 g.w.len, .int .i64 g.w.cap, .int .i64 g.fr, .int .i64 g.up] 34) by rw [← hw3]; exact heap_alloc_new _ _)
    have HG3 := Lib.hid (HG2.out.below hb3)
    have HB3 := Lib.hid (HB2.out.trans (hb3.mono HB2.out.size))
    have HO := Lib.hid (hv.below hb3)
    have HW3 := Lib.hid hw3
    have hs3 := hb3.size
    have hl3 : w2.heap.size < w3.heap.size := (Array.getElem?_eq_some_iff.1 HX.out).1
    clear hb3 hw3 hv
    go_upto_region 2 with fail
    rw [HW3.out]
    obtain ⟨c0, d0, d1, d2, d3, d4, d5⟩ := gap_cells HG3.out.par
    obtain ⟨r0, r1, r2, r3, r4, r5, r6⟩ := gap_cells HG3.out.res
    obtain ⟨f0, f1, f2, f3, f4, f5, f6⟩ := gap_frozen HG3.out.res
    obtain ⟨_, _, _, _, hl0, hl1, _⟩ := hok.1.small
    have HOK := Lib.hid hok
    obtain ⟨_, h1, h2, h3⟩ := hok
    by_cases hk0 : 0 ≤ k
    · by_cases hk1 : k ≤ g.w.len - g.up
      · have HV : Hid (takeAheadR m g k = (m, ⟨g.w, g.fr, g.up + k⟩, true)) := Lib.hid (by rw [takeAheadR, if_pos ⟨HOK.out, hk0, hk1⟩])
        obtain ⟨t0, t1, t2, t3, t4, t5, t6⟩ := gap_cells HX.out
        obtain ⟨e0, e1, e2, e3, e4, e5, e6⟩ := gap_frozen HX.out
        go_wp2_with fail
        refine bodyPost_ret (v := .tuple #[.agg #[.slice Av m.length cv, .int .i64 g.w.arr, .int .i64 g.w.start, .int .i64 g.w.len, .int .i64 g.w.cap, .int .i64 g.fr, .int .i64 (g.up + k)], .bool true]) (by simp [results, Try.results46, go_sem, r0, r1, r2, r3, r4, r5, r6]) rfl ⟨_, by rw [HV.out], ?_, by (repeat (first | (with_reducible exact Below.refl _ _) | (with_reducible refine Below.drew ?_) | ((with_reducible refine Below.alloc ?_ ?hB _); case hB => (first | (with_reducible exact Nat.le_refl _) | omega | (simp; done) | (simp; omega))) | ((with_reducible refine Below.setCell ?_ ?hB _); case hB => (first | (with_reducible exact Nat.le_refl _) | omega | (simp; done) | (simp; omega))))); exact HB3.out⟩
        rw [HV.out, size_seven, World.size_setCell]
        exact (own_seven (own_setC HO.out (.inr (Nat.le_refl _))) (.inl (by omega))).mono (by omega) (by omega)
      · have HV : Hid (takeAheadR m g k = ([], zeroGp, false)) := Lib.hid (by rw [takeAheadR, if_neg (fun h => hk1 h.2.2)])
        go_wp2_with fail
        refine bodyPost_ret (v := .tuple #[.agg #[.slice none 0 0, .int .i64 0, .int .i64 0, .int .i64 0, .int .i64 0, .int .i64 0, .int .i64 0], .bool false]) (by simp [results, Try.results46, go_sem, r0, r1, r2, r3, r4, r5, r6]) rfl ⟨_, by rw [HV.out]; rfl, by rw [HV.out]; exact own_none _ _ _, by (repeat (first | (with_reducible exact Below.refl _ _) | (with_reducible refine Below.drew ?_) | ((with_reducible refine Below.alloc ?_ ?hB _); case hB => (first | (with_reducible exact Nat.le_refl _) | omega | (simp; done) | (simp; omega))) | ((with_reducible refine Below.setCell ?_ ?hB _); case hB => (first | (with_reducible exact Nat.le_refl _) | omega | (simp; done) | (simp; omega))))); exact HB3.out⟩
    · have HV : Hid (takeAheadR m g k = ([], zeroGp, false)) := Lib.hid (by rw [takeAheadR, if_neg (fun h => hk0 h.2.1)])
      go_wp2_with fail
      refine bodyPost_ret (v := .tuple #[.agg #[.slice none 0 0, .int .i64 0, .int .i64 0, .int .i64 0, .int .i64 0, .int .i64 0, .int .i64 0], .bool false]) (by simp [results, Try.results46, go_sem, r0, r1, r2, r3, r4, r5, r6]) rfl ⟨_, by rw [HV.out]; rfl, by rw [HV.out]; exact own_none _ _ _, by (repeat (first | (with_reducible exact Below.refl _ _) | (with_reducible refine Below.drew ?_) | ((with_reducible refine Below.alloc ?_ ?hB _); case hB => (first | (with_reducible exact Nat.le_refl _) | omega | (simp; done) | (simp; omega))) | ((with_reducible refine Below.setCell ?_ ?hB _); case hB => (first | (with_reducible exact Nat.le_refl _) | omega | (simp; done) | (simp; omega))))); exact HB3.out⟩
end Go.Proofs.Ytkclpppnjfhbpaa
