/-
  A gap that comes in and one that is answered; l6Hole, TakeBack, TakeAhead of spec.
-/
import Derived.Test.YtkclpppnjfhbpaaGpS
import Derived.Test.YtkclpppnjfhbpaaSpecO
import Derived.Deep.RegionHeld3
namespace Go.Proofs.Ytkclpppnjfhbpaa
open Go.RowKit

/-- Blocks b and b + 1 are a gap that came in, and the answer's, a gap that is zero as yet. -/
structure GG (W : World) (b : Nat) (A : Option Addr) (n c : Nat) (g : Gp) : Prop where
  par : W.heap[b]? = some (.cells #[.slice A n c, .int .i64 g.w.arr, .int .i64 g.w.start, .int .i64 g.w.len, .int .i64 g.w.cap, .int .i64 g.fr, .int .i64 g.up] 34)
  res : W.heap[b + 1]? = some (.cells #[.slice none 0 0, .int .i64 0, .int .i64 0, .int .i64 0, .int .i64 0, .int .i64 0, .int .i64 0] 34)
theorem GG.below {W W' : World} {b : Nat} {A : Option Addr} {n c : Nat} {g : Gp} (h : GG W b A n c g) (hb : Below W.heap.size W W') : GG W' b A n c g :=
  ⟨(hb.block _ (Array.getElem?_eq_some_iff.1 h.par).1).trans h.par, (hb.block _ (Array.getElem?_eq_some_iff.1 h.res).1).trans h.res⟩
theorem enterGG (A : Option Addr) (n c : Nat) (g : Gp) (w : World) :
    ∃ w0, (w.alloc (.cells #[.slice A n c, .int .i64 g.w.arr, .int .i64 g.w.start, .int .i64 g.w.len, .int .i64 g.w.cap, .int .i64 g.fr, .int .i64 g.up] 34)).alloc (.cells #[.slice none 0 0, .int .i64 0, .int .i64 0, .int .i64 0, .int .i64 0, .int .i64 0, .int .i64 0] 34) = w0 ∧ Below w.heap.size w w0 ∧ w0.heap.size = w.heap.size + 2 ∧ GG w0 w.heap.size A n c g := by
  obtain ⟨h1, h2, h3, h4⟩ := enter2 w (.cells #[.slice A n c, .int .i64 g.w.arr, .int .i64 g.w.start, .int .i64 g.w.len, .int .i64 g.w.cap, .int .i64 g.fr, .int .i64 g.up] 34) (.cells #[.slice none 0 0, .int .i64 0, .int .i64 0, .int .i64 0, .int .i64 0, .int .i64 0, .int .i64 0] 34)
  exact ⟨_, rfl, h1, h4, h2, h3⟩

set_option maxRecDepth 100000 in
set_option maxHeartbeats 1600000 in
theorem specHole_calls (A : Option Addr) (cm : Nat) (m : List (List Int)) (g : Gp) (f t : Int) (w : World) (hr : Rd2 w w.heap.size A m) (hok : MemOK m) :
    Calls Try.prog 101 #[.agg #[.slice A m.length cm, .int .i64 g.w.arr, .int .i64 g.w.start, .int .i64 g.w.len, .int .i64 g.w.cap, .int .i64 g.fr, .int .i64 g.up], .int .i64 f, .int .i64 t] w fun e w' => ∃ v, e = .returned (.agg #[v, .int .i64 g.w.arr, .int .i64 g.w.start, .int .i64 g.w.len, .int .i64 g.w.cap, .int .i64 f, .int .i64 t]) ∧ OwnM w' w.heap.size w'.heap.size v m ∧ Below w.heap.size w w' := by
  obtain ⟨w0, hw0, hb0, hz0, hgg⟩ := enterGG A m.length cm g w
  have HC := Lib.hid (specOwn_calls A cm m w0.drew (show Rd2 w0 w0.heap.size A m from (hr.below hb0).more hb0.size) hok)
  have HB := Lib.hid hb0
  have HW := Lib.hid hw0
  have HGG := Lib.hid hgg
  have HL := Lib.hid (fun (W : World) (hb : Below w0.heap.size w0 W) => gap_cells (hgg.below hb).par)
  have HLB := Lib.hid (fun (W : World) (hb : W.heap[w.heap.size]? = some (.cells #[.slice A m.length cm, .int .i64 g.w.arr, .int .i64 g.w.start, .int .i64 g.w.len, .int .i64 g.w.cap, .int .i64 g.fr, .int .i64 g.up] 34)) => gap_cells hb)
  obtain ⟨c0, d0, d1, d2, d3, d4, d5⟩ := HL.out w0.drew (Below.refl _ _).drew
  clear hr hb0 hw0 hgg
  go_enter Try.func101, Try.ntmps101
  go_wp2_with fail
  rw [HW.out]
  go_region_held3 (fun W => W.cell? ⟨w.heap.size, 0, none⟩ = some (.slice A m.length cm) ∧ W.cell? ⟨w.heap.size, 1, none⟩ = some (.int .i64 g.w.arr) ∧ W.cell? ⟨w.heap.size, 2, none⟩ = some (.int .i64 g.w.start) ∧ W.cell? ⟨w.heap.size, 3, none⟩ = some (.int .i64 g.w.len) ∧ W.cell? ⟨w.heap.size, 4, none⟩ = some (.int .i64 g.w.cap) ∧ W.cell? ⟨w.heap.size, 5, none⟩ = some (.int .i64 g.fr) ∧ W.cell? ⟨w.heap.size, 6, none⟩ = some (.int .i64 g.up))
    (first | (with_reducible exact ⟨c0, d0, d1, d2, d3, d4, d5⟩) | (with_reducible exact HL.out _ hc2) | (with_reducible exact HK.out))
    (first | (go_at_call 135; (with_reducible refine HC.out.mono ?_); rintro e w2 ⟨v, rfl, hv, hb2⟩; obtain ⟨Av, cv, rfl, hcv⟩ := hv.form; have hc2 : Below w0.heap.size w0 w2 := (Below.refl _ _).drew.trans hb2; obtain ⟨r0, r1, r2, r3, r4, r5, r6⟩ := gap_cells (HGG.out.below hc2).res; obtain ⟨f0, f1, f2, f3, f4, f5, f6⟩ := gap_frozen (HGG.out.below hc2).res; have HK := Lib.hid (HLB.out _ (gap_keep (q := w.heap.size + 1) (v0 := .slice Av m.length cv) (v1 := .int .i64 g.w.arr) (v2 := .int .i64 g.w.start) (v3 := .int .i64 g.w.len) (v4 := .int .i64 g.w.cap) (v5 := .int .i64 f) (v6 := .int .i64 t) (HGG.out.below hc2).par (by omega)))))
  have HV := Lib.hid (show OwnM w2 w0.heap.size w2.heap.size (.slice Av m.length cv) m from hv)
  have HB2 := Lib.hid (HB.out.trans (hc2.mono HB.out.size))
  have hs := hc2.size
  clear hv hb2 hc2 c0 d0 d1 d2 d3 d4 d5
  go_wp2_with fail
  refine bodyPost_ret (v := .agg #[.slice Av m.length cv, .int .i64 g.w.arr, .int .i64 g.w.start, .int .i64 g.w.len, .int .i64 g.w.cap, .int .i64 f, .int .i64 t]) (by simp [results, Try.results101, go_sem, r0, r1, r2, r3, r4, r5, r6]) rfl ⟨_, rfl, ?_, by (repeat (first | (with_reducible exact Below.refl _ _) | (with_reducible refine Below.drew ?_) | ((with_reducible refine Below.alloc ?_ ?hB _); case hB => (first | (with_reducible exact Nat.le_refl _) | omega | (simp; done) | (simp; omega))) | ((with_reducible refine Below.setCell ?_ ?hB _); case hB => (first | (with_reducible exact Nat.le_refl _) | omega | (simp; done) | (simp; omega))))); exact HB2.out⟩
  rw [size_seven]
  exact (own_seven HV.out (.inl (by omega))).mono (by omega) (Nat.le_refl _)

set_option maxRecDepth 100000 in
set_option maxHeartbeats 1600000 in
theorem specTakeBack_calls (A : Option Addr) (cm : Nat) (m : List (List Int)) (g : Gp) (k : Int) (w : World) (hr : Rd2 w w.heap.size A m) (hn : m.length ≤ maxLen) :
    Calls Try.prog 43 #[.agg #[.slice A m.length cm, .int .i64 g.w.arr, .int .i64 g.w.start, .int .i64 g.w.len, .int .i64 g.w.cap, .int .i64 g.fr, .int .i64 g.up], .int .i64 k] w fun e w' => ∃ v, e = .returned (.tuple #[.agg #[v, .int .i64 (takeBackR m g k).2.1.w.arr, .int .i64 (takeBackR m g k).2.1.w.start, .int .i64 (takeBackR m g k).2.1.w.len, .int .i64 (takeBackR m g k).2.1.w.cap, .int .i64 (takeBackR m g k).2.1.fr, .int .i64 (takeBackR m g k).2.1.up], .bool (takeBackR m g k).2.2]) ∧ OwnM w' w.heap.size w'.heap.size v (takeBackR m g k).1 ∧ Below w.heap.size w w' := by
  obtain ⟨w0, hw0, hb0, hz0, hgg⟩ := enterGG A m.length cm g w
  have HC := Lib.hid (specGap_calls A cm m g w0 ((hr.below hb0).more hb0.size) hn)
  have HR := Lib.hid hr
  have HB := Lib.hid hb0
  have HW := Lib.hid hw0
  have HGG := Lib.hid hgg
  obtain ⟨c0, d0, d1, d2, d3, d4, d5⟩ := gap_cells hgg.par
  clear hr hb0 hw0 hgg
  go_enter Try.func43, Try.ntmps43
  go_wp2_with fail
  rw [HW.out]
  refine HC.out.mono ?_
  rintro e w2 ⟨rfl, hb2⟩
  have HB2 := Lib.hid (HB.out.trans (hb2.mono HB.out.size))
  have HG2 := Lib.hid (HGG.out.below hb2)
  have hs2 := hb2.size
  clear hb2 c0 d0 d1 d2 d3 d4 d5
  obtain ⟨c0, d0, d1, d2, d3, d4, d5⟩ := gap_cells HG2.out.par
  by_cases hok : GpOK m g
  · have hd : decide (GpOK m g) = true := decide_eq_true hok
    have H1 := Lib.hid (specIn_calls k 0 g.fr w2)
    by_cases hk : 0 ≤ k ∧ k ≤ g.fr
    · rw [show decide ((0 : Int) ≤ k ∧ k ≤ g.fr) = true from decide_eq_true hk] at H1
      have HV : Hid (takeBackR m g k = (m, ⟨g.w, g.fr - k, g.up⟩, true)) := Lib.hid (by rw [takeBackR, if_pos ⟨hok, hk⟩])
      have HH := Lib.hid (specHole_calls A cm m g (g.fr - k) g.up w2 ((HR.out.below HB2.out).more HB2.out.size) hok.1.1)
      obtain ⟨_, _, _, _, hl0, hl1, _⟩ := hok.1.small
      obtain ⟨_, h1, h2, h3⟩ := hok
      obtain ⟨hk0, hk1⟩ := hk
      have hw : IntKind.i64.wrap (g.fr - k) = g.fr - k := IntWalk.i64_in _ (by omega)
      go_wp2_with fail
      refine H1.out.mono ?_
      rintro e w3 ⟨rfl, rfl⟩
      go_wp2_with fail
      refine HH.out.mono ?_
      rintro e w3 ⟨v, rfl, hv, hb3⟩
      obtain ⟨Av, cv, rfl, hcv⟩ := hv.form
      have HG3 := Lib.hid (HG2.out.below hb3)
      have HB3 := Lib.hid (HB2.out.trans (hb3.mono HB2.out.size))
      have HO := Lib.hid hv
      have hs3 := hb3.size
      clear hb3 hv c0 d0 d1 d2 d3 d4 d5 hw
      obtain ⟨r0, r1, r2, r3, r4, r5, r6⟩ := gap_cells HG3.out.res
      obtain ⟨f0, f1, f2, f3, f4, f5, f6⟩ := gap_frozen HG3.out.res
      go_wp2_with fail
      refine bodyPost_ret (v := .tuple #[.agg #[.slice Av m.length cv, .int .i64 g.w.arr, .int .i64 g.w.start, .int .i64 g.w.len, .int .i64 g.w.cap, .int .i64 (g.fr - k), .int .i64 g.up], .bool true]) (by simp [results, Try.results43, go_sem, r0, r1, r2, r3, r4, r5, r6]) rfl ⟨_, by rw [HV.out], ?_, by (repeat (first | (with_reducible exact Below.refl _ _) | (with_reducible refine Below.drew ?_) | ((with_reducible refine Below.alloc ?_ ?hB _); case hB => (first | (with_reducible exact Nat.le_refl _) | omega | (simp; done) | (simp; omega))) | ((with_reducible refine Below.setCell ?_ ?hB _); case hB => (first | (with_reducible exact Nat.le_refl _) | omega | (simp; done) | (simp; omega))))); exact HB3.out⟩
      rw [HV.out, size_seven]
      exact (own_seven HO.out (.inl (by omega))).mono (by omega) (Nat.le_refl _)
    · rw [show decide ((0 : Int) ≤ k ∧ k ≤ g.fr) = false from decide_eq_false hk] at H1
      have HV : Hid (takeBackR m g k = ([], zeroGp, false)) := Lib.hid (by rw [takeBackR, if_neg (fun h => hk h.2)])
      clear hk hok
      go_wp2_with fail
      refine H1.out.mono ?_
      rintro e w3 ⟨rfl, rfl⟩
      obtain ⟨r0, r1, r2, r3, r4, r5, r6⟩ := gap_cells HG2.out.res
      obtain ⟨f0, f1, f2, f3, f4, f5, f6⟩ := gap_frozen HG2.out.res
      go_wp2_with fail
      refine bodyPost_ret (v := .tuple #[.agg #[.slice none 0 0, .int .i64 0, .int .i64 0, .int .i64 0, .int .i64 0, .int .i64 0, .int .i64 0], .bool false]) (by simp [results, Try.results43, go_sem, r0, r1, r2, r3, r4, r5, r6]) rfl ⟨_, by rw [HV.out]; rfl, by rw [HV.out]; exact own_none _ _ _, by (repeat (first | (with_reducible exact Below.refl _ _) | (with_reducible refine Below.drew ?_) | ((with_reducible refine Below.alloc ?_ ?hB _); case hB => (first | (with_reducible exact Nat.le_refl _) | omega | (simp; done) | (simp; omega))) | ((with_reducible refine Below.setCell ?_ ?hB _); case hB => (first | (with_reducible exact Nat.le_refl _) | omega | (simp; done) | (simp; omega))))); exact HB2.out⟩
  · have hd : decide (GpOK m g) = false := decide_eq_false hok
    have HV : Hid (takeBackR m g k = ([], zeroGp, false)) := Lib.hid (by rw [takeBackR, if_neg (fun h => hok h.1)])
    clear hok
    obtain ⟨r0, r1, r2, r3, r4, r5, r6⟩ := gap_cells HG2.out.res
    obtain ⟨f0, f1, f2, f3, f4, f5, f6⟩ := gap_frozen HG2.out.res
    go_wp2_with fail
    refine bodyPost_ret (v := .tuple #[.agg #[.slice none 0 0, .int .i64 0, .int .i64 0, .int .i64 0, .int .i64 0, .int .i64 0, .int .i64 0], .bool false]) (by simp [results, Try.results43, go_sem, r0, r1, r2, r3, r4, r5, r6]) rfl ⟨_, by rw [HV.out]; rfl, by rw [HV.out]; exact own_none _ _ _, by (repeat (first | (with_reducible exact Below.refl _ _) | (with_reducible refine Below.drew ?_) | ((with_reducible refine Below.alloc ?_ ?hB _); case hB => (first | (with_reducible exact Nat.le_refl _) | omega | (simp; done) | (simp; omega))) | ((with_reducible refine Below.setCell ?_ ?hB _); case hB => (first | (with_reducible exact Nat.le_refl _) | omega | (simp; done) | (simp; omega))))); exact HB2.out⟩
set_option maxRecDepth 100000 in
set_option maxHeartbeats 1600000 in
theorem specTakeAhead_calls (A : Option Addr) (cm : Nat) (m : List (List Int)) (g : Gp) (k : Int) (w : World) (hr : Rd2 w w.heap.size A m) (hn : m.length ≤ maxLen) :
    Calls Try.prog 45 #[.agg #[.slice A m.length cm, .int .i64 g.w.arr, .int .i64 g.w.start, .int .i64 g.w.len, .int .i64 g.w.cap, .int .i64 g.fr, .int .i64 g.up], .int .i64 k] w fun e w' => ∃ v, e = .returned (.tuple #[.agg #[v, .int .i64 (takeAheadR m g k).2.1.w.arr, .int .i64 (takeAheadR m g k).2.1.w.start, .int .i64 (takeAheadR m g k).2.1.w.len, .int .i64 (takeAheadR m g k).2.1.w.cap, .int .i64 (takeAheadR m g k).2.1.fr, .int .i64 (takeAheadR m g k).2.1.up], .bool (takeAheadR m g k).2.2]) ∧ OwnM w' w.heap.size w'.heap.size v (takeAheadR m g k).1 ∧ Below w.heap.size w w' := by
  obtain ⟨w0, hw0, hb0, hz0, hgg⟩ := enterGG A m.length cm g w
  have HC := Lib.hid (specGap_calls A cm m g w0 ((hr.below hb0).more hb0.size) hn)
  have HR := Lib.hid hr
  have HB := Lib.hid hb0
  have HW := Lib.hid hw0
  have HGG := Lib.hid hgg
  obtain ⟨c0, d0, d1, d2, d3, d4, d5⟩ := gap_cells hgg.par
  clear hr hb0 hw0 hgg
  go_enter Try.func45, Try.ntmps45
  go_wp2_with fail
  rw [HW.out]
  refine HC.out.mono ?_
  rintro e w2 ⟨rfl, hb2⟩
  have HB2 := Lib.hid (HB.out.trans (hb2.mono HB.out.size))
  have HG2 := Lib.hid (HGG.out.below hb2)
  have hs2 := hb2.size
  clear hb2 c0 d0 d1 d2 d3 d4 d5
  obtain ⟨c0, d0, d1, d2, d3, d4, d5⟩ := gap_cells HG2.out.par
  by_cases hok : GpOK m g
  · have hd : decide (GpOK m g) = true := decide_eq_true hok
    obtain ⟨_, _, _, _, hl0, hl1, _⟩ := hok.1.small
    have HOK := Lib.hid hok
    obtain ⟨_, h1, h2, h3⟩ := hok
    have H1 := Lib.hid (specIn_calls k 0 (g.w.len - g.up) w2)
    by_cases hk : 0 ≤ k ∧ k ≤ g.w.len - g.up
    · rw [show decide ((0 : Int) ≤ k ∧ k ≤ g.w.len - g.up) = true from decide_eq_true hk] at H1
      have HV : Hid (takeAheadR m g k = (m, ⟨g.w, g.fr, g.up + k⟩, true)) := Lib.hid (by rw [takeAheadR, if_pos ⟨HOK.out, hk⟩])
      have HH := Lib.hid (specHole_calls A cm m g g.fr (g.up + k) w2 ((HR.out.below HB2.out).more HB2.out.size) HOK.out.1.1)
      obtain ⟨hk0, hk1⟩ := hk
      have hw : IntKind.i64.wrap (g.up + k) = g.up + k := IntWalk.i64_in _ (by omega)
      go_wp2_with fail
      refine H1.out.mono ?_
      rintro e w3 ⟨rfl, rfl⟩
      go_wp2_with fail
      refine HH.out.mono ?_
      rintro e w3 ⟨v, rfl, hv, hb3⟩
      obtain ⟨Av, cv, rfl, hcv⟩ := hv.form
      have HG3 := Lib.hid (HG2.out.below hb3)
      have HB3 := Lib.hid (HB2.out.trans (hb3.mono HB2.out.size))
      have HO := Lib.hid hv
      have hs3 := hb3.size
      clear hb3 hv c0 d0 d1 d2 d3 d4 d5 hw
      obtain ⟨r0, r1, r2, r3, r4, r5, r6⟩ := gap_cells HG3.out.res
      obtain ⟨f0, f1, f2, f3, f4, f5, f6⟩ := gap_frozen HG3.out.res
      go_wp2_with fail
      refine bodyPost_ret (v := .tuple #[.agg #[.slice Av m.length cv, .int .i64 g.w.arr, .int .i64 g.w.start, .int .i64 g.w.len, .int .i64 g.w.cap, .int .i64 g.fr, .int .i64 (g.up + k)], .bool true]) (by simp [results, Try.results45, go_sem, r0, r1, r2, r3, r4, r5, r6]) rfl ⟨_, by rw [HV.out], ?_, by (repeat (first | (with_reducible exact Below.refl _ _) | (with_reducible refine Below.drew ?_) | ((with_reducible refine Below.alloc ?_ ?hB _); case hB => (first | (with_reducible exact Nat.le_refl _) | omega | (simp; done) | (simp; omega))) | ((with_reducible refine Below.setCell ?_ ?hB _); case hB => (first | (with_reducible exact Nat.le_refl _) | omega | (simp; done) | (simp; omega))))); exact HB3.out⟩
      rw [HV.out, size_seven]
      exact (own_seven HO.out (.inl (by omega))).mono (by omega) (Nat.le_refl _)
    · rw [show decide ((0 : Int) ≤ k ∧ k ≤ g.w.len - g.up) = false from decide_eq_false hk] at H1
      have HV : Hid (takeAheadR m g k = ([], zeroGp, false)) := Lib.hid (by rw [takeAheadR, if_neg (fun h => hk h.2)])
      clear hk
      go_wp2_with fail
      refine H1.out.mono ?_
      rintro e w3 ⟨rfl, rfl⟩
      obtain ⟨r0, r1, r2, r3, r4, r5, r6⟩ := gap_cells HG2.out.res
      obtain ⟨f0, f1, f2, f3, f4, f5, f6⟩ := gap_frozen HG2.out.res
      go_wp2_with fail
      refine bodyPost_ret (v := .tuple #[.agg #[.slice none 0 0, .int .i64 0, .int .i64 0, .int .i64 0, .int .i64 0, .int .i64 0, .int .i64 0], .bool false]) (by simp [results, Try.results45, go_sem, r0, r1, r2, r3, r4, r5, r6]) rfl ⟨_, by rw [HV.out]; rfl, by rw [HV.out]; exact own_none _ _ _, by (repeat (first | (with_reducible exact Below.refl _ _) | (with_reducible refine Below.drew ?_) | ((with_reducible refine Below.alloc ?_ ?hB _); case hB => (first | (with_reducible exact Nat.le_refl _) | omega | (simp; done) | (simp; omega))) | ((with_reducible refine Below.setCell ?_ ?hB _); case hB => (first | (with_reducible exact Nat.le_refl _) | omega | (simp; done) | (simp; omega))))); exact HB2.out⟩
  · have hd : decide (GpOK m g) = false := decide_eq_false hok
    have HV : Hid (takeAheadR m g k = ([], zeroGp, false)) := Lib.hid (by rw [takeAheadR, if_neg (fun h => hok h.1)])
    clear hok
    obtain ⟨r0, r1, r2, r3, r4, r5, r6⟩ := gap_cells HG2.out.res
    obtain ⟨f0, f1, f2, f3, f4, f5, f6⟩ := gap_frozen HG2.out.res
    go_wp2_with fail
    refine bodyPost_ret (v := .tuple #[.agg #[.slice none 0 0, .int .i64 0, .int .i64 0, .int .i64 0, .int .i64 0, .int .i64 0, .int .i64 0], .bool false]) (by simp [results, Try.results45, go_sem, r0, r1, r2, r3, r4, r5, r6]) rfl ⟨_, by rw [HV.out]; rfl, by rw [HV.out]; exact own_none _ _ _, by (repeat (first | (with_reducible exact Below.refl _ _) | (with_reducible refine Below.drew ?_) | ((with_reducible refine Below.alloc ?_ ?hB _); case hB => (first | (with_reducible exact Nat.le_refl _) | omega | (simp; done) | (simp; omega))) | ((with_reducible refine Below.setCell ?_ ?hB _); case hB => (first | (with_reducible exact Nat.le_refl _) | omega | (simp; done) | (simp; omega))))); exact HB2.out⟩
end Go.Proofs.Ytkclpppnjfhbpaa
