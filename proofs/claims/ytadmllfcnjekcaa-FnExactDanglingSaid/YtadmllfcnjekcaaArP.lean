/-
  What is not given: l8Free of spec, free of impl; SplitArena of both.
-/
import Derived.Test.YtadmllfcnjekcaaArO
import Derived.Test.YtadmllfcnjekcaaArL
import Derived.Test.YtadmllfcnjekcaaWin3
namespace Go.Proofs.Ytadmllfcnjekcaa
open Go.RowKit

/-- The window of what is not given. -/
def freeW (a : An) : Win := ⟨a.w.arr, a.w.start + a.us, a.w.len - a.us, a.w.cap - a.us⟩
theorem ArOK.nat {m : List (List Int)} {a : An} (h : ArOK m a) : 0 ≤ a.w.start ∧ a.w.start ≤ 64 ∧ 0 ≤ a.w.cap ∧ a.w.cap ≤ 64 ∧ a.w.len ≤ a.w.cap ∧ 0 ≤ a.w.arr ∧ a.w.arr ≤ 16 := by
  obtain ⟨h1, h2, h3, _⟩ := h
  obtain ⟨n, s, l, c, e, hn, h4, h5, h6, h7, h8⟩ := h1.nat
  rw [e]
  dsimp only at *
  omega
set_option maxRecDepth 100000 in
set_option maxHeartbeats 1600000 in
theorem specFree_calls (A B : Option Addr) (cm d : Nat) (m : List (List Int)) (g : An) (w : World) (hok : ArOK m g) :
    Calls Try.prog 108 #[.agg #[.slice A m.length cm, .int .i64 g.w.arr, .int .i64 g.w.start, .int .i64 g.w.len, .int .i64 g.w.cap, .int .i64 g.us, .slice B g.ms.length d]] w fun e w' => e = .returned (.agg #[.int .i64 (freeW g).arr, .int .i64 (freeW g).start, .int .i64 (freeW g).len, .int .i64 (freeW g).cap]) ∧ Below w.heap.size w w' := by
  obtain ⟨b0, b1, b2, b3, b4⟩ := hok.bounds
  obtain ⟨n0, n1, n2, n3, n4, n5, n6⟩ := hok.nat
  obtain ⟨hb0, g1, g2, hz⟩ := enter2 w (.cells #[.slice A m.length cm, .int .i64 g.w.arr, .int .i64 g.w.start, .int .i64 g.w.len, .int .i64 g.w.cap, .int .i64 g.us, .slice B g.ms.length d] 35) (.cells #[.int .i64 0, .int .i64 0, .int .i64 0, .int .i64 0] 33)
  obtain ⟨w0, hw0⟩ : ∃ w0, (w.alloc (.cells #[.slice A m.length cm, .int .i64 g.w.arr, .int .i64 g.w.start, .int .i64 g.w.len, .int .i64 g.w.cap, .int .i64 g.us, .slice B g.ms.length d] 35)).alloc (.cells #[.int .i64 0, .int .i64 0, .int .i64 0, .int .i64 0] 33) = w0 := ⟨_, rfl⟩
  rw [hw0] at hb0 g1 g2 hz
  have HS := Lib.hid (specSlice_calls g.w.arr g.w.start g.w.len g.w.cap g.us g.w.len g.w.cap w0 ⟨by omega, by omega⟩ ⟨by omega, by omega⟩ ⟨by omega, by omega⟩ ⟨by omega, by omega⟩)
  have HB := Lib.hid hb0
  have HW := Lib.hid hw0
  have HG := Lib.hid g2
  obtain ⟨c0, d0, d1, d2, d3, d4, d5⟩ := ar_cells g1
  clear hb0 hw0 g1 g2 hz hok b0 b1 b2 b3 b4 n0 n1 n2 n3 n4 n5 n6
  go_enter Try.func108, Try.ntmps108
  go_wp2_with fail
  rw [HW.out]
  refine HS.out.mono ?_
  rintro e w2 ⟨rfl, hb2⟩
  have HB2 := Lib.hid (HB.out.trans (hb2.mono HB.out.size))
  have HG2 := Lib.hid ((hb2.block _ (Array.getElem?_eq_some_iff.1 HG.out).1).trans HG.out)
  clear hb2 c0 d0 d1 d2 d3 d4 d5
  obtain ⟨r0, r1, r2, r3⟩ := four_cells HG2.out
  obtain ⟨f0, f1, f2, f3⟩ := four_frozen HG2.out
  go_wp2_with fail
  refine bodyPost_ret (v := .agg #[.int .i64 g.w.arr, .int .i64 (g.w.start + g.us), .int .i64 (g.w.len - g.us), .int .i64 (g.w.cap - g.us)]) (by simp [results, Try.results108, go_sem, r0, r1, r2, r3]) rfl ⟨rfl, by (repeat (first | (with_reducible exact Below.refl _ _) | (with_reducible refine Below.drew ?_) | ((with_reducible refine Below.alloc ?_ ?hB _); case hB => (first | (with_reducible exact Nat.le_refl _) | omega | (simp; done) | (simp; omega))) | ((with_reducible refine Below.setCell ?_ ?hB _); case hB => (first | (with_reducible exact Nat.le_refl _) | omega | (simp; done) | (simp; omega))))); exact HB2.out⟩

theorem sliceV_free {m : List (List Int)} {g : An} (h : ArOK m g) : sliceV m g.w g.us g.w.len g.w.cap = .tuple #[.agg #[.int .i64 (freeW g).arr, .int .i64 (freeW g).start, .int .i64 (freeW g).len, .int .i64 (freeW g).cap], .bool true] := by
  have := h.nat
  rw [sliceV, if_pos ⟨h.1, h.2.1, h.2.2.1, by omega, Int.le_refl _⟩]
  rfl
theorem sliceV_given {m : List (List Int)} {g : An} (h : ArOK m g) : sliceV m g.w 0 g.us g.us = .tuple #[.agg #[.int .i64 g.w.arr, .int .i64 (g.w.start + 0), .int .i64 (g.us - 0), .int .i64 (g.us - 0)], .bool true] := by
  have := h.nat
  have := h.bounds
  rw [sliceV, if_pos ⟨h.1, Int.le_refl _, h.2.1, Int.le_refl _, by omega⟩]

set_option maxRecDepth 100000 in
set_option maxHeartbeats 3200000 in
/-- free: of the arena in block q. -/
theorem freeIn_calls (q : Nat) (A B : Option Addr) (cm d : Nat) (m : List (List Int)) (g : An) (w : World) (hq : w.heap[q]? = some (.cells #[.slice A m.length cm, .int .i64 g.w.arr, .int .i64 g.w.start, .int .i64 g.w.len, .int .i64 g.w.cap, .int .i64 g.us, .slice B g.ms.length d] 35)) (hr : Rd2 w w.heap.size A m) (hn : m.length ≤ maxLen) (hx : WArg g.w) (hok : ArOK m g) :
    Calls Try.prog 110 #[.pointer (some ⟨q, 0, none⟩)] w fun e w' => e = .returned (.agg #[.int .i64 (freeW g).arr, .int .i64 (freeW g).start, .int .i64 (freeW g).len, .int .i64 (freeW g).cap]) ∧ Below w.heap.size w w' := by
  obtain ⟨w0, hw0⟩ : ∃ w0, w.alloc (.cells #[.int .i64 0, .int .i64 0, .int .i64 0, .int .i64 0] 33) = w0 := ⟨_, rfl⟩
  have hb0 : Below w.heap.size w w0 := by rw [← hw0]; exact (Below.refl _ _).alloc (Nat.le_refl _) _
  have hg0 : w0.heap[w.heap.size]? = some (.cells #[.int .i64 0, .int .i64 0, .int .i64 0, .int .i64 0] 33) := by rw [← hw0]; exact heap_alloc_new _ _
  have HC : Hid (∀ W, Below w0.heap.size w0 W → Calls Try.prog 133 #[.agg #[.slice A m.length cm], .agg #[.int .i64 g.w.arr, .int .i64 g.w.start, .int .i64 g.w.len, .int .i64 g.w.cap], .int .i64 g.us, .int .i64 g.w.len] W fun e w' => e = .returned (.tuple #[.agg #[.int .i64 (freeW g).arr, .int .i64 (freeW g).start, .int .i64 (freeW g).len, .int .i64 (freeW g).cap], .bool true]) ∧ Below W.heap.size W w') := Lib.hid fun W hb => by
    have h := implSliceTwo_calls A cm m g.w g.us g.w.len W ((hr.below (hb0.trans (hb.mono hb0.size))).more (Nat.le_trans hb0.size hb.size)) hn hx
    rw [sliceV_free hok] at h
    exact h
  have hq0 := (hb0.block _ (Array.getElem?_eq_some_iff.1 hq).1).trans hq
  have HQ := Lib.hid (fun (W : World) (hb : Below w0.heap.size w0 W) => ar_cells ((hb.block _ (Array.getElem?_eq_some_iff.1 hq0).1).trans hq0))
  have HB := Lib.hid hb0
  have HW := Lib.hid hw0
  have HG := Lib.hid hg0
  have hc0 : Below w0.heap.size w0 w0.drew := (Below.refl _ _).drew
  have hs0 := hc0.size
  obtain ⟨c0, d0, d1, d2, d3, d4, d5⟩ := HQ.out w0.drew hc0
  generalize freeW g = x at *
  clear hr hb0 hw0 hg0 hq0 hq hok
  go_enter Try.func110, Try.ntmps110
  go_upto_region 1 with fail
  rw [HW.out]
  go_cut [3] (fun s3 wx => ∃ q3, s3 = .pointer (some ⟨q3, 0, none⟩) ∧ WBox wx w0.heap.size q3 x.arr x.start x.len x.cap ∧ Below w0.heap.size w0 wx)
  case first =>
    go_region_held3 (fun W => W.cell? ⟨q, 0, none⟩ = some (.slice A m.length cm) ∧ W.cell? ⟨q, 1, none⟩ = some (.int .i64 g.w.arr) ∧ W.cell? ⟨q, 2, none⟩ = some (.int .i64 g.w.start) ∧ W.cell? ⟨q, 3, none⟩ = some (.int .i64 g.w.len) ∧ W.cell? ⟨q, 4, none⟩ = some (.int .i64 g.w.cap) ∧ W.cell? ⟨q, 5, none⟩ = some (.int .i64 g.us) ∧ W.cell? ⟨q, 6, none⟩ = some (.slice B g.ms.length d))
      (first | (with_reducible exact ⟨c0, d0, d1, d2, d3, d4, d5⟩) | exact HQ.out _ (by (repeat (first | (with_reducible exact Below.refl _ _) | (with_reducible refine Below.drew ?_) | ((with_reducible refine Below.alloc ?_ ?hB _); case hB => (first | (with_reducible exact Nat.le_refl _) | omega | (simp; done) | (simp; omega))) | ((with_reducible refine Below.setCell ?_ ?hB _); case hB => (first | (with_reducible exact Nat.le_refl _) | omega | (simp; done) | (simp; omega))))); (first | done | exact hc3)) | exact HQ.out _ (by (repeat (first | (with_reducible exact Below.refl _ _) | (with_reducible refine Below.drew ?_) | ((with_reducible refine Below.alloc ?_ ?hB _); case hB => (first | (with_reducible exact Nat.le_refl _) | omega | (simp; done) | (simp; omega))) | ((with_reducible refine Below.setCell ?_ ?hB _); case hB => (first | (with_reducible exact Nat.le_refl _) | omega | (simp; done) | (simp; omega))))); (first | done | exact hc0)) | fail)
      (first | (go_at_call 133; refine (HC.out _ (by (repeat (first | (with_reducible exact Below.refl _ _) | (with_reducible refine Below.drew ?_) | ((with_reducible refine Below.alloc ?_ ?hB _); case hB => (first | (with_reducible exact Nat.le_refl _) | omega | (simp; done) | (simp; omega))) | ((with_reducible refine Below.setCell ?_ ?hB _); case hB => (first | (with_reducible exact Nat.le_refl _) | omega | (simp; done) | (simp; omega))))); (first | done | exact hc0))).mono ?_; rintro e w3 ⟨rfl, hb3⟩; have hc3 : Below w0.heap.size w0 w3 := below_step (by (repeat (first | (with_reducible exact Below.refl _ _) | (with_reducible refine Below.drew ?_) | ((with_reducible refine Below.alloc ?_ ?hB _); case hB => (first | (with_reducible exact Nat.le_refl _) | omega | (simp; done) | (simp; omega))) | ((with_reducible refine Below.setCell ?_ ?hB _); case hB => (first | (with_reducible exact Nat.le_refl _) | omega | (simp; done) | (simp; omega))))); (first | done | exact hc0)) hb3; have hs3 := hc3.size; (first | (with_reducible have hz := Lib.hid (show w3.heap[w0.heap.size]? = some (.cells #[.int .i64 0, .int .i64 0, .int .i64 0, .int .i64 0] 33) from box_new_d hb3)) | skip); (try (have hX := four_cells hz.out; obtain ⟨k0, k1, k2, k3⟩ := hX)); (try (have hY := four_frozen hz.out; obtain ⟨e0, e1, e2, e3⟩ := hY))))
    all_goals (go_wp2_with fail)
    all_goals go_meet
    all_goals (first | (have hzz := hz.out; exact ⟨w0.heap.size, rfl, WBox.mk' (by with_reducible exact four_set hzz) (by omega), by (repeat (first | (with_reducible exact Below.refl _ _) | (with_reducible refine Below.drew ?_) | ((with_reducible refine Below.alloc ?_ ?hB _); case hB => (first | (with_reducible exact Nat.le_refl _) | omega | (simp; done) | (simp; omega))) | ((with_reducible refine Below.setCell ?_ ?hB _); case hB => (first | (with_reducible exact Nat.le_refl _) | omega | (simp; done) | (simp; omega))))); (first | done | exact hc3)⟩) | exact ⟨w3.heap.size, rfl, WBox.mk' (by with_reducible exact heap_alloc_new _ _) hc3.size, by (repeat (first | (with_reducible exact Below.refl _ _) | (with_reducible refine Below.drew ?_) | ((with_reducible refine Below.alloc ?_ ?hB _); case hB => (first | (with_reducible exact Nat.le_refl _) | omega | (simp; done) | (simp; omega))) | ((with_reducible refine Below.setCell ?_ ?hB _); case hB => (first | (with_reducible exact Nat.le_refl _) | omega | (simp; done) | (simp; omega))))); (first | done | exact hc3)⟩)
  case rest =>
    obtain ⟨q3, rfl, hx3, hb3⟩ := hcut
    have HX := Lib.hid hx3
    have HB3 := Lib.hid (HB.out.trans (hb3.mono HB.out.size))
    have HG3 := Lib.hid ((hb3.block _ (Array.getElem?_eq_some_iff.1 HG.out).1).trans HG.out)
    obtain ⟨k0, k1, k2, k3⟩ := hx3.cells
    obtain ⟨r0, r1, r2, r3⟩ := four_cells HG3.out
    obtain ⟨f0, f1, f2, f3⟩ := four_frozen HG3.out
    clear hx3 hb3 c0 d0 d1 d2 d3 d4 d5
    go_wp2_with fail
    refine bodyPost_ret (v := .agg #[.int .i64 x.arr, .int .i64 x.start, .int .i64 x.len, .int .i64 x.cap]) (by simp [results, Try.results110, go_sem, r0, r1, r2, r3]) rfl ⟨rfl, by (repeat (first | (with_reducible exact Below.refl _ _) | (with_reducible refine Below.drew ?_) | ((with_reducible refine Below.alloc ?_ ?hB _); case hB => (first | (with_reducible exact Nat.le_refl _) | omega | (simp; done) | (simp; omega))) | ((with_reducible refine Below.setCell ?_ ?hB _); case hB => (first | (with_reducible exact Nat.le_refl _) | omega | (simp; done) | (simp; omega))))); exact HB3.out⟩
end Go.Proofs.Ytadmllfcnjekcaa
