/-
  Steps of rings, as impl has them: slot, isFull, pushedBack, pushedFront, poppedFront, poppedBack.
-/
import Derived.Test.YtlioamjmkaaooaaRgI
import Derived.Deep.DeepCutAuto
namespace Go.Proofs.Ytlioamjmkaaooaa
open Go.RowKit

theorem ring_cell4 {wx : World} {q : Nat} {u0 u1 u2 u3 u4 u5 v : Value} {t : TypeId} (h : wx.heap[q]? = some (.cells #[u0, u1, u2, u3, u4, u5] t)) : (wx.setCell ⟨q, 4, none⟩ v).heap[q]? = some (.cells #[u0, u1, u2, u3, v, u5] t) := by simpa using ring_put (i := 4) (v := v) h
theorem ring_cell5 {wx : World} {q : Nat} {u0 u1 u2 u3 u4 u5 v : Value} {t : TypeId} (h : wx.heap[q]? = some (.cells #[u0, u1, u2, u3, u4, u5] t)) : (wx.setCell ⟨q, 5, none⟩ v).heap[q]? = some (.cells #[u0, u1, u2, u3, u4, v] t) := by simpa using ring_put (i := 5) (v := v) h
set_option maxRecDepth 100000 in
theorem implSlot_calls (r : Rg) (i : Int) (w : World) (h0 : 0 ≤ i ∧ i ≤ 1000) (h1 : 0 ≤ r.first ∧ r.first ≤ 1000) (h2 : 0 < r.w.len ∧ r.w.len ≤ 1000) :
    Calls Try.prog 100 #[.agg #[.int .i64 r.w.arr, .int .i64 r.w.start, .int .i64 r.w.len, .int .i64 r.w.cap, .int .i64 r.first, .int .i64 r.many], .int .i64 i] w fun e w' => e = .returned (.int .i64 (slotR r i)) ∧ Below w.heap.size w w' := by
  obtain ⟨h01, h02⟩ := h0
  obtain ⟨h11, h12⟩ := h1
  obtain ⟨h21, h22⟩ := h2
  have hne : r.w.len ≠ 0 := by omega
  go_enter Try.func100, Try.ntmps100
  go_wp2_with fail
  go_ret
  exact ⟨rfl, by (repeat (first | (with_reducible exact Below.refl _ _) | (with_reducible refine Below.drew ?_) | ((with_reducible refine Below.alloc ?_ ?hB _); case hB => (first | (with_reducible exact Nat.le_refl _) | omega | (simp; done) | (simp; omega))) | ((with_reducible refine Below.setCell ?_ ?hB _); case hB => (first | (with_reducible exact Nat.le_refl _) | omega | (simp; done) | (simp; omega)))))⟩
set_option maxRecDepth 100000 in
theorem isFull_calls (r : Rg) (w : World) :
    Calls Try.prog 96 #[.agg #[.int .i64 r.w.arr, .int .i64 r.w.start, .int .i64 r.w.len, .int .i64 r.w.cap, .int .i64 r.first, .int .i64 r.many]] w fun e w' => e = .returned (.bool (decide (r.many = r.w.len))) ∧ Below w.heap.size w w' := by
  go_enter Try.func96, Try.ntmps96
  go_wp2_with fail
  go_ret
  exact ⟨ret_bool (by rw [Bool.eq_iff_iff]; simp), by (repeat (first | (with_reducible exact Below.refl _ _) | (with_reducible refine Below.drew ?_) | ((with_reducible refine Below.alloc ?_ ?hB _); case hB => (first | (with_reducible exact Nat.le_refl _) | omega | (simp; done) | (simp; omega))) | ((with_reducible refine Below.setCell ?_ ?hB _); case hB => (first | (with_reducible exact Nat.le_refl _) | omega | (simp; done) | (simp; omega)))))⟩

set_option maxRecDepth 100000 in
set_option maxHeartbeats 1600000 in
theorem pushedBack_calls (m : List (List Int)) (r : Rg) (w : World) (hok : RgOK m r) :
    Calls Try.prog 71 #[.agg #[.int .i64 r.w.arr, .int .i64 r.w.start, .int .i64 r.w.len, .int .i64 r.w.cap, .int .i64 r.first, .int .i64 r.many]] w fun e w' => e = .returned (.tuple #[.agg #[.int .i64 r.w.arr, .int .i64 r.w.start, .int .i64 r.w.len, .int .i64 r.w.cap, .int .i64 r.first, .int .i64 (r.many + 1)], .int .i64 (slotR r (r.many))]) ∧ Below w.heap.size w w' := by
  obtain ⟨_, _, _, _, hl0, hl1, _⟩ := hok.1.small
  have HOK := Lib.hid hok
  obtain ⟨_, h1, h2, h3, h4, h5⟩ := hok
  obtain ⟨hb, g1, g2, gz⟩ := enter2 w (.cells #[.int .i64 r.w.arr, .int .i64 r.w.start, .int .i64 r.w.len, .int .i64 r.w.cap, .int .i64 r.first, .int .i64 r.many] 36) (.cells #[.int .i64 0, .int .i64 0, .int .i64 0, .int .i64 0, .int .i64 0, .int .i64 0] 36)
  obtain ⟨w0, hw0⟩ : ∃ w0, (w.alloc (.cells #[.int .i64 r.w.arr, .int .i64 r.w.start, .int .i64 r.w.len, .int .i64 r.w.cap, .int .i64 r.first, .int .i64 r.many] 36)).alloc (.cells #[.int .i64 0, .int .i64 0, .int .i64 0, .int .i64 0, .int .i64 0, .int .i64 0] 36) = w0 := ⟨_, rfl⟩
  rw [hw0] at hb g1 g2 gz
  have HB := Lib.hid hb
  have HW := Lib.hid hw0
  have HG := Lib.hid (And.intro g1 g2)
  obtain ⟨a0, a1, a2, a3, a4, a5⟩ := ring_cells g1
  obtain ⟨b0, b1, b2, b3, b4, b5⟩ := ring_frozen g1
  clear hb hw0 g1 g2
  have hw1 : IntKind.i64.wrap (r.many + 1 - 1) = r.many := by simp [IntKind.wrap, IntKind.bits, IntKind.signed]; omega
  have g1 := ring_cell5 (v := .int .i64 ((r.many + 1))) HG.out.1
  have g2 := one_other (i := 5) (u := .int .i64 ((r.many + 1))) HG.out.2 (show w.heap.size + 1 ≠ w.heap.size by omega)
  have hbb := HB.out.setCell (p := ⟨w.heap.size, 5, none⟩) (Nat.le_refl _) (.int .i64 ((r.many + 1)))
  have hsz : (w0.setCell ⟨w.heap.size, 5, none⟩ (.int .i64 ((r.many + 1)))).heap.size = w0.heap.size := World.size_setCell _ _ _
  obtain ⟨w1, hw1'⟩ : ∃ w1, w0.setCell ⟨w.heap.size, 5, none⟩ (.int .i64 ((r.many + 1))) = w1 := ⟨_, rfl⟩
  rw [hw1'] at g1 g2 hbb hsz
  have HW1 := Lib.hid hw1'
  have HB1 := Lib.hid hbb
  have HG1 := Lib.hid g1
  have HG2 := Lib.hid g2
  clear g1 g2 hbb hw1'
  have hw2 : IntKind.i64.wrap r.many = r.many := by simp [IntKind.wrap, IntKind.bits, IntKind.signed]; omega
  have HC := Lib.hid (fun W => implSlot_calls ⟨r.w, r.first, (r.many + 1)⟩ (r.many) W (by omega) (by dsimp only; omega) (by dsimp only; omega))
  rw [show slotR ⟨r.w, r.first, (r.many + 1)⟩ (r.many) = slotR r (r.many) from rfl] at HC
  have HK : Hid (∀ W, Below w1.heap.size w1 W → W.cell? ⟨w.heap.size, 0, none⟩ = some (.int .i64 r.w.arr) ∧ W.cell? ⟨w.heap.size, 1, none⟩ = some (.int .i64 r.w.start) ∧ W.cell? ⟨w.heap.size, 2, none⟩ = some (.int .i64 r.w.len) ∧ W.cell? ⟨w.heap.size, 3, none⟩ = some (.int .i64 r.w.cap) ∧ W.cell? ⟨w.heap.size, 4, none⟩ = some (.int .i64 r.first) ∧ W.cell? ⟨w.heap.size, 5, none⟩ = some (.int .i64 (r.many + 1))) := Lib.hid fun W h => ring_cells ((h.block _ (Array.getElem?_eq_some_iff.1 HG1.out).1).trans HG1.out)
  have HL : Hid (∀ W : World, W.heap[w.heap.size]? = some (.cells #[.int .i64 r.w.arr, .int .i64 r.w.start, .int .i64 r.w.len, .int .i64 r.w.cap, .int .i64 r.first, .int .i64 ((r.many + 1))] 36) → W.cell? ⟨w.heap.size, 0, none⟩ = some (.int .i64 r.w.arr) ∧ W.cell? ⟨w.heap.size, 1, none⟩ = some (.int .i64 r.w.start) ∧ W.cell? ⟨w.heap.size, 2, none⟩ = some (.int .i64 r.w.len) ∧ W.cell? ⟨w.heap.size, 3, none⟩ = some (.int .i64 r.w.cap) ∧ W.cell? ⟨w.heap.size, 4, none⟩ = some (.int .i64 r.first) ∧ W.cell? ⟨w.heap.size, 5, none⟩ = some (.int .i64 (r.many + 1))) := Lib.hid fun W h => ring_cells h
  have HL2 : Hid (∀ W, Below w1.heap.size w1 W → W.heap[w.heap.size]? = some (.cells #[.int .i64 r.w.arr, .int .i64 r.w.start, .int .i64 r.w.len, .int .i64 r.w.cap, .int .i64 r.first, .int .i64 ((r.many + 1))] 36)) := Lib.hid fun W h => (h.block _ (Array.getElem?_eq_some_iff.1 HG1.out).1).trans HG1.out
  have HZ : Hid (∀ W, Below w1.heap.size w1 W → W.heap[w.heap.size + 1]? = some (.cells #[.int .i64 0, .int .i64 0, .int .i64 0, .int .i64 0, .int .i64 0, .int .i64 0] 36)) := Lib.hid fun W h => (h.block _ (Array.getElem?_eq_some_iff.1 HG2.out).1).trans HG2.out
  generalize slotR r (r.many) = q at *
  go_enter Try.func71, Try.ntmps71
  go_upto_region 1 with fail
  rw [HW.out]
  go_wp2_with fail
  rw [HW1.out]
  clear a0 a1 a2 a3 a4 a5 b0 b1 b2 b3 b4 b5
  obtain ⟨a0, a1, a2, a3, a4, a5⟩ := HK.out w1.drew (Below.refl _ _).drew
  go_region_held3 (fun W => W.cell? ⟨w.heap.size, 0, none⟩ = some (.int .i64 r.w.arr) ∧ W.cell? ⟨w.heap.size, 1, none⟩ = some (.int .i64 r.w.start) ∧ W.cell? ⟨w.heap.size, 2, none⟩ = some (.int .i64 r.w.len) ∧ W.cell? ⟨w.heap.size, 3, none⟩ = some (.int .i64 r.w.cap) ∧ W.cell? ⟨w.heap.size, 4, none⟩ = some (.int .i64 r.first) ∧ W.cell? ⟨w.heap.size, 5, none⟩ = some (.int .i64 (r.many + 1)))
    (first | (with_reducible exact ⟨a0, a1, a2, a3, a4, a5⟩) | (with_reducible exact HK.out _ hc2) | exact HL.out _ (ring_keep (HL2.out _ hc2) (by omega)))
    (first | (go_at_call 100; (with_reducible refine (HC.out w1.drew).mono ?_); rintro e w2 ⟨rfl, hb2⟩; have hc2 : Below w1.heap.size w1 w2 := (Below.refl _ _).drew.trans hb2; obtain ⟨z0, z1, z2, z3, z4, z5⟩ := ring_cells (HZ.out _ hc2); obtain ⟨f0, f1, f2, f3, f4, f5⟩ := ring_frozen (HZ.out _ hc2)))
  go_wp2_with fail
  refine bodyPost_ret (v := .tuple #[.agg #[.int .i64 r.w.arr, .int .i64 r.w.start, .int .i64 r.w.len, .int .i64 r.w.cap, .int .i64 r.first, .int .i64 (r.many + 1)], .int .i64 q]) (by simp [results, Try.results71, go_sem, z0, z1, z2, z3, z4, z5]) rfl ⟨rfl, ?_⟩
  (repeat (first | (with_reducible exact Below.refl _ _) | (with_reducible refine Below.drew ?_) | ((with_reducible refine Below.alloc ?_ ?hB _); case hB => (first | (with_reducible exact Nat.le_refl _) | omega | (simp; done) | (simp; omega))) | ((with_reducible refine Below.setCell ?_ ?hB _); case hB => (first | (with_reducible exact Nat.le_refl _) | omega | (simp; done) | (simp; omega)))))
  exact HB1.out.trans (hc2.mono HB1.out.size)

set_option maxRecDepth 100000 in
set_option maxHeartbeats 1600000 in
theorem poppedBack_calls (m : List (List Int)) (r : Rg) (w : World) (hok : RgOK m r) (hz : 0 < r.many) :
    Calls Try.prog 80 #[.agg #[.int .i64 r.w.arr, .int .i64 r.w.start, .int .i64 r.w.len, .int .i64 r.w.cap, .int .i64 r.first, .int .i64 r.many]] w fun e w' => e = .returned (.tuple #[.agg #[.int .i64 r.w.arr, .int .i64 r.w.start, .int .i64 r.w.len, .int .i64 r.w.cap, .int .i64 r.first, .int .i64 (r.many - 1)], .int .i64 (slotR r (r.many - 1))]) ∧ Below w.heap.size w w' := by
  obtain ⟨_, _, _, _, hl0, hl1, _⟩ := hok.1.small
  have HOK := Lib.hid hok
  obtain ⟨_, h1, h2, h3, h4, h5⟩ := hok
  obtain ⟨hb, g1, g2, gz⟩ := enter2 w (.cells #[.int .i64 r.w.arr, .int .i64 r.w.start, .int .i64 r.w.len, .int .i64 r.w.cap, .int .i64 r.first, .int .i64 r.many] 36) (.cells #[.int .i64 0, .int .i64 0, .int .i64 0, .int .i64 0, .int .i64 0, .int .i64 0] 36)
  obtain ⟨w0, hw0⟩ : ∃ w0, (w.alloc (.cells #[.int .i64 r.w.arr, .int .i64 r.w.start, .int .i64 r.w.len, .int .i64 r.w.cap, .int .i64 r.first, .int .i64 r.many] 36)).alloc (.cells #[.int .i64 0, .int .i64 0, .int .i64 0, .int .i64 0, .int .i64 0, .int .i64 0] 36) = w0 := ⟨_, rfl⟩
  rw [hw0] at hb g1 g2 gz
  have HB := Lib.hid hb
  have HW := Lib.hid hw0
  have HG := Lib.hid (And.intro g1 g2)
  obtain ⟨a0, a1, a2, a3, a4, a5⟩ := ring_cells g1
  obtain ⟨b0, b1, b2, b3, b4, b5⟩ := ring_frozen g1
  clear hb hw0 g1 g2
  have hw1 : IntKind.i64.wrap (r.many - 1) = r.many - 1 := by simp [IntKind.wrap, IntKind.bits, IntKind.signed]; omega
  have g1 := ring_cell5 (v := .int .i64 ((r.many - 1))) HG.out.1
  have g2 := one_other (i := 5) (u := .int .i64 ((r.many - 1))) HG.out.2 (show w.heap.size + 1 ≠ w.heap.size by omega)
  have hbb := HB.out.setCell (p := ⟨w.heap.size, 5, none⟩) (Nat.le_refl _) (.int .i64 ((r.many - 1)))
  have hsz : (w0.setCell ⟨w.heap.size, 5, none⟩ (.int .i64 ((r.many - 1)))).heap.size = w0.heap.size := World.size_setCell _ _ _
  obtain ⟨w1, hw1'⟩ : ∃ w1, w0.setCell ⟨w.heap.size, 5, none⟩ (.int .i64 ((r.many - 1))) = w1 := ⟨_, rfl⟩
  rw [hw1'] at g1 g2 hbb hsz
  have HW1 := Lib.hid hw1'
  have HB1 := Lib.hid hbb
  have HG1 := Lib.hid g1
  have HG2 := Lib.hid g2
  clear g1 g2 hbb hw1'
  have HC := Lib.hid (fun W => implSlot_calls ⟨r.w, r.first, (r.many - 1)⟩ (r.many - 1) W (by omega) (by dsimp only; omega) (by dsimp only; omega))
  rw [show slotR ⟨r.w, r.first, (r.many - 1)⟩ (r.many - 1) = slotR r (r.many - 1) from rfl] at HC
  have HK : Hid (∀ W, Below w1.heap.size w1 W → W.cell? ⟨w.heap.size, 0, none⟩ = some (.int .i64 r.w.arr) ∧ W.cell? ⟨w.heap.size, 1, none⟩ = some (.int .i64 r.w.start) ∧ W.cell? ⟨w.heap.size, 2, none⟩ = some (.int .i64 r.w.len) ∧ W.cell? ⟨w.heap.size, 3, none⟩ = some (.int .i64 r.w.cap) ∧ W.cell? ⟨w.heap.size, 4, none⟩ = some (.int .i64 r.first) ∧ W.cell? ⟨w.heap.size, 5, none⟩ = some (.int .i64 (r.many - 1))) := Lib.hid fun W h => ring_cells ((h.block _ (Array.getElem?_eq_some_iff.1 HG1.out).1).trans HG1.out)
  have HL : Hid (∀ W : World, W.heap[w.heap.size]? = some (.cells #[.int .i64 r.w.arr, .int .i64 r.w.start, .int .i64 r.w.len, .int .i64 r.w.cap, .int .i64 r.first, .int .i64 ((r.many - 1))] 36) → W.cell? ⟨w.heap.size, 0, none⟩ = some (.int .i64 r.w.arr) ∧ W.cell? ⟨w.heap.size, 1, none⟩ = some (.int .i64 r.w.start) ∧ W.cell? ⟨w.heap.size, 2, none⟩ = some (.int .i64 r.w.len) ∧ W.cell? ⟨w.heap.size, 3, none⟩ = some (.int .i64 r.w.cap) ∧ W.cell? ⟨w.heap.size, 4, none⟩ = some (.int .i64 r.first) ∧ W.cell? ⟨w.heap.size, 5, none⟩ = some (.int .i64 (r.many - 1))) := Lib.hid fun W h => ring_cells h
  have HL2 : Hid (∀ W, Below w1.heap.size w1 W → W.heap[w.heap.size]? = some (.cells #[.int .i64 r.w.arr, .int .i64 r.w.start, .int .i64 r.w.len, .int .i64 r.w.cap, .int .i64 r.first, .int .i64 ((r.many - 1))] 36)) := Lib.hid fun W h => (h.block _ (Array.getElem?_eq_some_iff.1 HG1.out).1).trans HG1.out
  have HZ : Hid (∀ W, Below w1.heap.size w1 W → W.heap[w.heap.size + 1]? = some (.cells #[.int .i64 0, .int .i64 0, .int .i64 0, .int .i64 0, .int .i64 0, .int .i64 0] 36)) := Lib.hid fun W h => (h.block _ (Array.getElem?_eq_some_iff.1 HG2.out).1).trans HG2.out
  generalize slotR r (r.many - 1) = q at *
  go_enter Try.func80, Try.ntmps80
  go_upto_region 1 with fail
  rw [HW.out]
  go_wp2_with fail
  rw [HW1.out]
  clear a0 a1 a2 a3 a4 a5 b0 b1 b2 b3 b4 b5
  obtain ⟨a0, a1, a2, a3, a4, a5⟩ := HK.out w1.drew (Below.refl _ _).drew
  go_region_held3 (fun W => W.cell? ⟨w.heap.size, 0, none⟩ = some (.int .i64 r.w.arr) ∧ W.cell? ⟨w.heap.size, 1, none⟩ = some (.int .i64 r.w.start) ∧ W.cell? ⟨w.heap.size, 2, none⟩ = some (.int .i64 r.w.len) ∧ W.cell? ⟨w.heap.size, 3, none⟩ = some (.int .i64 r.w.cap) ∧ W.cell? ⟨w.heap.size, 4, none⟩ = some (.int .i64 r.first) ∧ W.cell? ⟨w.heap.size, 5, none⟩ = some (.int .i64 (r.many - 1)))
    (first | (with_reducible exact ⟨a0, a1, a2, a3, a4, a5⟩) | (with_reducible exact HK.out _ hc2) | exact HL.out _ (ring_keep (HL2.out _ hc2) (by omega)))
    (first | (go_at_call 100; (with_reducible refine (HC.out w1.drew).mono ?_); rintro e w2 ⟨rfl, hb2⟩; have hc2 : Below w1.heap.size w1 w2 := (Below.refl _ _).drew.trans hb2; obtain ⟨z0, z1, z2, z3, z4, z5⟩ := ring_cells (HZ.out _ hc2); obtain ⟨f0, f1, f2, f3, f4, f5⟩ := ring_frozen (HZ.out _ hc2)))
  go_wp2_with fail
  refine bodyPost_ret (v := .tuple #[.agg #[.int .i64 r.w.arr, .int .i64 r.w.start, .int .i64 r.w.len, .int .i64 r.w.cap, .int .i64 r.first, .int .i64 (r.many - 1)], .int .i64 q]) (by simp [results, Try.results80, go_sem, z0, z1, z2, z3, z4, z5]) rfl ⟨rfl, ?_⟩
  (repeat (first | (with_reducible exact Below.refl _ _) | (with_reducible refine Below.drew ?_) | ((with_reducible refine Below.alloc ?_ ?hB _); case hB => (first | (with_reducible exact Nat.le_refl _) | omega | (simp; done) | (simp; omega))) | ((with_reducible refine Below.setCell ?_ ?hB _); case hB => (first | (with_reducible exact Nat.le_refl _) | omega | (simp; done) | (simp; omega)))))
  exact HB1.out.trans (hc2.mono HB1.out.size)

set_option maxRecDepth 100000 in
set_option maxHeartbeats 1600000 in
theorem poppedFront_calls (m : List (List Int)) (r : Rg) (w : World) (hok : RgOK m r) :
    Calls Try.prog 79 #[.agg #[.int .i64 r.w.arr, .int .i64 r.w.start, .int .i64 r.w.len, .int .i64 r.w.cap, .int .i64 r.first, .int .i64 r.many]] w fun e w' => e = .returned (.tuple #[.agg #[.int .i64 r.w.arr, .int .i64 r.w.start, .int .i64 r.w.len, .int .i64 r.w.cap, .int .i64 (slotR r 1), .int .i64 (r.many - 1)], .int .i64 (r.first)]) ∧ Below w.heap.size w w' := by
  obtain ⟨_, _, _, _, hl0, hl1, _⟩ := hok.1.small
  have HOK := Lib.hid hok
  obtain ⟨_, h1, h2, h3, h4, h5⟩ := hok
  obtain ⟨hb, g1, g2, gz⟩ := enter2 w (.cells #[.int .i64 r.w.arr, .int .i64 r.w.start, .int .i64 r.w.len, .int .i64 r.w.cap, .int .i64 r.first, .int .i64 r.many] 36) (.cells #[.int .i64 0, .int .i64 0, .int .i64 0, .int .i64 0, .int .i64 0, .int .i64 0] 36)
  obtain ⟨w0, hw0⟩ : ∃ w0, (w.alloc (.cells #[.int .i64 r.w.arr, .int .i64 r.w.start, .int .i64 r.w.len, .int .i64 r.w.cap, .int .i64 r.first, .int .i64 r.many] 36)).alloc (.cells #[.int .i64 0, .int .i64 0, .int .i64 0, .int .i64 0, .int .i64 0, .int .i64 0] 36) = w0 := ⟨_, rfl⟩
  rw [hw0] at hb g1 g2 gz
  have HB := Lib.hid hb
  have HW := Lib.hid hw0
  have HG := Lib.hid (And.intro g1 g2)
  obtain ⟨a0, a1, a2, a3, a4, a5⟩ := ring_cells g1
  obtain ⟨b0, b1, b2, b3, b4, b5⟩ := ring_frozen g1
  clear hb hw0 g1 g2
  have HC := Lib.hid (implSlot_calls r 1 w0 (by omega) (by omega) (by omega))
  have hq := slotR_lt HOK.out (show 0 ≤ 1 by omega)
  have HQ := Lib.hid (show slotR r 1 = slotR r 1 from rfl)
  generalize slotR r 1 = q at *
  go_enter Try.func79, Try.ntmps79
  go_wp2_with fail
  rw [HW.out]
  refine HC.out.mono ?_
  rintro e w2 ⟨rfl, hb2⟩
  have g1 := (hb2.block _ (Array.getElem?_eq_some_iff.1 HG.out.1).1).trans HG.out.1
  have g2 := (hb2.block _ (Array.getElem?_eq_some_iff.1 HG.out.2).1).trans HG.out.2
  have HB2 := Lib.hid (HB.out.trans (hb2.mono HB.out.size))
  clear a0 a1 a2 a3 a4 a5 b0 b1 b2 b3 b4 b5 hb2
  obtain ⟨a0, a1, a2, a3, a4, a5⟩ := ring_cells g1
  obtain ⟨b0, b1, b2, b3, b4, b5⟩ := ring_frozen g1
  have y1 := ring_cell4 (v := .int .i64 q) g1
  have y2 := one_other (i := 4) (u := .int .i64 q) g2 (show w.heap.size + 1 ≠ w.heap.size by omega)
  have x1 := ring_cell5 (v := .int .i64 (r.many - 1)) y1
  have x2 := one_other (i := 5) (u := .int .i64 (r.many - 1)) y2 (show w.heap.size + 1 ≠ w.heap.size by omega)
  obtain ⟨z0, z1, z2, z3, z4, z5⟩ := ring_cells x2
  obtain ⟨f0, f1, f2, f3, f4, f5⟩ := ring_frozen x2
  obtain ⟨k0, k1, k2, k3, k4, k5⟩ := ring_cells x1
  clear g1 g2 y1 y2 x1 x2
  go_wp2_with fail
  refine bodyPost_ret (v := .tuple #[.agg #[.int .i64 r.w.arr, .int .i64 r.w.start, .int .i64 r.w.len, .int .i64 r.w.cap, .int .i64 q, .int .i64 (r.many - 1)], .int .i64 r.first]) (by simp [results, Try.results79, go_sem, z0, z1, z2, z3, z4, z5]) rfl ⟨rfl, ?_⟩
  (repeat (first | (with_reducible exact Below.refl _ _) | (with_reducible refine Below.drew ?_) | ((with_reducible refine Below.alloc ?_ ?hB _); case hB => (first | (with_reducible exact Nat.le_refl _) | omega | (simp; done) | (simp; omega))) | ((with_reducible refine Below.setCell ?_ ?hB _); case hB => (first | (with_reducible exact Nat.le_refl _) | omega | (simp; done) | (simp; omega)))))
  exact HB2.out

end Go.Proofs.Ytlioamjmkaaooaa
