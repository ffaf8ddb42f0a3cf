/-
  A ring without its first element: l5Pop of spec.
-/
import Derived.Test.YtlioamjmkaaooaaRgS
namespace Go.Proofs.Ytlioamjmkaaooaa
open Go.RowKit

set_option maxRecDepth 100000 in
set_option maxHeartbeats 3200000 in
theorem specPop_calls (m : List (List Int)) (r : Rg) (w : World) (hok : RgOK m r) :
    Calls Try.prog 77 #[.agg #[.int .i64 r.w.arr, .int .i64 r.w.start, .int .i64 r.w.len, .int .i64 r.w.cap, .int .i64 r.first, .int .i64 r.many]] w fun e w' => e = .returned (.agg #[.int .i64 r.w.arr, .int .i64 r.w.start, .int .i64 r.w.len, .int .i64 r.w.cap, .int .i64 (slotR r 1), .int .i64 (r.many - 1)]) ∧ Below w.heap.size w w' := by
  obtain ⟨_, _, _, _, hl0, hl1, _⟩ := hok.1.small
  obtain ⟨_, h1, h2, h3, h4, h5⟩ := hok
  obtain ⟨hb, g1, g2, gz⟩ := enter2 w (.cells #[.int .i64 r.w.arr, .int .i64 r.w.start, .int .i64 r.w.len, .int .i64 r.w.cap, .int .i64 r.first, .int .i64 r.many] 36) (.cells #[.int .i64 0, .int .i64 0, .int .i64 0, .int .i64 0, .int .i64 0, .int .i64 0] 36)
  obtain ⟨w0, hw0⟩ : ∃ w0, (w.alloc (.cells #[.int .i64 r.w.arr, .int .i64 r.w.start, .int .i64 r.w.len, .int .i64 r.w.cap, .int .i64 r.first, .int .i64 r.many] 36)).alloc (.cells #[.int .i64 0, .int .i64 0, .int .i64 0, .int .i64 0, .int .i64 0, .int .i64 0] 36) = w0 := ⟨_, rfl⟩
  rw [hw0] at hb g1 g2 gz
  have HB := Lib.hid hb
  have HW := Lib.hid hw0
  have HG := Lib.hid (And.intro g1 g2)
  have HC := Lib.hid (fun W => specSlot_calls r 1 W (by omega) (by omega) (by omega))
  have HK : Hid (∀ W, Below w0.heap.size w0 W → W.cell? ⟨w.heap.size, 0, none⟩ = some (.int .i64 r.w.arr) ∧ W.cell? ⟨w.heap.size, 1, none⟩ = some (.int .i64 r.w.start) ∧ W.cell? ⟨w.heap.size, 2, none⟩ = some (.int .i64 r.w.len) ∧ W.cell? ⟨w.heap.size, 3, none⟩ = some (.int .i64 r.w.cap) ∧ W.cell? ⟨w.heap.size, 4, none⟩ = some (.int .i64 r.first) ∧ W.cell? ⟨w.heap.size, 5, none⟩ = some (.int .i64 r.many)) := Lib.hid fun W h => ring_cells ((h.block _ (Array.getElem?_eq_some_iff.1 HG.out.1).1).trans HG.out.1)
  have HL : Hid (∀ W : World, W.heap[w.heap.size]? = some (.cells #[.int .i64 r.w.arr, .int .i64 r.w.start, .int .i64 r.w.len, .int .i64 r.w.cap, .int .i64 r.first, .int .i64 r.many] 36) → W.cell? ⟨w.heap.size, 0, none⟩ = some (.int .i64 r.w.arr) ∧ W.cell? ⟨w.heap.size, 1, none⟩ = some (.int .i64 r.w.start) ∧ W.cell? ⟨w.heap.size, 2, none⟩ = some (.int .i64 r.w.len) ∧ W.cell? ⟨w.heap.size, 3, none⟩ = some (.int .i64 r.w.cap) ∧ W.cell? ⟨w.heap.size, 4, none⟩ = some (.int .i64 r.first) ∧ W.cell? ⟨w.heap.size, 5, none⟩ = some (.int .i64 r.many)) := Lib.hid fun W h => ring_cells h
  have HL2 : Hid (∀ W, Below w0.heap.size w0 W → W.heap[w.heap.size]? = some (.cells #[.int .i64 r.w.arr, .int .i64 r.w.start, .int .i64 r.w.len, .int .i64 r.w.cap, .int .i64 r.first, .int .i64 r.many] 36)) := Lib.hid fun W h => (h.block _ (Array.getElem?_eq_some_iff.1 HG.out.1).1).trans HG.out.1
  have HZ : Hid (∀ W, Below w0.heap.size w0 W → W.heap[w.heap.size + 1]? = some (.cells #[.int .i64 0, .int .i64 0, .int .i64 0, .int .i64 0, .int .i64 0, .int .i64 0] 36)) := Lib.hid fun W h => (h.block _ (Array.getElem?_eq_some_iff.1 HG.out.2).1).trans HG.out.2
  obtain ⟨a0, a1, a2, a3, a4, a5⟩ := HK.out w0.drew (Below.refl _ _).drew
  have hwm : IntKind.i64.wrap (r.many - 1) = r.many - 1 := by simp [IntKind.wrap, IntKind.bits, IntKind.signed]; omega
  generalize slotR r 1 = q at *
  clear hb hw0 g1 g2
  go_enter Try.func77, Try.ntmps77
  go_wp2_with fail
  rw [HW.out]
  go_region_held3 (fun W => W.cell? ⟨w.heap.size, 0, none⟩ = some (.int .i64 r.w.arr) ∧ W.cell? ⟨w.heap.size, 1, none⟩ = some (.int .i64 r.w.start) ∧ W.cell? ⟨w.heap.size, 2, none⟩ = some (.int .i64 r.w.len) ∧ W.cell? ⟨w.heap.size, 3, none⟩ = some (.int .i64 r.w.cap) ∧ W.cell? ⟨w.heap.size, 4, none⟩ = some (.int .i64 r.first) ∧ W.cell? ⟨w.heap.size, 5, none⟩ = some (.int .i64 r.many))
    (first | (with_reducible exact ⟨a0, a1, a2, a3, a4, a5⟩) | (with_reducible exact HK.out _ hc2) | exact HL.out _ (ring_keep (HL2.out _ hc2) (by omega)))
    (first | (go_at_call 73; (with_reducible refine (HC.out w0.drew).mono ?_); rintro e w2 ⟨rfl, hb2⟩; have hc2 : Below w0.heap.size w0 w2 := (Below.refl _ _).drew.trans hb2; obtain ⟨z0, z1, z2, z3, z4, z5⟩ := ring_cells (HZ.out _ hc2); obtain ⟨f0, f1, f2, f3, f4, f5⟩ := ring_frozen (HZ.out _ hc2)))
  go_wp2_with fail
  refine bodyPost_ret (v := .agg #[.int .i64 r.w.arr, .int .i64 r.w.start, .int .i64 r.w.len, .int .i64 r.w.cap, .int .i64 q, .int .i64 (r.many - 1)]) (by simp [results, Try.results77, go_sem, z0, z1, z2, z3, z4, z5]) rfl ⟨rfl, ?_⟩
  (repeat (first | (with_reducible exact Below.refl _ _) | (with_reducible refine Below.drew ?_) | ((with_reducible refine Below.alloc ?_ ?hB _); case hB => (first | (with_reducible exact Nat.le_refl _) | omega | (simp; done) | (simp; omega))) | ((with_reducible refine Below.setCell ?_ ?hB _); case hB => (first | (with_reducible exact Nat.le_refl _) | omega | (simp; done) | (simp; omega)))))
  exact HB.out.trans (hc2.mono HB.out.size)

/-- The byte in a slot. -/
def atW (m : List (List Int)) (x : Win) (j : Int) : Int := (m.getD x.arr.toNat []).getD (x.start.toNat + j.toNat) 0
theorem elR_at (m : List (List Int)) (r : Rg) (i : Int) : elR m r i = atW m r.w (slotR r i) := rfl
theorem specAtW_calls (A : Option Addr) (cm : Nat) (m : List (List Int)) (x : Win) (j : Int) (w : World) (hr : Rd2 w w.heap.size A m) (hok : WinOK m x) (h0 : 0 ≤ j) (h1 : j < x.len) :
    Calls Try.prog 76 #[.agg #[.slice A m.length cm], .agg #[.int .i64 x.arr, .int .i64 x.start, .int .i64 x.len, .int .i64 x.cap], .int .i64 j] w fun e w' => e = .returned (.int .u8 (atW m x j)) ∧ Below w.heap.size w w' := by
  obtain ⟨n, s, l, c, rfl, hn, hlc, hsc, h1', h64, h16⟩ := hok.nat
  obtain ⟨k, rfl⟩ := Int.eq_ofNat_of_zero_le h0
  dsimp only at h1 ⊢
  have hk : s + k < m[n].length := by omega
  have e : atW m ⟨n, s, l, c⟩ k = m[n][s + k] := by
    unfold atW
    simp only [Int.toNat_natCast]
    rw [getD_eq hn, List.getD_eq_getElem?_getD, List.getElem?_eq_getElem hk]; rfl
  rw [e]
  exact specAt_calls A cm m n s k l c w hr hn h16 hk h64
end Go.Proofs.Ytlioamjmkaaooaa
