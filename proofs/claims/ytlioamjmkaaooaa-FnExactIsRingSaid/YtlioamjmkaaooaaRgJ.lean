/-
  IsRing of impl.
-/
import Derived.Test.YtlioamjmkaaooaaRgI
namespace Go.Proofs.Ytlioamjmkaaooaa
open Go.RowKit

set_option maxRecDepth 100000 in
set_option maxHeartbeats 3200000 in
theorem implIsRing_calls (A : Option Addr) (cm : Nat) (m : List (List Int)) (r : Rg) (w : World) (hr : Rd2 w w.heap.size A m) (hn : m.length ≤ maxLen) (hx : RArg r) :
    Calls Try.prog 21 #[.agg #[.slice A m.length cm], .agg #[.int .i64 r.w.arr, .int .i64 r.w.start, .int .i64 r.w.len, .int .i64 r.w.cap, .int .i64 r.first, .int .i64 r.many]] w fun e w' => e = .returned (.tuple #[.bool (isRingR m r).1, .bool (isRingR m r).2]) ∧ Below w.heap.size w w' := by
  obtain ⟨w0, hw0, hb0, hz0, hmr⟩ := enterMR A m.length cm r w
  have HC := Lib.hid (fun W (hb : Below w0.heap.size w0 W) => implRing_calls A cm m r W ((hr.below (hb0.trans (hb.mono hb0.size))).more (hb0.trans (hb.mono hb0.size)).size) hn hx)
  have HD := Lib.hid (fun W (hb : Below w0.heap.size w0 W) => implIsMemory_calls A cm m W ((hr.below (hb0.trans (hb.mono hb0.size))).more (hb0.trans (hb.mono hb0.size)).size) hn)
  have HB := Lib.hid hb0
  have HW := Lib.hid hw0
  have HV := Lib.hid (show isRingR m r = (decide (RgOK m r), decide (MemOK m)) from rfl)
  have HK : Hid (∀ W, Below w0.heap.size w0 W → W.cell? ⟨w.heap.size, 0, none⟩ = some (.slice A m.length cm) ∧ W.cell? ⟨w.heap.size + 1, 0, none⟩ = some (.int .i64 r.w.arr) ∧ W.cell? ⟨w.heap.size + 1, 1, none⟩ = some (.int .i64 r.w.start) ∧ W.cell? ⟨w.heap.size + 1, 2, none⟩ = some (.int .i64 r.w.len) ∧ W.cell? ⟨w.heap.size + 1, 3, none⟩ = some (.int .i64 r.w.cap) ∧ W.cell? ⟨w.heap.size + 1, 4, none⟩ = some (.int .i64 r.first) ∧ W.cell? ⟨w.heap.size + 1, 5, none⟩ = some (.int .i64 r.many)) := Lib.hid fun W h => ⟨one_cell (hmr.below h).mem, ring_cells (hmr.below h).ring⟩
  obtain ⟨c0, a0, a1, a2, a3, a4, a5⟩ := HK.out w0.drew (Below.refl _ _).drew
  generalize decide (RgOK m r) = q1 at *
  generalize decide (MemOK m) = q2 at *
  clear hr hb0 hmr hw0
  go_enter Try.func21, Try.ntmps21
  go_wp2_with fail
  rw [HW.out]
  go_region_held3 (fun W => W.cell? ⟨w.heap.size, 0, none⟩ = some (.slice A m.length cm) ∧ W.cell? ⟨w.heap.size + 1, 0, none⟩ = some (.int .i64 r.w.arr) ∧ W.cell? ⟨w.heap.size + 1, 1, none⟩ = some (.int .i64 r.w.start) ∧ W.cell? ⟨w.heap.size + 1, 2, none⟩ = some (.int .i64 r.w.len) ∧ W.cell? ⟨w.heap.size + 1, 3, none⟩ = some (.int .i64 r.w.cap) ∧ W.cell? ⟨w.heap.size + 1, 4, none⟩ = some (.int .i64 r.first) ∧ W.cell? ⟨w.heap.size + 1, 5, none⟩ = some (.int .i64 r.many))
    (first | exact ⟨c0, a0, a1, a2, a3, a4, a5⟩ | exact HK.out _ hc3 | exact HK.out _ hc2)
    (first | (go_at_call 62; (with_reducible refine (HC.out w0.drew (Below.refl _ _).drew).mono ?_); rintro e w2 ⟨rfl, hb2⟩; have hc2 : Below w0.heap.size w0 w2 := (Below.refl _ _).drew.trans hb2) | (go_at_call 63; (with_reducible refine (HD.out w2 hc2).mono ?_); rintro e w3 ⟨rfl, hb3⟩; have hc3 : Below w0.heap.size w0 w3 := hc2.trans (hb3.mono hc2.size)))
  go_wp2_with fail
  refine bodyPost_ret (v := .tuple #[.bool q1, .bool q2]) (by simp [results, Try.results21, go_sem]) rfl ⟨by rw [HV.out], HB.out.trans (hc3.mono HB.out.size)⟩
end Go.Proofs.Ytlioamjmkaaooaa
