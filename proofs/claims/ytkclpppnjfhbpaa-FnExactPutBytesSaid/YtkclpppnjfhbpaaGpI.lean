/-
  hole, length, stored of impl; l6Long of spec.
-/
import Derived.Test.YtkclpppnjfhbpaaGpS
import Derived.Deep.RegionHeld3
namespace Go.Proofs.Ytkclpppnjfhbpaa
open Go.RowKit

set_option maxRecDepth 100000 in
theorem hole_calls (A : Option Addr) (n cm : Nat) (g : Gp) (w : World) (h1 : -1000 ≤ g.fr ∧ g.fr ≤ 1000) (h2 : -1000 ≤ g.up ∧ g.up ≤ 1000) :
    Calls Try.prog 97 #[.agg #[.slice A n cm, .int .i64 g.w.arr, .int .i64 g.w.start, .int .i64 g.w.len, .int .i64 g.w.cap, .int .i64 g.fr, .int .i64 g.up]] w fun e w' => e = .returned (.int .i64 (g.up - g.fr)) ∧ Below w.heap.size w w' := by
  obtain ⟨h11, h12⟩ := h1
  obtain ⟨h21, h22⟩ := h2
  obtain ⟨w0, hw0, hb0, hz0, hg0⟩ := enterG A n cm g w
  have HB := Lib.hid hb0
  have HW := Lib.hid hw0
  obtain ⟨c0, d0, d1, d2, d3, d4, d5⟩ := gap_cells hg0
  clear hb0 hw0 hg0 hz0
  go_enter Try.func97, Try.ntmps97
  go_upto_region 1 with fail
  rw [HW.out]
  go_wp2_with fail
  go_ret
  exact ⟨rfl, HB.out⟩

set_option maxRecDepth 100000 in
set_option maxHeartbeats 800000 in
theorem length_calls (A : Option Addr) (n cm : Nat) (g : Gp) (w : World) (h0 : 0 ≤ g.w.len ∧ g.w.len ≤ 1000) (h1 : 0 ≤ g.fr ∧ g.fr ≤ 1000) (h2 : 0 ≤ g.up ∧ g.up ≤ 1000) :
    Calls Try.prog 92 #[.agg #[.slice A n cm, .int .i64 g.w.arr, .int .i64 g.w.start, .int .i64 g.w.len, .int .i64 g.w.cap, .int .i64 g.fr, .int .i64 g.up]] w fun e w' => e = .returned (.int .i64 (g.w.len - (g.up - g.fr))) ∧ Below w.heap.size w w' := by
  obtain ⟨w0, hw0, hb0, hz0, hg0⟩ := enterG A n cm g w
  have HC := Lib.hid (hole_calls A n cm g w0.drew (by omega) (by omega))
  have HB := Lib.hid hb0
  have HW := Lib.hid hw0
  have HG := Lib.hid hg0
  have HL := Lib.hid (fun (W : World) (hb : Below w0.heap.size w0 W) => gap_cells ((hb.block _ (Array.getElem?_eq_some_iff.1 hg0).1).trans hg0))
  obtain ⟨c0, d0, d1, d2, d3, d4, d5⟩ := HL.out w0.drew (Below.refl _ _).drew
  have hs : IntKind.i64.wrap (g.w.len - (g.up - g.fr)) = g.w.len - (g.up - g.fr) := IntWalk.i64_in _ (by omega)
  obtain ⟨h01, h02⟩ := h0
  obtain ⟨h11, h12⟩ := h1
  obtain ⟨h21, h22⟩ := h2
  clear hb0 hw0 hg0 hz0
  go_enter Try.func92, Try.ntmps92
  go_upto_region 1 with fail
  rw [HW.out]
  go_region_held3 (fun W => W.cell? ⟨w.heap.size, 0, none⟩ = some (.slice A n cm) ∧ W.cell? ⟨w.heap.size, 1, none⟩ = some (.int .i64 g.w.arr) ∧ W.cell? ⟨w.heap.size, 2, none⟩ = some (.int .i64 g.w.start) ∧ W.cell? ⟨w.heap.size, 3, none⟩ = some (.int .i64 g.w.len) ∧ W.cell? ⟨w.heap.size, 4, none⟩ = some (.int .i64 g.w.cap) ∧ W.cell? ⟨w.heap.size, 5, none⟩ = some (.int .i64 g.fr) ∧ W.cell? ⟨w.heap.size, 6, none⟩ = some (.int .i64 g.up))
    (first | (with_reducible exact ⟨c0, d0, d1, d2, d3, d4, d5⟩) | (with_reducible exact HL.out _ hc2))
    (first | (go_at_call 97; (with_reducible refine HC.out.mono ?_); rintro e w2 ⟨rfl, hb2⟩; have hc2 : Below w0.heap.size w0 w2 := (Below.refl _ _).drew.trans hb2))
  have HB2 := Lib.hid (HB.out.trans (hc2.mono HB.out.size))
  clear hb2 hc2 c0 d0 d1 d2 d3 d4 d5
  go_wp2_with fail
  go_ret
  exact ⟨by first | rfl | rw [hs], HB2.out⟩

set_option maxRecDepth 100000 in
theorem specLong_calls (A : Option Addr) (n cm : Nat) (g : Gp) (w : World) (h0 : 0 ≤ g.w.len ∧ g.w.len ≤ 1000) (h1 : 0 ≤ g.fr ∧ g.fr ≤ 1000) (h2 : 0 ≤ g.up ∧ g.up ≤ 1000) :
    Calls Try.prog 94 #[.agg #[.slice A n cm, .int .i64 g.w.arr, .int .i64 g.w.start, .int .i64 g.w.len, .int .i64 g.w.cap, .int .i64 g.fr, .int .i64 g.up]] w fun e w' => e = .returned (.int .i64 (g.w.len - (g.up - g.fr))) ∧ Below w.heap.size w w' := by
  obtain ⟨h01, h02⟩ := h0
  obtain ⟨h11, h12⟩ := h1
  obtain ⟨h21, h22⟩ := h2
  obtain ⟨w0, hw0, hb0, hz0, hg0⟩ := enterG A n cm g w
  have HB := Lib.hid hb0
  have HW := Lib.hid hw0
  obtain ⟨c0, d0, d1, d2, d3, d4, d5⟩ := gap_cells hg0
  clear hb0 hw0 hg0 hz0
  go_enter Try.func94, Try.ntmps94
  go_upto_region 1 with fail
  rw [HW.out]
  go_wp2_with fail
  go_ret
  exact ⟨rfl, HB.out⟩

set_option maxRecDepth 100000 in
set_option maxHeartbeats 800000 in
/-- stored, as what it reads. -/
theorem storedR_calls (A : Option Addr) (cm : Nat) (m : List (List Int)) (n s l c : Nat) (f t : Int) (w : World) (hr : Rd2 w w.heap.size A m) (hn : n < m.length) (h16 : m.length ≤ 16) (hl : l ≤ c) (hc : s + c ≤ m[n].length) (h1 : 1 ≤ m[n].length) (h64 : m[n].length ≤ 64) :
    Calls Try.prog 91 #[.agg #[.slice A m.length cm, .int .i64 n, .int .i64 s, .int .i64 l, .int .i64 c, .int .i64 f, .int .i64 t]] w fun e w' => (∃ b, b.block < w'.heap.size ∧ b.spot = none ∧ e = .returned (.slice (some b) l c) ∧ Rd w' w'.heap.size (some b) (intV .u8 (wb m n s l))) ∧ Below w.heap.size w w' := by
  obtain ⟨w0, hw0, hb0, hz0, hg0⟩ := enterG A m.length cm ⟨⟨n, s, l, c⟩, f, t⟩ w
  dsimp only at hw0 hg0
  have HC := Lib.hid (seenR_calls A cm m n s l c w0 ((hr.below hb0).more hb0.size) hn h16 hl hc h1 h64)
  rw [hz0] at HC
  have HB := Lib.hid hb0
  have HW := Lib.hid hw0
  have HZ := Lib.hid hz0
  obtain ⟨c0, d0, d1, d2, d3, d4, d5⟩ := gap_cells hg0
  clear hb0 hw0 hg0 hr hz0
  go_enter Try.func91, Try.ntmps91
  go_upto_region 1 with fail
  rw [HW.out]
  go_wp2_with fail
  refine HC.out.mono ?_
  rintro e w2 ⟨⟨b, hb1, hb2, rfl, hrd⟩, hb3⟩
  have HR := Lib.hid hrd
  have HB3 := Lib.hid hb3
  have HP := Lib.hid (And.intro hb1 hb2)
  clear hrd hb3 hb1 hb2 c0 d0 d1 d2 d3 d4 d5
  go_wp2_with fail
  go_ret
  have hz := HZ.out
  have hs := HB3.out.size
  exact ⟨⟨b, (by have := HP.out.1; omega), HP.out.2, rfl, (HR.out.below (HB3.out.mono (by omega))).more (by omega)⟩, HB.out.trans (HB3.out.mono (by omega))⟩

set_option maxRecDepth 100000 in
set_option maxHeartbeats 800000 in
/-- stored, as a part of the row that it lies in. -/
theorem stored_calls (b off cm : Nat) (m : List (List Int)) (n s l c : Nat) (f t : Int) (br offr ci : Nat) (w : World) (hn : n < m.length) (h16 : m.length ≤ 16) (hl : l ≤ c) (hc : s + c ≤ m[n].length) (h64 : m[n].length ≤ 64) (hci : m[n].length ≤ ci) (hcm : ci ≤ maxLen)
    (hh : w.cell? ⟨b, off + n, none⟩ = some (.slice (some ⟨br, offr, none⟩) m[n].length ci)) (hb : b < w.heap.size) :
    Calls Try.prog 91 #[.agg #[.slice (some ⟨b, off, none⟩) m.length cm, .int .i64 n, .int .i64 s, .int .i64 l, .int .i64 c, .int .i64 f, .int .i64 t]] w fun e w' => (∃ o, e = .returned (.slice (some ⟨br, o, none⟩) l c) ∧ (0 < c → o = offr + s)) ∧ Below w.heap.size w w' := by
  obtain ⟨w0, hw0, hb0, hz0, hg0⟩ := enterG (some ⟨b, off, none⟩) m.length cm ⟨⟨n, s, l, c⟩, f, t⟩ w
  dsimp only at hw0 hg0
  have HC := Lib.hid (seen_calls b off cm m n s l c br offr ci w0 hn h16 hl hc h64 hci hcm ((hb0.cell (p := ⟨b, off + n, none⟩) hb).trans hh) (by omega))
  have HB := Lib.hid hb0
  have HW := Lib.hid hw0
  obtain ⟨c0, d0, d1, d2, d3, d4, d5⟩ := gap_cells hg0
  clear hb0 hw0 hg0 hh hz0
  go_enter Try.func91, Try.ntmps91
  go_upto_region 1 with fail
  rw [HW.out]
  go_wp2_with fail
  refine HC.out.mono ?_
  rintro e w2 ⟨⟨o, rfl, ho⟩, hb3⟩
  have HO := Lib.hid ho
  have HB3 := Lib.hid (HB.out.trans (hb3.mono HB.out.size))
  clear hb3 ho c0 d0 d1 d2 d3 d4 d5
  go_wp2_with fail
  go_ret
  exact ⟨⟨o, rfl, HO.out⟩, HB3.out⟩
end Go.Proofs.Ytkclpppnjfhbpaa
