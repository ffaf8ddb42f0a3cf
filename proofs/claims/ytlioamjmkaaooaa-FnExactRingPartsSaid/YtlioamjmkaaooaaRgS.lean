/-
  Rings of spec: l5Ring, l5Slot, l5Pop.
-/
import Derived.Test.YtlioamjmkaaooaaRgA
import Derived.Test.YtlioamjmkaaooaaWin2
namespace Go.Proofs.Ytlioamjmkaaooaa
open Go.RowKit

/-- Blocks g and g + 1 are a memory and a ring, as a function has them of its arguments. -/
structure MR (W : World) (g : Nat) (A : Option Addr) (n c : Nat) (r : Rg) : Prop where
  mem : W.heap[g]? = some (.cells #[.slice A n c] 32)
  ring : W.heap[g + 1]? = some (.cells #[.int .i64 r.w.arr, .int .i64 r.w.start, .int .i64 r.w.len, .int .i64 r.w.cap, .int .i64 r.first, .int .i64 r.many] 36)
theorem MR.below {W W' : World} {g : Nat} {A : Option Addr} {n c : Nat} {r : Rg} (h : MR W g A n c r) (hb : Below W.heap.size W W') : MR W' g A n c r :=
  ⟨(hb.block _ (Array.getElem?_eq_some_iff.1 h.mem).1).trans h.mem, (hb.block _ (Array.getElem?_eq_some_iff.1 h.ring).1).trans h.ring⟩
theorem enterMR (A : Option Addr) (n c : Nat) (r : Rg) (w : World) :
    ∃ w0, (w.alloc (.cells #[.slice A n c] 32)).alloc (.cells #[.int .i64 r.w.arr, .int .i64 r.w.start, .int .i64 r.w.len, .int .i64 r.w.cap, .int .i64 r.first, .int .i64 r.many] 36) = w0 ∧ Below w.heap.size w w0 ∧ w0.heap.size = w.heap.size + 2 ∧ MR w0 w.heap.size A n c r := by
  obtain ⟨h1, h2, h3, h4⟩ := enter2 w (.cells #[.slice A n c] 32) (.cells #[.int .i64 r.w.arr, .int .i64 r.w.start, .int .i64 r.w.len, .int .i64 r.w.cap, .int .i64 r.first, .int .i64 r.many] 36)
  exact ⟨_, rfl, h1, h4, h2, h3⟩
/-- With the answer's block, a ring that is zero as yet. -/
structure MRR (W : World) (g : Nat) (A : Option Addr) (n c : Nat) (r : Rg) : Prop where
  mr : MR W g A n c r
  res : W.heap[g + 1 + 1]? = some (.cells #[.int .i64 0, .int .i64 0, .int .i64 0, .int .i64 0, .int .i64 0, .int .i64 0] 36)
theorem MRR.below {W W' : World} {g : Nat} {A : Option Addr} {n c : Nat} {r : Rg} (h : MRR W g A n c r) (hb : Below W.heap.size W W') : MRR W' g A n c r :=
  ⟨h.mr.below hb, (hb.block _ (Array.getElem?_eq_some_iff.1 h.res).1).trans h.res⟩
theorem enterMRR (A : Option Addr) (n c : Nat) (r : Rg) (w : World) :
    ∃ w0, ((w.alloc (.cells #[.slice A n c] 32)).alloc (.cells #[.int .i64 r.w.arr, .int .i64 r.w.start, .int .i64 r.w.len, .int .i64 r.w.cap, .int .i64 r.first, .int .i64 r.many] 36)).alloc (.cells #[.int .i64 0, .int .i64 0, .int .i64 0, .int .i64 0, .int .i64 0, .int .i64 0] 36) = w0 ∧ Below w.heap.size w w0 ∧ w0.heap.size = w.heap.size + 3 ∧ MRR w0 w.heap.size A n c r := by
  obtain ⟨h1, h2, h3, h4, h5⟩ := enter3 w (.cells #[.slice A n c] 32) (.cells #[.int .i64 r.w.arr, .int .i64 r.w.start, .int .i64 r.w.len, .int .i64 r.w.cap, .int .i64 r.first, .int .i64 r.many] 36) (.cells #[.int .i64 0, .int .i64 0, .int .i64 0, .int .i64 0, .int .i64 0, .int .i64 0] 36)
  exact ⟨_, rfl, h1, h5, ⟨h2, h3⟩, h4⟩
/-- A memory, a window and the answer's block, a ring that is zero as yet. -/
structure MWQ (W : World) (g : Nat) (A : Option Addr) (n c : Nat) (a s l k : Int) : Prop where
  mw : MW W g A n c a s l k
  res : W.heap[g + 1 + 1]? = some (.cells #[.int .i64 0, .int .i64 0, .int .i64 0, .int .i64 0, .int .i64 0, .int .i64 0] 36)
theorem MWQ.below {W W' : World} {g : Nat} {A : Option Addr} {n c : Nat} {a s l k : Int} (h : MWQ W g A n c a s l k) (hb : Below W.heap.size W W') : MWQ W' g A n c a s l k :=
  ⟨h.mw.below hb, (hb.block _ (Array.getElem?_eq_some_iff.1 h.res).1).trans h.res⟩
theorem enterMWQ (A : Option Addr) (n c : Nat) (a s l k : Int) (w : World) :
    ∃ w0, ((w.alloc (.cells #[.slice A n c] 32)).alloc (.cells #[.int .i64 a, .int .i64 s, .int .i64 l, .int .i64 k] 34)).alloc (.cells #[.int .i64 0, .int .i64 0, .int .i64 0, .int .i64 0, .int .i64 0, .int .i64 0] 36) = w0 ∧ Below w.heap.size w w0 ∧ w0.heap.size = w.heap.size + 3 ∧ MWQ w0 w.heap.size A n c a s l k := by
  obtain ⟨h1, h2, h3, h4, h5⟩ := enter3 w (.cells #[.slice A n c] 32) (.cells #[.int .i64 a, .int .i64 s, .int .i64 l, .int .i64 k] 34) (.cells #[.int .i64 0, .int .i64 0, .int .i64 0, .int .i64 0, .int .i64 0, .int .i64 0] 36)
  exact ⟨_, rfl, h1, h5, ⟨h2, h3⟩, h4⟩
theorem WinOK.small {m : List (List Int)} {x : Win} (h : WinOK m x) : 0 ≤ x.arr ∧ x.arr ≤ 16 ∧ 0 ≤ x.start ∧ x.start ≤ 64 ∧ 0 ≤ x.len ∧ x.len ≤ 64 ∧ 0 ≤ x.cap ∧ x.cap ≤ 64 ∧ x.len ≤ x.cap ∧ x.start + x.cap ≤ 64 := by
  obtain ⟨n, s, l, c, rfl, hn, h1, h2, h3, h4, h5⟩ := h.nat
  dsimp only
  omega

set_option maxRecDepth 100000 in
set_option maxHeartbeats 800000 in
theorem specRing_calls (A : Option Addr) (cm : Nat) (m : List (List Int)) (r : Rg) (w : World) (hr : Rd2 w w.heap.size A m) (hn : m.length ≤ maxLen) :
    Calls Try.prog 60 #[.agg #[.slice A m.length cm], .agg #[.int .i64 r.w.arr, .int .i64 r.w.start, .int .i64 r.w.len, .int .i64 r.w.cap, .int .i64 r.first, .int .i64 r.many]] w fun e w' => e = .returned (.bool (decide (RgOK m r))) ∧ Below w.heap.size w w' := by
  obtain ⟨w0, hw0, hb0, hz0, hmr⟩ := enterMR A m.length cm r w
  have HC := Lib.hid (specWindow_calls A cm m r.w w0 ((hr.below hb0).more hb0.size) hn)
  have HB := Lib.hid hb0
  have HW := Lib.hid hw0
  have HMR := Lib.hid hmr
  obtain ⟨d0, d1, d2, d3, d4, d5⟩ := ring_cells hmr.ring
  have c1 := one_cell hmr.mem
  clear hr hb0 hmr hw0
  go_enter Try.func60, Try.ntmps60
  go_wp2_with fail
  rw [HW.out]
  refine HC.out.mono ?_
  rintro e w2 ⟨rfl, hb2⟩
  have HB2 := Lib.hid (HB.out.trans (hb2.mono HB.out.size))
  have hmr2 := HMR.out.below hb2
  clear d0 d1 d2 d3 d4 d5 c1
  obtain ⟨d0, d1, d2, d3, d4, d5⟩ := ring_cells hmr2.ring
  clear hb2 hmr2
  by_cases hm : WinOK m r.w
  · have hd : decide (WinOK m r.w) = true := decide_eq_true hm
    have HM := Lib.hid hm
    obtain ⟨_, _, _, _, hl0, hl1, _⟩ := hm.small
    clear hm
    by_cases h0 : 0 < r.w.len
    · have H1 := Lib.hid (specIn_calls r.first 0 (r.w.len - 1) w2)
      by_cases h1 : 0 ≤ r.first ∧ r.first ≤ r.w.len - 1
      · rw [show decide ((0 : Int) ≤ r.first ∧ r.first ≤ r.w.len - 1) = true from decide_eq_true h1] at H1
        have H2 := Lib.hid (specIn_calls r.many 0 r.w.len w2)
        have HV := Lib.hid (show decide (RgOK m r) = (decide (0 ≤ r.many) && decide (r.many ≤ r.w.len)) by rw [← Bool.decide_and]; exact decide_eq_decide.2 ⟨fun h => h.2.2.2.2, fun h => ⟨HM.out, h0, h1.1, h1.2, h⟩⟩)
        clear h1
        go_wp2_with fail
        refine H1.out.mono ?_
        rintro e w3 ⟨rfl, rfl⟩
        go_wp2_with fail
        refine H2.out.mono ?_
        rintro e w3 ⟨rfl, rfl⟩
        go_wp2_with fail
        go_ret
        exact ⟨ret_bool HV.out.symm, HB2.out⟩
      · rw [show decide ((0 : Int) ≤ r.first ∧ r.first ≤ r.w.len - 1) = false from decide_eq_false h1] at H1
        have HV := Lib.hid (show decide (RgOK m r) = false from decide_eq_false fun h => h1 ⟨h.2.2.1, h.2.2.2.1⟩)
        clear h1
        go_wp2_with fail
        refine H1.out.mono ?_
        rintro e w3 ⟨rfl, rfl⟩
        go_wp2_with fail
        go_ret
        exact ⟨ret_bool HV.out.symm, HB2.out⟩
    · have HV := Lib.hid (show decide (RgOK m r) = false from decide_eq_false fun h => h0 h.2.1)
      go_wp2_with fail
      go_ret
      exact ⟨ret_bool HV.out.symm, HB2.out⟩
  · have hd : decide (WinOK m r.w) = false := decide_eq_false hm
    have HV := Lib.hid (show decide (RgOK m r) = false from decide_eq_false fun h => hm h.1)
    clear hm
    go_wp2_with fail
    go_ret
    exact ⟨ret_bool HV.out.symm, HB2.out⟩

set_option maxRecDepth 100000 in
theorem specSlot_calls (r : Rg) (i : Int) (w : World) (h0 : 0 ≤ i ∧ i ≤ 1000) (h1 : 0 ≤ r.first ∧ r.first ≤ 1000) (h2 : 0 < r.w.len ∧ r.w.len ≤ 1000) :
    Calls Try.prog 73 #[.agg #[.int .i64 r.w.arr, .int .i64 r.w.start, .int .i64 r.w.len, .int .i64 r.w.cap, .int .i64 r.first, .int .i64 r.many], .int .i64 i] w fun e w' => e = .returned (.int .i64 (slotR r i)) ∧ Below w.heap.size w w' := by
  obtain ⟨h01, h02⟩ := h0
  obtain ⟨h11, h12⟩ := h1
  obtain ⟨h21, h22⟩ := h2
  have hne : r.w.len ≠ 0 := by omega
  go_enter Try.func73, Try.ntmps73
  go_wp2_with fail
  go_ret
  exact ⟨rfl, by (repeat (first | (with_reducible exact Below.refl _ _) | (with_reducible refine Below.drew ?_) | ((with_reducible refine Below.alloc ?_ ?hB _); case hB => (first | (with_reducible exact Nat.le_refl _) | omega | (simp; done) | (simp; omega))) | ((with_reducible refine Below.setCell ?_ ?hB _); case hB => (first | (with_reducible exact Nat.le_refl _) | omega | (simp; done) | (simp; omega)))))⟩

end Go.Proofs.Ytlioamjmkaaooaa
