/-
  toGap, szGap, eqGap, markGap, heldGap of the law.
-/
import Derived.Test.YtkclpppnjfhbpaaGpA
namespace Go.Proofs.Ytkclpppnjfhbpaa
open Go.RowKit

set_option maxRecDepth 100000 in
set_option maxHeartbeats 800000 in
theorem toGap_calls (A : Option Addr) (c : Nat) (m : List (List Int)) (g : Gp) (w : World) (hr : Rd2 w w.heap.size A m) (hn : m.length ≤ 1048576) (hs : ∀ r ∈ m, r.length ≤ 1048576) :
    Calls Try.prog 20 #[.agg #[.slice A m.length c, .int .i64 g.w.arr, .int .i64 g.w.start, .int .i64 g.w.len, .int .i64 g.w.cap, .int .i64 g.fr, .int .i64 g.up]] w fun e w' => ∃ v, e = .returned (.agg #[v, .int .i64 g.w.arr, .int .i64 g.w.start, .int .i64 g.w.len, .int .i64 g.w.cap, .int .i64 g.fr, .int .i64 g.up]) ∧ OwnM w' w.heap.size w'.heap.size v m ∧ Below w.heap.size w w' := by
  obtain ⟨⟨a, s, l, k⟩, f, n⟩ := g
  dsimp only
  obtain ⟨hb, g1, g2, g3, gz⟩ := enter3 w (.cells #[.slice A m.length c, .int .i64 a, .int .i64 s, .int .i64 l, .int .i64 k, .int .i64 f, .int .i64 n] 28) (.cells #[.slice none 0 0, .int .i64 0, .int .i64 0, .int .i64 0, .int .i64 0, .int .i64 0, .int .i64 0] 34) (.cells #[.slice none 0 0, .int .i64 0, .int .i64 0, .int .i64 0, .int .i64 0, .int .i64 0, .int .i64 0] 34)
  obtain ⟨w0, hw0⟩ : ∃ w0, ((w.alloc (.cells #[.slice A m.length c, .int .i64 a, .int .i64 s, .int .i64 l, .int .i64 k, .int .i64 f, .int .i64 n] 28)).alloc (.cells #[.slice none 0 0, .int .i64 0, .int .i64 0, .int .i64 0, .int .i64 0, .int .i64 0, .int .i64 0] 34)).alloc (.cells #[.slice none 0 0, .int .i64 0, .int .i64 0, .int .i64 0, .int .i64 0, .int .i64 0, .int .i64 0] 34) = w0 := ⟨_, rfl⟩
  rw [hw0] at hb g1 g2 g3 gz
  have HC := Lib.hid (toMemory_calls A c m w0 ((hr.below hb).more hb.size) hn hs)
  have HB := Lib.hid hb
  have HW := Lib.hid hw0
  have HG := Lib.hid (And.intro g1 (And.intro g2 g3))
  have HZ := Lib.hid gz
  obtain ⟨a0, a1, a2, a3, a4, a5, a6⟩ := gap_cells g1
  clear hb hw0 g1 g2 g3 hr hs gz
  go_enter Try.func20, Try.ntmps20
  go_wp2_with fail
  rw [HW.out]
  refine HC.out.mono ?_
  rintro e w2 ⟨v, rfl, hv, hb2⟩
  obtain ⟨Av, cv, rfl, hcv⟩ := hv.form
  have HZ1 := Lib.hid ((hb2.block _ (Array.getElem?_eq_some_iff.1 HG.out.1).1).trans HG.out.1)
  have HZ2 := Lib.hid ((hb2.block _ (Array.getElem?_eq_some_iff.1 HG.out.2.1).1).trans HG.out.2.1)
  have HZ3 := Lib.hid ((hb2.block _ (Array.getElem?_eq_some_iff.1 HG.out.2.2).1).trans HG.out.2.2)
  have HV := Lib.hid hv
  have HB2 := Lib.hid (HB.out.trans (hb2.mono HB.out.size))
  have hz2 : w.heap.size + 3 ≤ w2.heap.size := by have := HZ.out; have := hb2.size; omega
  have HL := Lib.hid (show w.heap.size + 3 = w0.heap.size from HZ.out.symm)
  clear hv hb2 a0 a1 a2 a3 a4 a5 a6
  obtain ⟨w3, hw3⟩ : ∃ w3, w2.setCell ⟨w.heap.size + 1 + 1, 0, none⟩ (.slice Av m.length cv) = w3 := ⟨_, rfl⟩
  have HW3 := Lib.hid hw3
  have HY1 := Lib.hid (show w3.heap[w.heap.size]? = some (.cells #[.slice A m.length c, .int .i64 a, .int .i64 s, .int .i64 l, .int .i64 k, .int .i64 f, .int .i64 n] 28) by rw [← hw3]; exact keep_set HZ1.out (by omega))
  have HY2 := Lib.hid (show w3.heap[w.heap.size + 1 + 1]? = some (.cells #[.slice Av m.length cv, .int .i64 0, .int .i64 0, .int .i64 0, .int .i64 0, .int .i64 0, .int .i64 0] 34) by rw [← hw3]; simpa using cells_put (i := 0) (v := .slice Av m.length cv) HZ3.out)
  have HY3 := Lib.hid (show w3.heap[w.heap.size + 1]? = some (.cells #[.slice none 0 0, .int .i64 0, .int .i64 0, .int .i64 0, .int .i64 0, .int .i64 0, .int .i64 0] 34) by rw [← hw3]; exact keep_set HZ2.out (by omega))
  have HV3 := Lib.hid (show OwnM w3 w0.heap.size w2.heap.size (.slice Av m.length cv) m by rw [← hw3]; exact own_setC HV.out (.inl (by have := HL.out; omega)))
  have HB3 := Lib.hid (show Below w.heap.size w w3 by rw [← hw3]; exact HB2.out.setCell (by simp; omega) _)
  have hz3 : w3.heap.size = w2.heap.size := by rw [← hw3, World.size_setCell]
  have HZ23 := Lib.hid hz3
  obtain ⟨a0, a1, a2, a3, a4, a5, a6⟩ := gap_cells HZ1.out
  have b0 := (gap_cells HZ3.out).1
  have bf := (gap_frozen HZ3.out).1
  clear hw3 hz3
  go_wp2_with fail
  rw [HW3.out]
  refine (toWin_calls a s l k w3).mono ?_
  rintro e w4 ⟨rfl, hb4⟩
  have HX1 := Lib.hid ((hb4.block _ (Array.getElem?_eq_some_iff.1 HY1.out).1).trans HY1.out)
  have HX2 := Lib.hid ((hb4.block _ (Array.getElem?_eq_some_iff.1 HY2.out).1).trans HY2.out)
  have HX3 := Lib.hid ((hb4.block _ (Array.getElem?_eq_some_iff.1 HY3.out).1).trans HY3.out)
  have HV4 := Lib.hid (HV3.out.below hb4)
  have HB4 := Lib.hid (HB3.out.trans (hb4.mono HB3.out.size))
  have hz4 := hb4.size
  clear hb4 a0 a1 a2 a3 a4 a5 a6 b0 bf
  obtain ⟨a0, a1, a2, a3, a4, a5, a6⟩ := gap_cells HX1.out
  obtain ⟨r0, r1, r2, r3, r4, r5, r6⟩ := gap_cells HX2.out
  obtain ⟨f0, f1, f2, f3, f4, f5, f6⟩ := gap_frozen HX2.out
  obtain ⟨c0, c1, c2, c3, c4, c5, c6⟩ := gap_cells HX3.out
  obtain ⟨e0, e1, e2, e3, e4, e5, e6⟩ := gap_frozen HX3.out
  have hz5 : w.heap.size + 3 ≤ w4.heap.size := by have := HZ23.out; omega
  go_wp2_with fail
  refine bodyPost_ret (v := .agg #[.slice Av m.length cv, .int .i64 a, .int .i64 s, .int .i64 l, .int .i64 k, .int .i64 f, .int .i64 n]) (by simp [results, Try.results20, go_sem, c0, c1, c2, c3, c4, c5, c6]) rfl ⟨_, rfl, ?_, ?_⟩
  · have h0 := HL.out
    refine OwnM.mono (lo := w0.heap.size) (hi := w2.heap.size) ?_ (by omega) ?_
    · repeat (first | (with_reducible exact HV4.out) | (with_reducible refine own_setC ?_ (.inl (by omega))))
    · simp only [World.size_setCell]; have := HZ23.out; omega
  · (repeat (first | (with_reducible exact Below.refl _ _) | (with_reducible refine Below.drew ?_) | ((with_reducible refine Below.alloc ?_ ?hB _); case hB => (first | (with_reducible exact Nat.le_refl _) | omega | (simp; done) | (simp; omega))) | ((with_reducible refine Below.setCell ?_ ?hB _); case hB => (first | (with_reducible exact Nat.le_refl _) | omega | (simp; done) | (simp; omega)))))
    exact HB4.out

theorem szGap_calls (A : Option Addr) (c : Nat) (m : List (List Int)) (g : Gp) (w : World) (left : Int) (hr : Rd2 w w.heap.size A m) (hn : m.length ≤ maxLen) (hl0 : 0 ≤ left) (hl1 : left ≤ 1048576) :
    Calls Try.prog 18 #[.agg #[.slice A m.length c, .int .i64 g.w.arr, .int .i64 g.w.start, .int .i64 g.w.len, .int .i64 g.w.cap, .int .i64 g.fr, .int .i64 g.up], .int .i64 left] w fun e w' => SzM m left e ∧ Below w.heap.size w w' := by
  obtain ⟨w0, hw0⟩ : ∃ w0, (w.alloc (.cells #[.slice A m.length c, .int .i64 g.w.arr, .int .i64 g.w.start, .int .i64 g.w.len, .int .i64 g.w.cap, .int .i64 g.fr, .int .i64 g.up] 28)) = w0 := ⟨_, rfl⟩
  have hb0 : Below w.heap.size w w0 := by rw [← hw0]; exact (Below.refl _ _).alloc (Nat.le_refl _) _
  have HC := Lib.hid (szMemory_calls A c m w0 left ((hr.below hb0).more hb0.size) hn hl0 hl1)
  have HB := Lib.hid hb0
  have HW := Lib.hid hw0
  clear hr hb0 hw0
  go_enter Try.func18, Try.ntmps18
  go_wp2_with fail
  rw [HW.out]
  refine HC.out.mono ?_
  rintro e w2 ⟨⟨r, rfl, hr⟩, hb2⟩
  have HR := Lib.hid hr
  have HB2 := Lib.hid (HB.out.trans (hb2.mono HB.out.size))
  clear hb2
  by_cases hneg : r < 0
  · clear hr
    go_wp2_with fail
    go_ret
    exact ⟨⟨-1, rfl, .inl rfl⟩, HB2.out⟩
  · clear hr
    go_wp2_with fail
    go_ret
    exact ⟨⟨r, rfl, HR.out⟩, HB2.out⟩

set_option maxRecDepth 100000 in
/-- Two gaps that are the same. -/
theorem eqGap_same (A B : Option Addr) (c d : Nat) (m : List (List Int)) (g : Gp) (w : World) (hr : Rd2 w w.heap.size A m) (hq : Rd2 w w.heap.size B m) (hn : m.length ≤ maxLen) :
    Calls Try.prog 22 #[.agg #[.slice A m.length c, .int .i64 g.w.arr, .int .i64 g.w.start, .int .i64 g.w.len, .int .i64 g.w.cap, .int .i64 g.fr, .int .i64 g.up], .agg #[.slice B m.length d, .int .i64 g.w.arr, .int .i64 g.w.start, .int .i64 g.w.len, .int .i64 g.w.cap, .int .i64 g.fr, .int .i64 g.up]] w fun e w' => e = .returned (.bool true) ∧ Below w.heap.size w w' := by
  obtain ⟨⟨a, s, l, k⟩, f, n⟩ := g
  dsimp only
  have hff : (f != f) = false := by simp
  have hnn : (n != n) = false := by simp
  have HE : Hid (∀ W, Calls Try.prog 63 #[.agg #[.int .i64 a, .int .i64 s, .int .i64 l, .int .i64 k], .agg #[.int .i64 a, .int .i64 s, .int .i64 l, .int .i64 k]] W fun e w' => e = .returned (.bool true) ∧ Below W.heap.size W w') := Lib.hid fun W => by
    have h := eqWindow_calls ⟨a, s, l, k⟩ ⟨a, s, l, k⟩ W
    rw [show decide ((⟨a, s, l, k⟩ : Win) = ⟨a, s, l, k⟩) = true by simp] at h
    exact h
  obtain ⟨hb, g1, g2, gz⟩ := enter2 w (.cells #[.slice A m.length c, .int .i64 a, .int .i64 s, .int .i64 l, .int .i64 k, .int .i64 f, .int .i64 n] 34) (.cells #[.slice B m.length d, .int .i64 a, .int .i64 s, .int .i64 l, .int .i64 k, .int .i64 f, .int .i64 n] 34)
  obtain ⟨w0, hw0⟩ : ∃ w0, (w.alloc (.cells #[.slice A m.length c, .int .i64 a, .int .i64 s, .int .i64 l, .int .i64 k, .int .i64 f, .int .i64 n] 34)).alloc (.cells #[.slice B m.length d, .int .i64 a, .int .i64 s, .int .i64 l, .int .i64 k, .int .i64 f, .int .i64 n] 34) = w0 := ⟨_, rfl⟩
  rw [hw0] at hb g1 g2 gz
  have HC := Lib.hid (eqSame_calls A B c d m w0 ((hr.below hb).more hb.size) ((hq.below hb).more hb.size) hn)
  have HB := Lib.hid hb
  have HW := Lib.hid hw0
  have HG := Lib.hid (And.intro g1 g2)
  obtain ⟨a0, a1, a2, a3, a4, a5, a6⟩ := gap_cells g1
  obtain ⟨c0, c1, c2, c3, c4, c5, c6⟩ := gap_cells g2
  clear hb hw0 g1 g2 gz hr hq
  go_enter Try.func22, Try.ntmps22
  go_wp2_with fail
  rw [HW.out]
  refine HC.out.mono ?_
  rintro e w2 ⟨rfl, hb2⟩
  have HZ1 := Lib.hid ((hb2.block _ (Array.getElem?_eq_some_iff.1 HG.out.1).1).trans HG.out.1)
  have HZ2 := Lib.hid ((hb2.block _ (Array.getElem?_eq_some_iff.1 HG.out.2).1).trans HG.out.2)
  clear a0 a1 a2 a3 a4 a5 a6 c0 c1 c2 c3 c4 c5 c6
  obtain ⟨a0, a1, a2, a3, a4, a5, a6⟩ := gap_cells HZ1.out
  obtain ⟨c0, c1, c2, c3, c4, c5, c6⟩ := gap_cells HZ2.out
  have HB2 := Lib.hid (HB.out.trans (hb2.mono HB.out.size))
  clear hb2
  go_wp2_with fail
  refine (HE.out w2).mono ?_
  rintro e w3 ⟨rfl, hb3⟩
  have z1 := (hb3.block _ (Array.getElem?_eq_some_iff.1 HZ1.out).1).trans HZ1.out
  have z2 := (hb3.block _ (Array.getElem?_eq_some_iff.1 HZ2.out).1).trans HZ2.out
  clear a0 a1 a2 a3 a4 a5 a6 c0 c1 c2 c3 c4 c5 c6
  obtain ⟨a0, a1, a2, a3, a4, a5, a6⟩ := gap_cells z1
  obtain ⟨c0, c1, c2, c3, c4, c5, c6⟩ := gap_cells z2
  have HB3 := Lib.hid (HB2.out.trans (hb3.mono HB2.out.size))
  clear hb3 z1 z2
  go_wp2_with fail
  go_ret
  exact ⟨rfl, HB3.out⟩

theorem markG1_calls (A : Option Addr) (c lo hi : Nat) (m : List (List Int)) (g : Gp) (w : World) (ho : OwnM w lo hi (.slice A m.length c) m) (hn : m.length ≤ 2097152) (hs : total m ≤ 2097152) (hB : lo ≤ w.heap.size) (hH : hi ≤ w.heap.size) :
    Calls Try.prog 29 #[.agg #[.slice A m.length c, .int .i64 g.w.arr, .int .i64 g.w.start, .int .i64 g.w.len, .int .i64 g.w.cap, .int .i64 g.fr, .int .i64 g.up], .int .i64 1] w fun e w' => e = .returned (.int .i64 (1 + total m)) ∧ OwnM w' lo hi (.slice A m.length c) (marksM 1 m) ∧ Span lo hi w w' := by
  obtain ⟨w0, hw0⟩ : ∃ w0, (w.alloc (.cells #[.slice A m.length c, .int .i64 g.w.arr, .int .i64 g.w.start, .int .i64 g.w.len, .int .i64 g.w.cap, .int .i64 g.fr, .int .i64 g.up] 34)) = w0 := ⟨_, rfl⟩
  have hb0 : Below w.heap.size w w0 := by rw [← hw0]; exact (Below.refl _ _).alloc (Nat.le_refl _) _
  have HC := Lib.hid (mark1_calls A c lo hi m w0 (ho.below hb0) hn hs (Nat.le_trans hB hb0.size) (Nat.le_trans hH hb0.size))
  have HB := Lib.hid hb0
  have HW := Lib.hid hw0
  clear ho hb0 hw0
  go_enter Try.func29, Try.ntmps29
  go_wp2_with fail
  rw [HW.out]
  refine HC.out.mono ?_
  rintro e w2 ⟨rfl, ho2, hsp⟩
  have HO2 := Lib.hid ho2
  have HS2 := Lib.hid ((Span.of_below (lo := lo) (hi := hi) HB.out).trans hsp)
  clear ho2 hsp
  go_wp2_with fail
  go_ret
  exact ⟨rfl, HO2.out, HS2.out⟩

theorem heldG1_calls (A : Option Addr) (c lo hi : Nat) (m : List (List Int)) (g : Gp) (w : World) (ho : OwnM w lo hi (.slice A m.length c) (marksM 1 m)) (hn : m.length ≤ 2097152) (hs : total m ≤ 2097152) :
    Calls Try.prog 30 #[.agg #[.slice A m.length c, .int .i64 g.w.arr, .int .i64 g.w.start, .int .i64 g.w.len, .int .i64 g.w.cap, .int .i64 g.fr, .int .i64 g.up], .int .i64 1] w fun e w' => e = .returned (.int .i64 (1 + total m)) ∧ Below w.heap.size w w' := by
  obtain ⟨w0, hw0⟩ : ∃ w0, (w.alloc (.cells #[.slice A m.length c, .int .i64 g.w.arr, .int .i64 g.w.start, .int .i64 g.w.len, .int .i64 g.w.cap, .int .i64 g.fr, .int .i64 g.up] 34)) = w0 := ⟨_, rfl⟩
  have hb0 : Below w.heap.size w w0 := by rw [← hw0]; exact (Below.refl _ _).alloc (Nat.le_refl _) _
  have HC := Lib.hid (held1_calls A c lo hi m w0 (ho.below hb0) hn hs)
  have HB := Lib.hid hb0
  have HW := Lib.hid hw0
  clear ho hb0 hw0
  go_enter Try.func30, Try.ntmps30
  go_wp2_with fail
  rw [HW.out]
  refine HC.out.mono ?_
  rintro e w2 ⟨rfl, hb2⟩
  have HB2 := Lib.hid (HB.out.trans (hb2.mono HB.out.size))
  have hpos : ¬ ((1 : Int) + (total m : Nat)) < 0 := by omega
  clear hb2
  go_wp2_with fail
  go_ret
  exact ⟨rfl, HB2.out⟩
end Go.Proofs.Ytkclpppnjfhbpaa
