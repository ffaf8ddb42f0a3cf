/-
  toArena, szArena, eqArena, markArena, heldArena of the law.
-/
import Derived.Test.YtadmllfcnjekcaaArA
import Derived.Test.YtadmllfcnjekcaaIntT
namespace Go.Proofs.Ytadmllfcnjekcaa
open Go.RowKit

set_option maxRecDepth 100000 in
set_option maxHeartbeats 1600000 in
theorem toArena_calls (A B : Option Addr) (c d : Nat) (m : List (List Int)) (g : An) (w : World) (hr : RdA w w.heap.size A B m g.ms) (hn : m.length ≤ 1048576) (hs : ∀ r ∈ m, r.length ≤ 1048576) (hk : g.ms.length ≤ 1048576) :
    Calls Try.prog 20 #[.agg #[.slice A m.length c, .int .i64 g.w.arr, .int .i64 g.w.start, .int .i64 g.w.len, .int .i64 g.w.cap, .int .i64 g.us, .slice B g.ms.length d]] w fun e w' => ∃ v u, e = .returned (.agg #[v, .int .i64 g.w.arr, .int .i64 g.w.start, .int .i64 g.w.len, .int .i64 g.w.cap, .int .i64 g.us, u]) ∧ OwnA w' w.heap.size w'.heap.size v u m g.ms ∧ Below w.heap.size w w' := by
  obtain ⟨⟨a, s, l, k⟩, us, mk⟩ := g
  dsimp only at *
  obtain ⟨hb, g1, g2, g3, gz⟩ := enter3 w (.cells #[.slice A m.length c, .int .i64 a, .int .i64 s, .int .i64 l, .int .i64 k, .int .i64 us, .slice B mk.length d] 29) (.cells #[.slice none 0 0, .int .i64 0, .int .i64 0, .int .i64 0, .int .i64 0, .int .i64 0, .slice none 0 0] 35) (.cells #[.slice none 0 0, .int .i64 0, .int .i64 0, .int .i64 0, .int .i64 0, .int .i64 0, .slice none 0 0] 35)
  obtain ⟨w0, hw0⟩ : ∃ w0, ((w.alloc (.cells #[.slice A m.length c, .int .i64 a, .int .i64 s, .int .i64 l, .int .i64 k, .int .i64 us, .slice B mk.length d] 29)).alloc (.cells #[.slice none 0 0, .int .i64 0, .int .i64 0, .int .i64 0, .int .i64 0, .int .i64 0, .slice none 0 0] 35)).alloc (.cells #[.slice none 0 0, .int .i64 0, .int .i64 0, .int .i64 0, .int .i64 0, .int .i64 0, .slice none 0 0] 35) = w0 := ⟨_, rfl⟩
  rw [hw0] at hb g1 g2 g3 gz
  have hrb := hr.on hb
  have HC := Lib.hid (toMemory_calls A c m w0 hrb.1 hn hs)
  have HR := Lib.hid hr
  have HB := Lib.hid hb
  have HW := Lib.hid hw0
  have HG := Lib.hid (And.intro g1 (And.intro g2 g3))
  have HZ := Lib.hid gz
  obtain ⟨a0, a1, a2, a3, a4, a5, a6⟩ := ar_cells g1
  clear hb hw0 g1 g2 g3 hr hs gz hrb
  go_enter Try.func20, Try.ntmps20
  go_wp2_with fail
  rw [HW.out]
  refine HC.out.mono ?_
  rintro e w2 ⟨v, rfl, hv, hb2⟩
  obtain ⟨Av, cv, rfl, hcv⟩ := hv.form
  have HZ1 := Lib.hid ((hb2.block _ (Array.getElem?_eq_some_iff.1 HG.out.1).1).trans HG.out.1)
  have HZ2 := Lib.hid ((hb2.block _ (Array.getElem?_eq_some_iff.1 HG.out.2.1).1).trans HG.out.2.1)
  have HZ3 := Lib.hid ((hb2.block _ (Array.getElem?_eq_some_iff.1 HG.out.2.2).1).trans HG.out.2.2)
  have HV := Lib.hid hv
  have HB2 := Lib.hid (HB.out.trans (hb2.mono HB.out.size))
  have hz2 : w.heap.size + 3 ≤ w2.heap.size := by have := HZ.out; have := hb2.size; omega
  have HL := Lib.hid (show w.heap.size + 3 = w0.heap.size from HZ.out.symm)
  have HL2 := Lib.hid hb2.size
  clear hv hb2 a0 a1 a2 a3 a4 a5 a6
  obtain ⟨w3, hw3⟩ : ∃ w3, w2.setCell ⟨w.heap.size + 1 + 1, 0, none⟩ (.slice Av m.length cv) = w3 := ⟨_, rfl⟩
  have HW3 := Lib.hid hw3
  have HY1 := Lib.hid (show w3.heap[w.heap.size]? = some (.cells #[.slice A m.length c, .int .i64 a, .int .i64 s, .int .i64 l, .int .i64 k, .int .i64 us, .slice B mk.length d] 29) by rw [← hw3]; exact keep_set HZ1.out (by omega))
  have HY2 := Lib.hid (show w3.heap[w.heap.size + 1 + 1]? = some (.cells #[.slice Av m.length cv, .int .i64 0, .int .i64 0, .int .i64 0, .int .i64 0, .int .i64 0, .slice none 0 0] 35) by rw [← hw3]; simpa using ar_put (i := 0) (v := .slice Av m.length cv) HZ3.out)
  have HY3 := Lib.hid (show w3.heap[w.heap.size + 1]? = some (.cells #[.slice none 0 0, .int .i64 0, .int .i64 0, .int .i64 0, .int .i64 0, .int .i64 0, .slice none 0 0] 35) by rw [← hw3]; exact keep_set HZ2.out (by omega))
  have HV3 := Lib.hid (show OwnM w3 w0.heap.size w2.heap.size (.slice Av m.length cv) m by rw [← hw3]; exact own_setC HV.out (.inl (by have := HL.out; omega)))
  have HB3 := Lib.hid (show Below w.heap.size w w3 by rw [← hw3]; exact HB2.out.setCell (by simp; omega) _)
  have hz3 : w3.heap.size = w2.heap.size := by rw [← hw3, World.size_setCell]
  have HZ23 := Lib.hid hz3
  obtain ⟨a0, a1, a2, a3, a4, a5, a6⟩ := ar_cells HZ1.out
  have b0 := (ar_cells HZ3.out).1
  have bf := (ar_frozen HZ3.out).1
  clear hw3 hz3
  go_wp2_with fail
  rw [HW3.out]
  refine (toWin_calls a s l k w3).mono ?_
  rintro e w4 ⟨rfl, hb4⟩
  have HX1 := Lib.hid ((hb4.block _ (Array.getElem?_eq_some_iff.1 HY1.out).1).trans HY1.out)
  have HX2 := Lib.hid ((hb4.block _ (Array.getElem?_eq_some_iff.1 HY2.out).1).trans HY2.out)
  have HX3 := Lib.hid ((hb4.block _ (Array.getElem?_eq_some_iff.1 HY3.out).1).trans HY3.out)
  have HV4 := Lib.hid (HV3.out.below hb4)
  have HB4 := Lib.hid (HB3.out.trans (hb4.mono HB3.out.size))
  have HL4 := Lib.hid hb4.size
  have hz4 : w.heap.size + 3 ≤ w4.heap.size := by have := hb4.size; have := HZ23.out; omega
  clear hb4 a0 a1 a2 a3 a4 a5 a6 b0 bf
  obtain ⟨w5, hw5⟩ : ∃ w5, (((((w4.setCell ⟨w.heap.size + 1 + 1, 1, none⟩ (.int .i64 a)).setCell ⟨w.heap.size + 1 + 1, 2, none⟩ (.int .i64 s)).setCell ⟨w.heap.size + 1 + 1, 3, none⟩ (.int .i64 l)).setCell ⟨w.heap.size + 1 + 1, 4, none⟩ (.int .i64 k)).setCell ⟨w.heap.size + 1 + 1, 5, none⟩ (.int .i64 us)) = w5 := ⟨_, rfl⟩
  have HW5 := Lib.hid hw5
  have hs5 : Span (w.heap.size + 1) (w.heap.size + 3) w4 w5 := by
    rw [← hw5]
    exact span_set (span_set (span_set (span_set (span_set (Span.refl _ _ _) (by omega) (by omega)) (by omega) (by omega)) (by omega) (by omega)) (by omega) (by omega)) (by omega) (by omega)
  have HY1 := Lib.hid (show w5.heap[w.heap.size]? = some (.cells #[.slice A m.length c, .int .i64 a, .int .i64 s, .int .i64 l, .int .i64 k, .int .i64 us, .slice B mk.length d] 29) from (hs5.block _ (by omega) (.inl (by omega))).trans HX1.out)
  have HY2 := Lib.hid (show w5.heap[w.heap.size + 1 + 1]? = some (.cells #[.slice Av m.length cv, .int .i64 a, .int .i64 s, .int .i64 l, .int .i64 k, .int .i64 us, .slice none 0 0] 35) by
    rw [← hw5]
    have h5 := ar_put (i := 5) (v := .int .i64 us) (ar_put (i := 4) (v := .int .i64 k) (ar_put (i := 3) (v := .int .i64 l) (ar_put (i := 2) (v := .int .i64 s) (ar_put (i := 1) (v := .int .i64 a) HX2.out))))
    simpa using h5)
  have HY3 := Lib.hid (show w5.heap[w.heap.size + 1]? = some (.cells #[.slice none 0 0, .int .i64 0, .int .i64 0, .int .i64 0, .int .i64 0, .int .i64 0, .slice none 0 0] 35) by
    rw [← hw5]
    exact keep_set (keep_set (keep_set (keep_set (keep_set HX3.out (by omega)) (by omega)) (by omega)) (by omega)) (by omega))
  have HV5 := Lib.hid (show OwnM w5 w0.heap.size w2.heap.size (.slice Av m.length cv) m from HV4.out.span hs5 (.inr (by have := HL.out; omega)))
  have HB5 := Lib.hid (HB4.out.trans ((hs5.below (by omega)).mono (by omega)))
  have hz5 : w5.heap.size = w4.heap.size := by rw [← hw5]; simp only [World.size_setCell]
  have HZ5 := Lib.hid hz5
  have hr5 := HR.out.on HB5.out
  have HI := Lib.hid (toIntS_calls B d mk w5 hr5.2 hk)
  obtain ⟨a0, a1, a2, a3, a4, a5, a6⟩ := ar_cells HX1.out
  obtain ⟨r0, r1, r2, r3, r4, r5, r6⟩ := ar_cells HX2.out
  obtain ⟨f0, f1, f2, f3, f4, f5, f6⟩ := ar_frozen HX2.out
  clear hw5 hs5 hr5 hz5
  go_wp2_with fail
  rw [HW5.out]
  refine HI.out.mono ?_
  rintro e w6 ⟨vi, rfl, hi, hb6⟩
  obtain ⟨Bv, dv, rfl⟩ := own_form hi
  have HX1 := Lib.hid ((hb6.block _ (Array.getElem?_eq_some_iff.1 HY1.out).1).trans HY1.out)
  have HX2 := Lib.hid ((hb6.block _ (Array.getElem?_eq_some_iff.1 HY2.out).1).trans HY2.out)
  have HX3 := Lib.hid ((hb6.block _ (Array.getElem?_eq_some_iff.1 HY3.out).1).trans HY3.out)
  have HV6 := Lib.hid (HV5.out.below hb6)
  have HI6 : Hid (OwnR w6 w5.heap.size w6.heap.size 3 (.slice Bv mk.length dv) (intV .i64 mk)) := Lib.hid (OwnR.new (by rw [intV_len]; exact hi))
  have HB6 := Lib.hid (HB5.out.trans (hb6.mono HB5.out.size))
  have HL6 := Lib.hid hb6.size
  have hz6 : w.heap.size + 3 ≤ w6.heap.size := by have := hb6.size; have := HZ5.out; omega
  clear hb6 hi a0 a1 a2 a3 a4 a5 a6 r0 r1 r2 r3 r4 r5 r6 f0 f1 f2 f3 f4 f5 f6
  obtain ⟨a0, a1, a2, a3, a4, a5, a6⟩ := ar_cells HX1.out
  obtain ⟨r0, r1, r2, r3, r4, r5, r6⟩ := ar_cells HX2.out
  obtain ⟨f0, f1, f2, f3, f4, f5, f6⟩ := ar_frozen HX2.out
  obtain ⟨c0, c1, c2, c3, c4, c5, c6⟩ := ar_cells HX3.out
  obtain ⟨e0, e1, e2, e3, e4, e5, e6⟩ := ar_frozen HX3.out
  go_wp2_with fail
  refine bodyPost_ret (v := .agg #[.slice Av m.length cv, .int .i64 a, .int .i64 s, .int .i64 l, .int .i64 k, .int .i64 us, .slice Bv mk.length dv]) (by simp [results, Try.results20, go_sem, c0, c1, c2, c3, c4, c5, c6]) rfl ⟨_, _, rfl, ?_, ?_⟩
  · have h0 := HL.out
    have h1 := HZ23.out
    have h2 := HZ5.out
    have h3 := HL4.out
    have h4 := HL6.out
    have h5 := HL2.out
    refine OwnA.mono (lo := w0.heap.size) (hi := w6.heap.size) ?_ (by omega) (by simp only [World.size_setCell]; omega)
    repeat (first | (with_reducible refine OwnA.setC ?_ (.inl (by omega))))
    exact ⟨w5.heap.size, by omega, by omega, HV6.out.mono (Nat.le_refl _) (by omega), HI6.out⟩
  · (repeat (first | (with_reducible exact Below.refl _ _) | (with_reducible refine Below.drew ?_) | ((with_reducible refine Below.alloc ?_ ?hB _); case hB => (first | (with_reducible exact Nat.le_refl _) | omega | (simp; done) | (simp; omega))) | ((with_reducible refine Below.setCell ?_ ?hB _); case hB => (first | (with_reducible exact Nat.le_refl _) | omega | (simp; done) | (simp; omega)))))
    exact HB6.out

/-- What szArena answers: -1, or the number that is left. -/
def SzA (m : List (List Int)) (mk : List Int) (left : Int) (e : Ending) : Prop :=
  ∃ r : Int, e = .returned (.int .i64 r) ∧ (r = -1 ∨ (0 ≤ r ∧ r = left - m.length - total m - mk.length))
theorem szIntS_calls (A : Option Addr) (n c : Nat) (w : World) (left : Int) (hn : n ≤ maxLen) (hl0 : 0 ≤ left) (hl1 : left ≤ 1048576) :
    Calls Try.prog 78 #[.slice A n c, .int .i64 left] w fun e w' => e = .returned (.int .i64 (if left < n then -1 else left - n)) ∧ w' = w := by
  unfold maxLen at hn
  by_cases h0 : left < n
  · rw [if_pos h0]
    go_enter Try.func78, Try.ntmps78
    go_wp2
    go_ret
    exact ⟨rfl, rfl⟩
  · rw [if_neg h0]
    go_enter Try.func78, Try.ntmps78
    go_wp2
    go_ret
    exact ⟨rfl, rfl⟩
theorem szArena_calls (A B : Option Addr) (c d : Nat) (m : List (List Int)) (g : An) (w : World) (left : Int) (hr : Rd2 w w.heap.size A m) (hn : m.length ≤ maxLen) (hk : g.ms.length ≤ maxLen) (hl0 : 0 ≤ left) (hl1 : left ≤ 1048576) :
    Calls Try.prog 18 #[.agg #[.slice A m.length c, .int .i64 g.w.arr, .int .i64 g.w.start, .int .i64 g.w.len, .int .i64 g.w.cap, .int .i64 g.us, .slice B g.ms.length d], .int .i64 left] w fun e w' => SzA m g.ms left e ∧ Below w.heap.size w w' := by
  obtain ⟨w0, hw0⟩ : ∃ w0, (w.alloc (.cells #[.slice A m.length c, .int .i64 g.w.arr, .int .i64 g.w.start, .int .i64 g.w.len, .int .i64 g.w.cap, .int .i64 g.us, .slice B g.ms.length d] 29)) = w0 := ⟨_, rfl⟩
  have hb0 : Below w.heap.size w w0 := by rw [← hw0]; exact (Below.refl _ _).alloc (Nat.le_refl _) _
  have HX := Lib.hid (show w0.heap[w.heap.size]? = some (.cells #[.slice A m.length c, .int .i64 g.w.arr, .int .i64 g.w.start, .int .i64 g.w.len, .int .i64 g.w.cap, .int .i64 g.us, .slice B g.ms.length d] 29) by rw [← hw0]; exact heap_alloc_new _ _)
  have HC := Lib.hid (szMemory_calls A c m w0 left ((hr.below hb0).more hb0.size) hn hl0 hl1)
  have HB := Lib.hid hb0
  have HW := Lib.hid hw0
  clear hr hb0 hw0
  obtain ⟨a0, a1, a2, a3, a4, a5, a6⟩ := ar_cells HX.out
  go_enter Try.func18, Try.ntmps18
  go_wp2_with fail
  rw [HW.out]
  refine HC.out.mono ?_
  rintro e w2 ⟨⟨r, rfl, hr⟩, hb2⟩
  have HR := Lib.hid hr
  have HX2 := Lib.hid ((hb2.block _ (Array.getElem?_eq_some_iff.1 HX.out).1).trans HX.out)
  have HB2 := Lib.hid (HB.out.trans (hb2.mono HB.out.size))
  clear hb2 a0 a1 a2 a3 a4 a5 a6
  by_cases hneg : r < 0
  · clear hr
    go_wp2_with fail
    go_ret
    exact ⟨⟨-1, rfl, .inl rfl⟩, HB2.out⟩
  · have hr0 : 0 ≤ r := by omega
    have hr1 : r ≤ 1048576 := by omega
    have hr2 : r = left - m.length - total m := by omega
    have HI := Lib.hid (szIntS_calls B g.ms.length d w2 r hk hr0 hr1)
    have HE := Lib.hid hr2
    obtain ⟨a0, a1, a2, a3, a4, a5, a6⟩ := ar_cells HX2.out
    clear hr hr2
    by_cases h1 : r < g.ms.length
    · rw [if_pos h1] at HI
      go_wp2_with fail
      refine HI.out.mono ?_
      rintro e w3 ⟨rfl, rfl⟩
      go_wp2_with fail
      go_ret
      exact ⟨⟨-1, rfl, .inl rfl⟩, HB2.out⟩
    · rw [if_neg h1] at HI
      have h2 : ¬ r - (g.ms.length : Nat) < 0 := by omega
      go_wp2_with fail
      refine HI.out.mono ?_
      rintro e w3 ⟨rfl, rfl⟩
      go_wp2_with fail
      go_ret
      exact ⟨⟨_, rfl, .inr ⟨by omega, by have := HE.out; omega⟩⟩, HB2.out⟩

set_option maxRecDepth 100000 in
set_option maxHeartbeats 1600000 in
/-- Two arenas that are the same. -/
theorem eqArena_same (A B A2 B2 : Option Addr) (c d c2 d2 : Nat) (m : List (List Int)) (g : An) (w : World) (hr : RdA w w.heap.size A B m g.ms) (hq : RdA w w.heap.size A2 B2 m g.ms) (hn : m.length ≤ maxLen) (hk : g.ms.length ≤ 2097152) :
    Calls Try.prog 22 #[.agg #[.slice A m.length c, .int .i64 g.w.arr, .int .i64 g.w.start, .int .i64 g.w.len, .int .i64 g.w.cap, .int .i64 g.us, .slice B g.ms.length d], .agg #[.slice A2 m.length c2, .int .i64 g.w.arr, .int .i64 g.w.start, .int .i64 g.w.len, .int .i64 g.w.cap, .int .i64 g.us, .slice B2 g.ms.length d2]] w fun e w' => e = .returned (.bool true) ∧ Below w.heap.size w w' := by
  obtain ⟨⟨a, s, l, k⟩, us, mk⟩ := g
  dsimp only at *
  have hff : (us != us) = false := by simp
  have HE : Hid (∀ W, Calls Try.prog 35 #[.agg #[.int .i64 a, .int .i64 s, .int .i64 l, .int .i64 k], .agg #[.int .i64 a, .int .i64 s, .int .i64 l, .int .i64 k]] W fun e w' => e = .returned (.bool true) ∧ Below W.heap.size W w') := Lib.hid fun W => by
    have h := eqWindow_calls ⟨a, s, l, k⟩ ⟨a, s, l, k⟩ W
    rw [show decide ((⟨a, s, l, k⟩ : Win) = ⟨a, s, l, k⟩) = true by simp] at h
    exact h
  obtain ⟨hb, g1, g2, gz⟩ := enter2 w (.cells #[.slice A m.length c, .int .i64 a, .int .i64 s, .int .i64 l, .int .i64 k, .int .i64 us, .slice B mk.length d] 35) (.cells #[.slice A2 m.length c2, .int .i64 a, .int .i64 s, .int .i64 l, .int .i64 k, .int .i64 us, .slice B2 mk.length d2] 35)
  obtain ⟨w0, hw0⟩ : ∃ w0, (w.alloc (.cells #[.slice A m.length c, .int .i64 a, .int .i64 s, .int .i64 l, .int .i64 k, .int .i64 us, .slice B mk.length d] 35)).alloc (.cells #[.slice A2 m.length c2, .int .i64 a, .int .i64 s, .int .i64 l, .int .i64 k, .int .i64 us, .slice B2 mk.length d2] 35) = w0 := ⟨_, rfl⟩
  rw [hw0] at hb g1 g2 gz
  have HC := Lib.hid (eqSame_calls A A2 c c2 m w0 (hr.on hb).1 (hq.on hb).1 hn)
  have HR := Lib.hid hr
  have HQ := Lib.hid hq
  have HB := Lib.hid hb
  have HW := Lib.hid hw0
  have HG := Lib.hid (And.intro g1 g2)
  obtain ⟨a0, a1, a2, a3, a4, a5, a6⟩ := ar_cells g1
  obtain ⟨c0, c1, c2, c3, c4, c5, c6⟩ := ar_cells g2
  clear hb hw0 g1 g2 gz hr hq
  go_enter Try.func22, Try.ntmps22
  go_wp2_with fail
  rw [HW.out]
  refine HC.out.mono ?_
  rintro e w2 ⟨rfl, hb2⟩
  have HZ1 := Lib.hid ((hb2.block _ (Array.getElem?_eq_some_iff.1 HG.out.1).1).trans HG.out.1)
  have HZ2 := Lib.hid ((hb2.block _ (Array.getElem?_eq_some_iff.1 HG.out.2).1).trans HG.out.2)
  clear a0 a1 a2 a3 a4 a5 a6 c0 c1 c2 c3 c4 c5 c6
  obtain ⟨a0, a1, a2, a3, a4, a5, a6⟩ := ar_cells HZ1.out
  obtain ⟨c0, c1, c2, c3, c4, c5, c6⟩ := ar_cells HZ2.out
  have HB2 := Lib.hid (HB.out.trans (hb2.mono HB.out.size))
  clear hb2
  go_wp2_with fail
  refine (HE.out w2).mono ?_
  rintro e w3 ⟨rfl, hb3⟩
  have z1 := Lib.hid ((hb3.block _ (Array.getElem?_eq_some_iff.1 HZ1.out).1).trans HZ1.out)
  have z2 := Lib.hid ((hb3.block _ (Array.getElem?_eq_some_iff.1 HZ2.out).1).trans HZ2.out)
  clear a0 a1 a2 a3 a4 a5 a6 c0 c1 c2 c3 c4 c5 c6
  obtain ⟨a0, a1, a2, a3, a4, a5, a6⟩ := ar_cells z1.out
  obtain ⟨c0, c1, c2, c3, c4, c5, c6⟩ := ar_cells z2.out
  have HB3 := Lib.hid (HB2.out.trans (hb3.mono HB2.out.size))
  have HI := Lib.hid (fun W (hb : Below w3.heap.size w3 W) => eqI_calls B B2 d d2 W (HR.out.on (HB3.out.trans (hb.mono HB3.out.size))).2 (HQ.out.on (HB3.out.trans (hb.mono HB3.out.size))).2 hk)
  clear hb3
  go_wp2_with fail
  refine (HI.out _ (by first | exact Below.refl _ _ | exact (Below.refl _ _).drew)).mono ?_
  rintro e w4 ⟨rfl, hb4⟩
  have HB4 := Lib.hid (HB3.out.trans (hb4.mono HB3.out.size))
  clear a0 a1 a2 a3 a4 a5 a6 c0 c1 c2 c3 c4 c5 c6 hb4
  go_wp2_with fail
  go_ret
  exact ⟨rfl, HB4.out⟩

theorem markIk_calls (A : Option Addr) (c lo hi : Nat) (R : List Int) (k : Nat) (kk : Int) (w : World) (ho : OwnR w lo hi 3 (.slice A R.length c) (intV .i64 R)) (hk : kk = (k : Nat)) (hk2 : k ≤ 4194304) (hR : R.length ≤ 2097152) (hB : lo ≤ w.heap.size) :
    Calls Try.prog 58 #[.slice A R.length c, .int .i64 kk] w fun e w' => e = .returned (.int .i64 (kk + R.length)) ∧ OwnR w' lo hi 3 (.slice A R.length c) (intV .i64 (marksI k R.length)) ∧ Span lo hi w w' := by
  subst hk
  have h1 := ho.1
  rw [intV_len] at h1
  refine (markIntS_calls A c lo R k w h1 hR hk2 hB).mono ?_
  rintro e w' ⟨rfl, h2, hg⟩
  exact ⟨rfl, ⟨by rw [intV_len, marksI_len]; exact h2, ho.2⟩, Span.of_grown hg (fun g e => ⟨(h1.lt g e).1, ho.2 g e⟩)⟩

theorem markA1_calls (A B : Option Addr) (c d lo hi : Nat) (m : List (List Int)) (g : An) (w : World) (ho : OwnA w lo hi (.slice A m.length c) (.slice B g.ms.length d) m g.ms) (hn : m.length ≤ 2097152) (hs : total m ≤ 2097152) (hk : g.ms.length ≤ 2097152) (hB : lo ≤ w.heap.size) (hH : hi ≤ w.heap.size) :
    Calls Try.prog 30 #[.agg #[.slice A m.length c, .int .i64 g.w.arr, .int .i64 g.w.start, .int .i64 g.w.len, .int .i64 g.w.cap, .int .i64 g.us, .slice B g.ms.length d], .int .i64 1] w fun e w' => e = .returned (.int .i64 (1 + total m + g.ms.length)) ∧ OwnA w' lo hi (.slice A m.length c) (.slice B g.ms.length d) (marksM 1 m) (marksI (1 + total m) g.ms.length) ∧ Span lo hi w w' := by
  obtain ⟨mid, h1, h2, h3, h4⟩ := ho
  obtain ⟨w0, hw0⟩ : ∃ w0, (w.alloc (.cells #[.slice A m.length c, .int .i64 g.w.arr, .int .i64 g.w.start, .int .i64 g.w.len, .int .i64 g.w.cap, .int .i64 g.us, .slice B g.ms.length d] 35)) = w0 := ⟨_, rfl⟩
  have hb0 : Below w.heap.size w w0 := by rw [← hw0]; exact (Below.refl _ _).alloc (Nat.le_refl _) _
  have HX := Lib.hid (show w0.heap[w.heap.size]? = some (.cells #[.slice A m.length c, .int .i64 g.w.arr, .int .i64 g.w.start, .int .i64 g.w.len, .int .i64 g.w.cap, .int .i64 g.us, .slice B g.ms.length d] 35) by rw [← hw0]; exact heap_alloc_new _ _)
  have HC := Lib.hid (mark1_calls A c lo mid m w0 (h3.below hb0) hn hs (Nat.le_trans hB hb0.size) (Nat.le_trans (Nat.le_trans h2 hH) hb0.size))
  have HB := Lib.hid hb0
  have HW := Lib.hid hw0
  have HI := Lib.hid (h4.below hb0)
  have hl0 := hb0.size
  clear hb0 hw0 h3 h4
  obtain ⟨a0, a1, a2, a3, a4, a5, a6⟩ := ar_cells HX.out
  go_enter Try.func30, Try.ntmps30
  go_wp2_with fail
  rw [HW.out]
  refine HC.out.mono ?_
  rintro e w2 ⟨rfl, ho2, hsp⟩
  have HO2 := Lib.hid ho2
  have hz0 := (Array.getElem?_eq_some_iff.1 HX.out).1
  have HX2 := Lib.hid ((hsp.block _ hz0 (.inr (by omega))).trans HX.out)
  have HS2 := Lib.hid ((Span.of_below (lo := lo) (hi := mid) HB.out).trans hsp)
  have HK := Lib.hid (markIk_calls B d mid hi g.ms (1 + total m) (1 + (total m : Nat)) w2 (HI.out.span hsp (.inr (Nat.le_refl _))) (by omega) (by omega) hk (by have := hsp.size; omega))
  clear ho2 a0 a1 a2 a3 a4 a5 a6 hz0 hsp
  obtain ⟨a0, a1, a2, a3, a4, a5, a6⟩ := ar_cells HX2.out
  go_wp2_with fail
  refine HK.out.mono ?_
  rintro e w3 ⟨rfl, ho3, hsp3⟩
  have HO3 := Lib.hid ho3
  have HO2b := Lib.hid (HO2.out.span hsp3 (.inl (Nat.le_refl _)))
  have HS3 := Lib.hid ((HS2.out.mono (lo' := lo) (hi' := hi) (Nat.le_refl _) h2).trans (hsp3.mono h1 (Nat.le_refl _)))
  clear ho3 hsp3
  go_wp2_with fail
  go_ret
  exact ⟨rfl, ⟨mid, h1, h2, HO2b.out, HO3.out⟩, HS3.out⟩

theorem heldA1_calls (A B : Option Addr) (c d lo hi : Nat) (m : List (List Int)) (g : An) (w : World) (ho : OwnA w lo hi (.slice A m.length c) (.slice B g.ms.length d) (marksM 1 m) (marksI (1 + total m) g.ms.length)) (hn : m.length ≤ 2097152) (hs : total m ≤ 2097152) (hk : g.ms.length ≤ 2097152) :
    Calls Try.prog 31 #[.agg #[.slice A m.length c, .int .i64 g.w.arr, .int .i64 g.w.start, .int .i64 g.w.len, .int .i64 g.w.cap, .int .i64 g.us, .slice B g.ms.length d], .int .i64 1] w fun e w' => e = .returned (.int .i64 (1 + total m + g.ms.length)) ∧ Below w.heap.size w w' := by
  obtain ⟨mid, h1, h2, h3, h4⟩ := ho
  obtain ⟨w0, hw0⟩ : ∃ w0, (w.alloc (.cells #[.slice A m.length c, .int .i64 g.w.arr, .int .i64 g.w.start, .int .i64 g.w.len, .int .i64 g.w.cap, .int .i64 g.us, .slice B g.ms.length d] 35)) = w0 := ⟨_, rfl⟩
  have hb0 : Below w.heap.size w w0 := by rw [← hw0]; exact (Below.refl _ _).alloc (Nat.le_refl _) _
  have HX := Lib.hid (show w0.heap[w.heap.size]? = some (.cells #[.slice A m.length c, .int .i64 g.w.arr, .int .i64 g.w.start, .int .i64 g.w.len, .int .i64 g.w.cap, .int .i64 g.us, .slice B g.ms.length d] 35) by rw [← hw0]; exact heap_alloc_new _ _)
  have HC := Lib.hid (held1_calls A c lo mid m w0 (h3.below hb0) hn hs)
  have HB := Lib.hid hb0
  have HW := Lib.hid hw0
  have HI := Lib.hid h4
  clear hb0 hw0 h3 h4
  obtain ⟨a0, a1, a2, a3, a4, a5, a6⟩ := ar_cells HX.out
  go_enter Try.func31, Try.ntmps31
  go_wp2_with fail
  rw [HW.out]
  refine HC.out.mono ?_
  rintro e w2 ⟨rfl, hb2⟩
  have HX2 := Lib.hid ((hb2.block _ (Array.getElem?_eq_some_iff.1 HX.out).1).trans HX.out)
  have HB2 := Lib.hid (HB.out.trans (hb2.mono HB.out.size))
  have hpos : ¬ ((1 : Int) + (total m : Nat)) < 0 := by omega
  have hi2 := HI.out.below HB2.out
  have hi3 := hi2.1
  rw [intV_len, marksI_len] at hi3
  have HK := Lib.hid (heldIntS_calls B d g.ms.length (1 + total m) w2 (Rd.of_own hi3) hk (by omega))
  have hcast : ((1 + total m : Nat) : Int) = 1 + (total m : Nat) := by omega
  rw [hcast] at HK
  have hpos2 : ¬ ((1 : Int) + (total m : Nat) + (g.ms.length : Nat)) < 0 := by omega
  clear hb2 hi2 hi3 a0 a1 a2 a3 a4 a5 a6
  obtain ⟨a0, a1, a2, a3, a4, a5, a6⟩ := ar_cells HX2.out
  go_wp2_with fail
  refine HK.out.mono ?_
  rintro e w3 ⟨rfl, rfl⟩
  go_wp2_with fail
  go_ret
  exact ⟨rfl, HB2.out⟩
end Go.Proofs.Ytadmllfcnjekcaa
