/-
  IsGiven of spec and impl.
-/
import Derived.Test.YtadmllfcnjekcaaArL
import Derived.Deep.DeepCutAuto
namespace Go.Proofs.Ytadmllfcnjekcaa
open Go.RowKit

/-- Blocks b and b + 1 are an arena and a window that came in. -/
structure AW (W : World) (b : Nat) (A B : Option Addr) (n c d : Nat) (g : An) (x : Win) : Prop where
  ar : W.heap[b]? = some (.cells #[.slice A n c, .int .i64 g.w.arr, .int .i64 g.w.start, .int .i64 g.w.len, .int .i64 g.w.cap, .int .i64 g.us, .slice B g.ms.length d] 35)
  win : W.heap[b + 1]? = some (.cells #[.int .i64 x.arr, .int .i64 x.start, .int .i64 x.len, .int .i64 x.cap] 33)
theorem AW.below {W W' : World} {b : Nat} {A B : Option Addr} {n c d : Nat} {g : An} {x : Win} (h : AW W b A B n c d g x) (hb : Below W.heap.size W W') : AW W' b A B n c d g x :=
  ⟨(hb.block _ (Array.getElem?_eq_some_iff.1 h.ar).1).trans h.ar, (hb.block _ (Array.getElem?_eq_some_iff.1 h.win).1).trans h.win⟩
theorem enterAW (A B : Option Addr) (n c d : Nat) (g : An) (x : Win) (w : World) :
    ∃ w0, (w.alloc (.cells #[.slice A n c, .int .i64 g.w.arr, .int .i64 g.w.start, .int .i64 g.w.len, .int .i64 g.w.cap, .int .i64 g.us, .slice B g.ms.length d] 35)).alloc (.cells #[.int .i64 x.arr, .int .i64 x.start, .int .i64 x.len, .int .i64 x.cap] 33) = w0 ∧ Below w.heap.size w w0 ∧ AW w0 w.heap.size A B n c d g x := by
  obtain ⟨h1, h2, h3, h4⟩ := enter2 w (.cells #[.slice A n c, .int .i64 g.w.arr, .int .i64 g.w.start, .int .i64 g.w.len, .int .i64 g.w.cap, .int .i64 g.us, .slice B g.ms.length d] 35) (.cells #[.int .i64 x.arr, .int .i64 x.start, .int .i64 x.len, .int .i64 x.cap] 33)
  exact ⟨_, rfl, h1, h2, h3⟩
theorem WinOK.sums {m : List (List Int)} {x : Win} (h : WinOK m x) : 0 ≤ x.start ∧ x.start ≤ 64 ∧ 0 ≤ x.cap ∧ x.cap ≤ 64 := by
  obtain ⟨n, s, l, c, e, hn, h4, h5, h6, h7, h8⟩ := h.nat
  rw [e]
  dsimp only at *
  omega

set_option maxRecDepth 100000 in
set_option maxHeartbeats 3200000 in
theorem specIsGiven_calls (A B : Option Addr) (cm d : Nat) (m : List (List Int)) (g : An) (x : Win) (w : World) (hr : RdA w w.heap.size A B m g.ms) (hn : m.length ≤ maxLen) (hkl : g.ms.length ≤ maxLen) :
    Calls Try.prog 64 #[.agg #[.slice A m.length cm, .int .i64 g.w.arr, .int .i64 g.w.start, .int .i64 g.w.len, .int .i64 g.w.cap, .int .i64 g.us, .slice B g.ms.length d], .agg #[.int .i64 x.arr, .int .i64 x.start, .int .i64 x.len, .int .i64 x.cap]] w fun e w' => e = .returned (.tuple #[.bool (isGivenR m g x).1, .bool (isGivenR m g x).2]) ∧ Below w.heap.size w w' := by
  obtain ⟨w0, hw0, hb0, haw⟩ := enterAW A B m.length cm d g x w
  have HC := Lib.hid (specArena_calls A B cm d m g w0 (hr.on hb0) hn hkl)
  have HR := Lib.hid hr
  have HB := Lib.hid hb0
  have HW := Lib.hid hw0
  have HAW := Lib.hid haw
  obtain ⟨c0, d0, d1, d2, d3, d4, d5⟩ := ar_cells haw.ar
  obtain ⟨x0, x1, x2, x3⟩ := four_cells haw.win
  clear hr hb0 hw0 haw
  go_enter Try.func64, Try.ntmps64
  go_wp2_with fail
  rw [HW.out]
  refine HC.out.mono ?_
  rintro e w2 ⟨rfl, hb2⟩
  have HB2 := Lib.hid (HB.out.trans (hb2.mono HB.out.size))
  have HAW2 := Lib.hid (HAW.out.below hb2)
  clear hb2 c0 d0 d1 d2 d3 d4 d5 x0 x1 x2 x3
  by_cases hok : ArOK m g
  · have hd : decide (ArOK m g) = true := decide_eq_true hok
    obtain ⟨c0, d0, d1, d2, d3, d4, d5⟩ := ar_cells HAW2.out.ar
    obtain ⟨x0, x1, x2, x3⟩ := four_cells HAW2.out.win
    have HWN := Lib.hid (specWindow_calls A cm m x w2 (HR.out.on HB2.out).1 hn)
    go_wp2_with fail
    refine HWN.out.mono ?_
    rintro e w3 ⟨rfl, hb3⟩
    have HB3 := Lib.hid (HB2.out.trans (hb3.mono HB2.out.size))
    have HAW3 := Lib.hid (HAW2.out.below hb3)
    clear hb3 c0 d0 d1 d2 d3 d4 d5 x0 x1 x2 x3
    by_cases hxo : WinOK m x
    · have hd2 : decide (WinOK m x) = true := decide_eq_true hxo
      obtain ⟨c0, d0, d1, d2, d3, d4, d5⟩ := ar_cells HAW3.out.ar
      obtain ⟨x0, x1, x2, x3⟩ := four_cells HAW3.out.win
      obtain ⟨s0, s1, s2, s3⟩ := hxo.sums
      obtain ⟨t0, t1, t2, t3⟩ := hok.1.sums
      obtain ⟨b0, b1, b2, b3, b4⟩ := hok.bounds
      have k0 : IntKind.i64.wrap (x.start + x.cap) = x.start + x.cap := IntWalk.i64_in _ (by omega)
      have k1 : IntKind.i64.wrap (g.w.start + g.us) = g.w.start + g.us := IntWalk.i64_in _ (by omega)
      have HV0 : Hid (isGivenR m g x = (decide (x.arr = g.w.arr ∧ g.w.start ≤ x.start ∧ x.start + x.cap ≤ g.w.start + g.us), true)) := Lib.hid (by rw [isGivenR, if_pos ⟨hok, hxo⟩])
      clear hok hxo
      by_cases h1 : x.arr = g.w.arr
      · have e1 : (x.arr == g.w.arr) = true := by simp [h1]
        by_cases h2 : g.w.start ≤ x.start
        · have HV : Hid (isGivenR m g x = (decide (x.start + x.cap ≤ g.w.start + g.us), true)) := Lib.hid (by rw [HV0.out]; simp [h1, h2])
          have H1 := Lib.hid h1
          clear h1
          go_wp2_with fail
          refine bodyPost_ret (v := .tuple #[.bool (decide (x.start + x.cap ≤ g.w.start + g.us)), .bool true]) (by simp [results, Try.results64, go_sem]) rfl ⟨by rw [HV.out], HB3.out⟩
        · have HV : Hid (isGivenR m g x = (false, true)) := Lib.hid (by rw [HV0.out]; simp [h2])
          have H1 := Lib.hid h1
          clear h1
          go_wp2_with fail
          refine bodyPost_ret (v := .tuple #[.bool false, .bool true]) (by simp [results, Try.results64, go_sem]) rfl ⟨by rw [HV.out], HB3.out⟩
      · have HV : Hid (isGivenR m g x = (false, true)) := Lib.hid (by rw [HV0.out]; simp [h1])
        have e1 : (x.arr == g.w.arr) = false := by simp [h1]
        clear h1
        go_wp2_with fail
        refine bodyPost_ret (v := .tuple #[.bool false, .bool true]) (by simp [results, Try.results64, go_sem]) rfl ⟨by rw [HV.out], HB3.out⟩
    · have hd2 : decide (WinOK m x) = false := decide_eq_false hxo
      have HV : Hid (isGivenR m g x = (false, false)) := Lib.hid (by rw [isGivenR, if_neg (fun h => hxo h.2)])
      clear hok hxo
      go_wp2_with fail
      refine bodyPost_ret (v := .tuple #[.bool false, .bool false]) (by simp [results, Try.results64, go_sem]) rfl ⟨by rw [HV.out], HB3.out⟩
  · have hd : decide (ArOK m g) = false := decide_eq_false hok
    have HV : Hid (isGivenR m g x = (false, false)) := Lib.hid (by rw [isGivenR, if_neg (fun h => hok h.1)])
    clear hok
    go_wp2_with fail
    refine bodyPost_ret (v := .tuple #[.bool false, .bool false]) (by simp [results, Try.results64, go_sem]) rfl ⟨by rw [HV.out], HB2.out⟩

set_option maxRecDepth 100000 in
set_option maxHeartbeats 3200000 in
theorem implIsGiven_calls (A B : Option Addr) (cm d : Nat) (m : List (List Int)) (g : An) (x : Win) (w : World) (hr : RdA w w.heap.size A B m g.ms) (hn : m.length ≤ maxLen) (hkl : g.ms.length ≤ maxLen) (hx : AArgW g) (hxw : WArg x) :
    Calls Try.prog 65 #[.agg #[.slice A m.length cm, .int .i64 g.w.arr, .int .i64 g.w.start, .int .i64 g.w.len, .int .i64 g.w.cap, .int .i64 g.us, .slice B g.ms.length d], .agg #[.int .i64 x.arr, .int .i64 x.start, .int .i64 x.len, .int .i64 x.cap]] w fun e w' => e = .returned (.tuple #[.bool (isGivenR m g x).1, .bool (isGivenR m g x).2]) ∧ Below w.heap.size w w' := by
  obtain ⟨w0, hw0, hb0, haw⟩ := enterAW A B m.length cm d g x w
  have HC := Lib.hid (implIsArena_calls A B cm d m g w0 (hr.on hb0) hn hkl hx)
  have HR := Lib.hid hr
  have HB := Lib.hid hb0
  have HW := Lib.hid hw0
  have HAW := Lib.hid haw
  obtain ⟨c0, d0, d1, d2, d3, d4, d5⟩ := ar_cells haw.ar
  obtain ⟨x0, x1, x2, x3⟩ := four_cells haw.win
  have hrb := run_win1
  clear hr hb0 hw0 haw
  go_enter Try.func65, Try.ntmps65
  go_wp2_with fail
  rw [HW.out]
  refine HC.out.mono ?_
  rintro e w2 ⟨rfl, hb2⟩
  have HB2 := Lib.hid (HB.out.trans (hb2.mono HB.out.size))
  have HAW2 := Lib.hid (HAW.out.below hb2)
  clear hb2 c0 d0 d1 d2 d3 d4 d5 x0 x1 x2 x3
  by_cases hok : ArOK m g
  · have hd : isArenaR m g = true := decide_eq_true hok
    obtain ⟨c0, d0, d1, d2, d3, d4, d5⟩ := ar_cells HAW2.out.ar
    obtain ⟨x0, x1, x2, x3⟩ := four_cells HAW2.out.win
    have HWN := Lib.hid (areOne_calls A cm m x w2 (HR.out.on HB2.out).1 hn hxw w2.heap.size (by omega))
    go_wp2_with fail
    clear hrb
    refine HWN.out.mono ?_
    rintro e w3 ⟨rfl, hb3⟩
    have HB3 := Lib.hid (HB2.out.trans (hb3.mono HB2.out.size))
    have HAW3 := Lib.hid (HAW2.out.below hb3)
    clear hb3 c0 d0 d1 d2 d3 d4 d5 x0 x1 x2 x3
    by_cases hxo : WinOK m x
    · have hd2 : decide (WinOK m x) = true := decide_eq_true hxo
      obtain ⟨w4, hw4⟩ : ∃ w4, w3.alloc (.cells #[.int .i64 g.w.arr, .int .i64 g.w.start, .int .i64 g.w.len, .int .i64 g.w.cap] 33) = w4 := ⟨_, rfl⟩
      have hb4 : Below w3.heap.size w3 w4 := by rw [← hw4]; exact (Below.refl _ _).alloc (Nat.le_refl _) _
      have hy4 : w4.heap[w3.heap.size]? = some (.cells #[.int .i64 g.w.arr, .int .i64 g.w.start, .int .i64 g.w.len, .int .i64 g.w.cap] 33) := by rw [← hw4]; exact heap_alloc_new _ _
      have HB4 := Lib.hid (HB3.out.trans (hb4.mono HB3.out.size))
      have HAW4 := Lib.hid (HAW3.out.below hb4)
      have HW4 := Lib.hid hw4
      have HY4 := Lib.hid hy4
      obtain ⟨c0, d0, d1, d2, d3, d4, d5⟩ := ar_cells HAW3.out.ar
      clear hb4 hw4 hy4
      go_upto_region 4 with fail
      rw [HW4.out]
      clear c0 d0 d1 d2 d3 d4 d5
      obtain ⟨c0, d0, d1, d2, d3, d4, d5⟩ := ar_cells HAW4.out.ar
      obtain ⟨x0, x1, x2, x3⟩ := four_cells HAW4.out.win
      obtain ⟨y0, y1, y2, y3⟩ := four_cells HY4.out
      obtain ⟨s0, s1, s2, s3⟩ := hxo.sums
      obtain ⟨t0, t1, t2, t3⟩ := hok.1.sums
      obtain ⟨b0, b1, b2, b3, b4⟩ := hok.bounds
      have k0 : IntKind.i64.wrap (x.start + x.cap) = x.start + x.cap := IntWalk.i64_in _ (by omega)
      have k1 : IntKind.i64.wrap (g.w.start + g.us) = g.w.start + g.us := IntWalk.i64_in _ (by omega)
      have HV0 : Hid (isGivenR m g x = (decide (x.arr = g.w.arr ∧ g.w.start ≤ x.start ∧ x.start + x.cap ≤ g.w.start + g.us), true)) := Lib.hid (by rw [isGivenR, if_pos ⟨hok, hxo⟩])
      clear hok hxo
      by_cases h1 : x.arr = g.w.arr
      · have e1 : (x.arr == g.w.arr) = true := by simp [h1]
        by_cases h2 : g.w.start ≤ x.start
        · have HV : Hid (isGivenR m g x = (decide (x.start + x.cap ≤ g.w.start + g.us), true)) := Lib.hid (by rw [HV0.out]; simp [h1, h2])
          have H1 := Lib.hid h1
          clear h1
          go_wp2_with fail
          refine bodyPost_ret (v := .tuple #[.bool (decide (x.start + x.cap ≤ g.w.start + g.us)), .bool true]) (by simp [results, Try.results65, go_sem]) rfl ⟨by rw [HV.out], HB4.out⟩
        · have HV : Hid (isGivenR m g x = (false, true)) := Lib.hid (by rw [HV0.out]; simp [h2])
          have H1 := Lib.hid h1
          clear h1
          go_wp2_with fail
          refine bodyPost_ret (v := .tuple #[.bool false, .bool true]) (by simp [results, Try.results65, go_sem]) rfl ⟨by rw [HV.out], HB4.out⟩
      · have HV : Hid (isGivenR m g x = (false, true)) := Lib.hid (by rw [HV0.out]; simp [h1])
        have e1 : (x.arr == g.w.arr) = false := by simp [h1]
        clear h1
        go_wp2_with fail
        refine bodyPost_ret (v := .tuple #[.bool false, .bool true]) (by simp [results, Try.results65, go_sem]) rfl ⟨by rw [HV.out], HB4.out⟩
    · have hd2 : decide (WinOK m x) = false := decide_eq_false hxo
      have HV : Hid (isGivenR m g x = (false, false)) := Lib.hid (by rw [isGivenR, if_neg (fun h => hxo h.2)])
      clear hok hxo
      go_wp2_with fail
      refine bodyPost_ret (v := .tuple #[.bool false, .bool false]) (by simp [results, Try.results65, go_sem]) rfl ⟨by rw [HV.out], HB3.out⟩
  · have hd : isArenaR m g = false := decide_eq_false hok
    have HV : Hid (isGivenR m g x = (false, false)) := Lib.hid (by rw [isGivenR, if_neg (fun h => hok h.1)])
    clear hok hrb
    go_wp2_with fail
    refine bodyPost_ret (v := .tuple #[.bool false, .bool false]) (by simp [results, Try.results65, go_sem]) rfl ⟨by rw [HV.out], HB2.out⟩
end Go.Proofs.Ytadmllfcnjekcaa
