/-
  Arenas of spec and impl: l8Arena, IsArena of both.
-/
import Derived.Test.YtadmllfcnjekcaaArA
import Derived.BigQuiet
namespace Go.Proofs.Ytadmllfcnjekcaa
open Go.RowKit

/-- A function's own variable that holds an arena. -/
theorem enterA (A B : Option Addr) (n c l d : Nat) (g : An) (w : World) :
    ∃ w0, w.alloc (.cells #[.slice A n c, .int .i64 g.w.arr, .int .i64 g.w.start, .int .i64 g.w.len, .int .i64 g.w.cap, .int .i64 g.us, .slice B l d] 35) = w0 ∧ Below w.heap.size w w0 ∧ w0.heap.size = w.heap.size + 1 ∧ w0.heap[w.heap.size]? = some (.cells #[.slice A n c, .int .i64 g.w.arr, .int .i64 g.w.start, .int .i64 g.w.len, .int .i64 g.w.cap, .int .i64 g.us, .slice B l d] 35) :=
  ⟨_, rfl, (Below.refl _ _).alloc (Nat.le_refl _) _, by simp, heap_alloc_new _ _⟩

theorem specInQ_calls (x a b : Int) (w : World) :
    Calls Try.prog 101 #[.int .i64 x, .int .i64 a, .int .i64 b] w fun e w' => e = .returned (.bool (decide (a ≤ x ∧ x ≤ b))) ∧ w' = w :=
  (specIn_calls x a b w).mono fun _ _ h => ⟨h.1, h.2.symm⟩

set_option maxRecDepth 100000 in
set_option maxHeartbeats 3200000 in
theorem specArena_calls (A B : Option Addr) (cm d : Nat) (m : List (List Int)) (g : An) (w : World) (hr : RdA w w.heap.size A B m g.ms) (hn : m.length ≤ maxLen) (hkl : g.ms.length ≤ maxLen) :
    Calls Try.prog 79 #[.agg #[.slice A m.length cm, .int .i64 g.w.arr, .int .i64 g.w.start, .int .i64 g.w.len, .int .i64 g.w.cap, .int .i64 g.us, .slice B g.ms.length d]] w fun e w' => e = .returned (.bool (decide (ArOK m g))) ∧ Below w.heap.size w w' := by
  obtain ⟨w0, hw0, hb0, hz0, hg0⟩ := enterA A B m.length cm g.ms.length d g w
  have HC := Lib.hid (specWindow_calls A cm m g.w w0 (hr.on hb0).1 hn)
  have HR := Lib.hid hr
  have HB := Lib.hid hb0
  have HW := Lib.hid hw0
  have HG := Lib.hid hg0
  obtain ⟨c1, d0, d1, d2, d3, d4, d5⟩ := ar_cells hg0
  clear hr hb0 hg0 hw0 hz0
  go_enter Try.func79, Try.ntmps79
  go_wp2_with fail
  rw [HW.out]
  refine HC.out.mono ?_
  rintro e w2 ⟨rfl, hb2⟩
  have HB2 := Lib.hid (HB.out.trans (hb2.mono HB.out.size))
  have hg2 := (hb2.block _ (Array.getElem?_eq_some_iff.1 HG.out).1).trans HG.out
  clear d0 d1 d2 d3 d4 d5 c1
  obtain ⟨c1, d0, d1, d2, d3, d4, d5⟩ := ar_cells hg2
  clear hb2
  by_cases hm : WinOK m g.w
  · have hd : decide (WinOK m g.w) = true := decide_eq_true hm
    have HM := Lib.hid hm
    clear hm
    have H1 := Lib.hid (fun W => specIn_calls g.us 0 g.w.len W)
    by_cases h1 : 0 ≤ g.us ∧ g.us ≤ g.w.len
    · rw [show decide ((0 : Int) ≤ g.us ∧ g.us ≤ g.w.len) = true from decide_eq_true h1] at H1
      have HU := Lib.hid h1
      clear h1
      by_cases h8 : (8 : Int) < g.ms.length
      · have HV := Lib.hid (show decide (ArOK m g) = false from decide_eq_false fun h => by have := h.2.2.2.1; omega)
        go_wp2_with fail
        refine (H1.out _).mono ?_
        rintro e w3 ⟨rfl, rfl⟩
        go_wp2_with fail
        go_ret
        exact ⟨ret_bool HV.out.symm, HB2.out⟩
      · have H8 := Lib.hid h8
        have HG2 := Lib.hid hg2
        go_wp2_with fail
        refine (H1.out _).mono ?_
        rintro e w3 ⟨rfl, rfl⟩
        go_wp2_with fail
        clear h8
        go_loopw [3] (fun i wr => ∃ k : Nat, k ≤ g.ms.length ∧ i = .int .i64 k ∧ Hid (MksOK g.us g.ms k) ∧ Below w2.heap.size w2 wr) (fun i _ => g.ms.length - (intOf i).toNat)
        clear d0 d1 d2 d3 d4 d5 c1
        case atStart => exact ⟨0, Nat.zero_le _, rfl, Lib.hid (MksOK.zero _ _), Below.refl _ _⟩
        case round =>
          obtain ⟨k, hk, rfl, HI, hbr⟩ := hrel
          have HBr := Lib.hid (HB2.out.trans (hbr.mono HB2.out.size))
          have HK := Lib.hid ((HR.out.on HBr.out).2)
          have hgr := (hbr.block _ (Array.getElem?_eq_some_iff.1 HG2.out).1).trans HG2.out
          have HB3 := Lib.hid hbr
          clear hbr
          obtain ⟨c1, d0, d1, d2, d3, d4, d5⟩ := ar_cells hgr
          clear hgr
          by_cases hlt : k < g.ms.length
          · obtain ⟨b, off, rfl, hbb, hc⟩ := HK.out.int hlt
            have HGE := Lib.hid (show g.ms.getD k 0 = g.ms[k] by rw [List.getD_eq_getElem?_getD, List.getElem?_eq_getElem hlt]; rfl)
            have HI1 := Lib.hid (fun W => specInQ_calls g.ms[k] 0 g.us W)
            by_cases hin : 0 ≤ g.ms[k] ∧ g.ms[k] ≤ g.us
            · rw [show decide ((0 : Int) ≤ g.ms[k] ∧ g.ms[k] ≤ g.us) = true from decide_eq_true hin] at HI1
              rcases Nat.eq_zero_or_pos k with hk0 | hk0
              · have HI2 := Lib.hid (HI.out.snoc (by rw [HGE.out, lastOf, if_pos hk0]; exact hin.1) (by rw [HGE.out]; exact hin.2))
                generalize g.ms[k] = u at *
                have hk0' : decide ((0 : Int) < (k : Int)) = false := decide_eq_false (by omega)
                have hk1' : decide (0 < k) = false := decide_eq_false (by omega)
                clear hin hk0
                go_wp2_with fail
                go_quiet ((go_at_call 101; exact Calls.quiet_of_same (HI1.out _)))
                go_wp2_with fail
                go_roundw
                case rel => exact ⟨k + 1, by omega, by go_num, HI2, below_drewN HB3.out _⟩
                case measure => simp [intOf]; omega
              · have hlt2 : k - 1 < g.ms.length := by omega
                obtain ⟨b2, off2, e2, hbb2, hc2⟩ := HK.out.int hlt2
                injection e2 with e2
                injection e2 with e2 e3
                subst e2
                subst e3
                have HGL := Lib.hid (show lastOf g.ms k = g.ms[k - 1] by rw [lastOf, if_neg (by omega), List.getD_eq_getElem?_getD, List.getElem?_eq_getElem hlt2]; rfl)
                have hk0' : decide ((0 : Int) < (k : Int)) = true := decide_eq_true (by omega)
                have hk1' : ((k : Int) > 0) = True := eq_true (by omega)
                have hkn : ((k : Int) - 1).toNat = k - 1 := by omega
                have hkp : 0 ≤ (k : Int) - 1 := by omega
                have hkq : (k : Int) - 1 < g.ms.length := by omega
                have hkw : IntKind.i64.wrap ((k : Int) - 1) = (k : Int) - 1 := IntWalk.i64_in _ (by unfold maxLen at hkl; omega)
                by_cases hls : g.ms[k - 1] ≤ g.ms[k]
                · have HI2 := Lib.hid (HI.out.snoc (by rw [HGE.out, HGL.out]; exact hls) (by rw [HGE.out]; exact hin.2))
                  have hls' : decide (g.ms[k] < g.ms[k - 1]) = false := decide_eq_false (by omega)
                  generalize g.ms[k] = u at *
                  generalize g.ms[k - 1] = u2 at *
                  clear hin hls
                  go_wp2_with fail
                  go_quiet ((go_at_call 101; exact Calls.quiet_of_same (HI1.out _)))
                  go_wp2_with fail
                  go_roundw
                  case rel => exact ⟨k + 1, by omega, by go_num, HI2, below_drewN HB3.out _⟩
                  case measure => simp [intOf]; omega
                · have HV := Lib.hid (show decide (ArOK m g) = false from decide_eq_false fun h => by
                    have := (h.2.2.2.2 k hlt).1
                    rw [HGE.out, HGL.out] at this
                    exact hls this)
                  have hls' : decide (g.ms[k] < g.ms[k - 1]) = true := decide_eq_true (by omega)
                  generalize g.ms[k] = u at *
                  generalize g.ms[k - 1] = u2 at *
                  clear hin hls
                  go_wp2_with fail
                  go_quiet ((go_at_call 101; exact Calls.quiet_of_same (HI1.out _)))
                  go_wp2_with fail
                  go_ret
                  exact ⟨ret_bool HV.out.symm, by first | exact HBr.out | exact below_drewN HBr.out _⟩
            · rw [show decide ((0 : Int) ≤ g.ms[k] ∧ g.ms[k] ≤ g.us) = false from decide_eq_false hin] at HI1
              have HV := Lib.hid (show decide (ArOK m g) = false from decide_eq_false fun h => hin (by have := h.2.2.2.2.get hlt; rw [HGE.out] at this; exact this))
              generalize g.ms[k] = u at *
              clear hin
              go_wp2_with fail
              go_quiet ((go_at_call 101; exact Calls.quiet_of_same (HI1.out _)))
              go_wp2_with fail
              go_ret
              exact ⟨ret_bool HV.out.symm, by first | exact HBr.out | exact below_drewN HBr.out _⟩
          · have he : k = g.ms.length := by omega
            have HV := Lib.hid (show decide (ArOK m g) = true from decide_eq_true ⟨HM.out, HU.out.1, HU.out.2, by have := H8.out; omega, by rw [← he]; exact HI.out⟩)
            clear he
            go_wp2_with fail
            go_ret
            exact ⟨ret_bool HV.out.symm, by first | exact HBr.out | exact below_drewN HBr.out _⟩
    · rw [show decide ((0 : Int) ≤ g.us ∧ g.us ≤ g.w.len) = false from decide_eq_false h1] at H1
      have HV := Lib.hid (show decide (ArOK m g) = false from decide_eq_false fun h => h1 ⟨h.2.1, h.2.2.1⟩)
      clear h1
      go_wp2_with fail
      refine (H1.out _).mono ?_
      rintro e w3 ⟨rfl, rfl⟩
      go_wp2_with fail
      go_ret
      exact ⟨ret_bool HV.out.symm, HB2.out⟩
  · have hd : decide (WinOK m g.w) = false := decide_eq_false hm
    have HV := Lib.hid (show decide (ArOK m g) = false from decide_eq_false fun h => hm h.1)
    clear hm
    go_wp2_with fail
    go_ret
    exact ⟨ret_bool HV.out.symm, HB2.out⟩

set_option maxRecDepth 100000 in
theorem specIsArena_calls (A B : Option Addr) (cm d : Nat) (m : List (List Int)) (g : An) (w : World) (hr : RdA w w.heap.size A B m g.ms) (hn : m.length ≤ maxLen) (hkl : g.ms.length ≤ maxLen) :
    Calls Try.prog 19 #[.agg #[.slice A m.length cm, .int .i64 g.w.arr, .int .i64 g.w.start, .int .i64 g.w.len, .int .i64 g.w.cap, .int .i64 g.us, .slice B g.ms.length d]] w fun e w' => e = .returned (.bool (isArenaR m g)) ∧ Below w.heap.size w w' := by
  obtain ⟨w0, hw0, hb0, hz0, hg0⟩ := enterA A B m.length cm g.ms.length d g w
  have HC := Lib.hid (specArena_calls A B cm d m g w0 (hr.on hb0) hn hkl)
  have HB := Lib.hid hb0
  have HW := Lib.hid hw0
  obtain ⟨c1, d0, d1, d2, d3, d4, d5⟩ := ar_cells hg0
  unfold isArenaR
  generalize decide (ArOK m g) = q at *
  clear hr hb0 hg0 hw0 hz0
  go_enter Try.func19, Try.ntmps19
  go_wp2_with fail
  rw [HW.out]
  refine HC.out.mono ?_
  rintro e w2 ⟨rfl, hb2⟩
  have HB2 := Lib.hid (HB.out.trans (hb2.mono HB.out.size))
  clear hb2 d0 d1 d2 d3 d4 d5 c1
  go_wp2_with fail
  go_ret
  exact ⟨rfl, HB2.out⟩

set_option maxRecDepth 100000 in
set_option maxHeartbeats 3200000 in
theorem implIsArena_calls (A B : Option Addr) (cm d : Nat) (m : List (List Int)) (g : An) (w : World) (hr : RdA w w.heap.size A B m g.ms) (hn : m.length ≤ maxLen) (_hkl : g.ms.length ≤ maxLen) (hx : AArgW g) :
    Calls Try.prog 21 #[.agg #[.slice A m.length cm, .int .i64 g.w.arr, .int .i64 g.w.start, .int .i64 g.w.len, .int .i64 g.w.cap, .int .i64 g.us, .slice B g.ms.length d]] w fun e w' => e = .returned (.bool (isArenaR m g)) ∧ Below w.heap.size w w' := by
  obtain ⟨w0, hw0, hb0, hz0, hg0⟩ := enterA A B m.length cm g.ms.length d g w
  have HC := Lib.hid (areOne_calls A cm m g.w w0 (hr.on hb0).1 hn hx.1 (w.heap.size + 1) (by omega))
  have HR := Lib.hid hr
  have HB := Lib.hid hb0
  have HW := Lib.hid hw0
  have HG := Lib.hid hg0
  have hrb := run_win1
  unfold isArenaR
  obtain ⟨c1, d0, d1, d2, d3, d4, d5⟩ := ar_cells hg0
  clear hr hb0 hg0 hw0 hz0
  go_enter Try.func21, Try.ntmps21
  go_wp2_with fail
  rw [HW.out]
  clear hrb
  refine HC.out.mono ?_
  rintro e w2 ⟨rfl, hb2⟩
  have HB2 := Lib.hid (HB.out.trans (hb2.mono HB.out.size))
  have hg2 := (hb2.block _ (Array.getElem?_eq_some_iff.1 HG.out).1).trans HG.out
  clear d0 d1 d2 d3 d4 d5 c1
  obtain ⟨c1, d0, d1, d2, d3, d4, d5⟩ := ar_cells hg2
  clear hb2 hg2
  by_cases hm : WinOK m g.w
  · have hd : decide (WinOK m g.w) = true := decide_eq_true hm
    have HM := Lib.hid hm
    clear hm
    by_cases h0 : 0 ≤ g.us
    · by_cases h1 : g.us ≤ g.w.len
      · by_cases h8 : (8 : Int) < g.ms.length
        · have HV := Lib.hid (show decide (ArOK m g) = false from decide_eq_false fun h => by have := h.2.2.2.1; omega)
          go_wp2_with fail
          go_ret
          exact ⟨ret_bool HV.out.symm, HB2.out⟩
        · have HU := Lib.hid (And.intro h0 h1)
          have H8 := Lib.hid h8
          have HK := Lib.hid ((HR.out.on HB2.out).2)
          go_wp2_with fail
          clear h8 h0 h1
          go_loopw [3, 35] (fun l i wr => ∃ k : Nat, k ≤ g.ms.length ∧ i = .int .i64 k ∧ l = .int .i64 (lastOf g.ms k) ∧ Hid (MksOK g.us g.ms k) ∧ wr = w2) (fun _ i _ => g.ms.length - (intOf i).toNat)
          case atStart => exact ⟨0, Nat.zero_le _, rfl, rfl, Lib.hid (MksOK.zero _ _), rfl⟩
          case round =>
            obtain ⟨k, hk, rfl, rfl, HI, rfl⟩ := hrel
            by_cases hlt : k < g.ms.length
            · obtain ⟨b, off, rfl, hbb, hc⟩ := HK.out.int hlt
              have HGE := Lib.hid (show g.ms.getD k 0 = g.ms[k] by rw [List.getD_eq_getElem?_getD, List.getElem?_eq_getElem hlt]; rfl)
              have HLN := Lib.hid (show lastOf g.ms (k + 1) = g.ms[k] by rw [lastOf, if_neg (by omega), Nat.add_sub_cancel]; exact HGE.out)
              by_cases hl : lastOf g.ms k ≤ g.ms[k]
              · by_cases hu : g.ms[k] ≤ g.us
                · have HI2 := Lib.hid (HI.out.snoc (by rw [HGE.out]; exact hl) (by rw [HGE.out]; exact hu))
                  have hl' : ¬ g.ms[k] < lastOf g.ms k := by omega
                  generalize g.ms[k] = u at *
                  generalize lastOf g.ms k = u2 at *
                  go_wp2_with fail
                  go_roundw
                  case rel => exact ⟨k + 1, by omega, by go_num, by rw [HLN.out], HI2, by first | rfl | trivial⟩
                  case measure => simp [intOf]; omega
                · have HV := Lib.hid (show decide (ArOK m g) = false from decide_eq_false fun h => hu (by have := (h.2.2.2.2 k hlt).2; rw [HGE.out] at this; exact this))
                  have hl' : ¬ g.ms[k] < lastOf g.ms k := by omega
                  generalize g.ms[k] = u at *
                  generalize lastOf g.ms k = u2 at *
                  go_wp2_with fail
                  go_ret
                  exact ⟨ret_bool HV.out.symm, HB2.out⟩
              · have HV := Lib.hid (show decide (ArOK m g) = false from decide_eq_false fun h => hl (by have := (h.2.2.2.2 k hlt).1; rw [HGE.out] at this; exact this))
                have hl' : g.ms[k] < lastOf g.ms k := by omega
                generalize g.ms[k] = u at *
                generalize lastOf g.ms k = u2 at *
                go_wp2_with fail
                go_ret
                exact ⟨ret_bool HV.out.symm, HB2.out⟩
            · have he : k = g.ms.length := by omega
              have HV := Lib.hid (show decide (ArOK m g) = true from decide_eq_true ⟨HM.out, HU.out.1, HU.out.2, by have := H8.out; omega, by rw [← he]; exact HI.out⟩)
              clear he
              go_wp2_with fail
              go_ret
              exact ⟨ret_bool HV.out.symm, HB2.out⟩
      · have HV := Lib.hid (show decide (ArOK m g) = false from decide_eq_false fun h => h1 h.2.2.1)
        go_wp2_with fail
        go_ret
        exact ⟨ret_bool HV.out.symm, HB2.out⟩
    · have HV := Lib.hid (show decide (ArOK m g) = false from decide_eq_false fun h => h0 h.2.1)
      go_wp2_with fail
      go_ret
      exact ⟨ret_bool HV.out.symm, HB2.out⟩
  · have hd : decide (WinOK m g.w) = false := decide_eq_false hm
    have HV := Lib.hid (show decide (ArOK m g) = false from decide_eq_false fun h => hm h.1)
    clear hm
    go_wp2_with fail
    go_ret
    exact ⟨ret_bool HV.out.symm, HB2.out⟩
end Go.Proofs.Ytadmllfcnjekcaa
