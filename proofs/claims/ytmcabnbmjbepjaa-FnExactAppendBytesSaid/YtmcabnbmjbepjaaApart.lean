/-
  AreApart of spec and impl, l2Both and l2Overlap of spec.
-/
import Derived.Test.YtmcabnbmjbepjaaImplC
import Derived.Deep.RegionHeld3
namespace Go.Proofs.Ytmcabnbmjbepjaa
open Go.RowKit

/-- A memory and two windows, as a function has them. -/
structure MW2 (W : World) (g : Nat) (A : Option Addr) (n c : Nat) (x y : Win) : Prop where
  mem : W.heap[g]? = some (.cells #[.slice A n c] 29)
  win : W.heap[g + 1]? = some (.cells #[.int .i64 x.arr, .int .i64 x.start, .int .i64 x.len, .int .i64 x.cap] 30)
  win2 : W.heap[g + 1 + 1]? = some (.cells #[.int .i64 y.arr, .int .i64 y.start, .int .i64 y.len, .int .i64 y.cap] 30)
theorem MW2.below {W W' : World} {g : Nat} {A : Option Addr} {n c : Nat} {x y : Win} (h : MW2 W g A n c x y) (hb : Below W.heap.size W W') : MW2 W' g A n c x y :=
  ⟨(hb.block _ (Array.getElem?_eq_some_iff.1 h.mem).1).trans h.mem, (hb.block _ (Array.getElem?_eq_some_iff.1 h.win).1).trans h.win, (hb.block _ (Array.getElem?_eq_some_iff.1 h.win2).1).trans h.win2⟩
theorem enterMW2 (A : Option Addr) (n c : Nat) (x y : Win) (w : World) :
    ∃ w0, ((w.alloc (.cells #[.slice A n c] 29)).alloc (.cells #[.int .i64 x.arr, .int .i64 x.start, .int .i64 x.len, .int .i64 x.cap] 30)).alloc (.cells #[.int .i64 y.arr, .int .i64 y.start, .int .i64 y.len, .int .i64 y.cap] 30) = w0 ∧ Below w.heap.size w w0 ∧ w0.heap.size = w.heap.size + 3 ∧ MW2 w0 w.heap.size A n c x y := by
  obtain ⟨h1, h2, h3, h4, h5⟩ := enter3 w (.cells #[.slice A n c] 29) (.cells #[.int .i64 x.arr, .int .i64 x.start, .int .i64 x.len, .int .i64 x.cap] 30) (.cells #[.int .i64 y.arr, .int .i64 y.start, .int .i64 y.len, .int .i64 y.cap] 30)
  exact ⟨_, rfl, h1, h5, ⟨h2, h3, h4⟩⟩
set_option maxRecDepth 100000 in
set_option maxHeartbeats 800000 in
theorem specBoth_calls (A : Option Addr) (cm : Nat) (m : List (List Int)) (x y : Win) (w : World) (hr : Rd2 w w.heap.size A m) (hn : m.length ≤ maxLen) :
    Calls Try.prog 136 #[.agg #[.slice A m.length cm], .agg #[.int .i64 x.arr, .int .i64 x.start, .int .i64 x.len, .int .i64 x.cap], .agg #[.int .i64 y.arr, .int .i64 y.start, .int .i64 y.len, .int .i64 y.cap]] w fun e w' => e = .returned (.bool (decide (WinOK m x ∧ WinOK m y))) ∧ Below w.heap.size w w' := by
  obtain ⟨w0, hw0, hb0, hz0, hmw⟩ := enterMW2 A m.length cm x y w
  have HC := Lib.hid (specWindow_calls A cm m x w0 ((hr.below hb0).more hb0.size) hn)
  have HB := Lib.hid hb0
  have HR := Lib.hid hr
  have HW := Lib.hid hw0
  have HMW := Lib.hid hmw
  clear hr hb0 hmw hw0
  go_enter Try.func136, Try.ntmps136
  go_wp2_with fail
  rw [HW.out]
  refine HC.out.mono ?_
  rintro e w2 ⟨rfl, hb2⟩
  have HB2 := Lib.hid (HB.out.trans (hb2.mono HB.out.size))
  have hmw2 := HMW.out.below hb2
  have c1 := one_cell hmw2.mem
  obtain ⟨d0, d1, d2, d3⟩ := four_cells hmw2.win2
  clear hb2 hmw2
  by_cases hm : WinOK m x
  · have hd : decide (WinOK m x) = true := decide_eq_true hm
    have HD := Lib.hid (show decide (WinOK m x ∧ WinOK m y) = decide (WinOK m y) from decide_eq_decide.2 ⟨fun h => h.2, fun h => ⟨hm, h⟩⟩)
    have HF := Lib.hid (specWindow_calls A cm m y w2 ((HR.out.below HB2.out).more HB2.out.size) hn)
    clear hm
    go_wp2_with fail
    refine HF.out.mono ?_
    rintro e w3 ⟨rfl, hb3⟩
    have HB3 := Lib.hid (HB2.out.trans (hb3.mono HB2.out.size))
    clear hb3
    go_wp2_with fail
    go_ret
    exact ⟨ret_bool HD.out.symm, HB3.out⟩
  · have hd : decide (WinOK m x) = false := decide_eq_false hm
    have HD := Lib.hid (show decide (WinOK m x ∧ WinOK m y) = false from decide_eq_false fun h => hm h.1)
    clear hm
    go_wp2_with fail
    go_ret
    exact ⟨ret_bool HD.out.symm, HB2.out⟩

/-- Two windows see no place both. -/
def Apart (x y : Win) : Prop := x.arr ≠ y.arr ∨ x.start + x.len ≤ y.start ∨ y.start + y.len ≤ x.start ∨ x.len ≤ 0 ∨ y.len ≤ 0
instance (x y : Win) : Decidable (Apart x y) := by unfold Apart; exact inferInstance
theorem tup_bool {a b : Bool} (h : a = b) : Ending.returned (.tuple #[.bool a, .bool true]) = Ending.returned (.tuple #[.bool b, .bool true]) := by rw [h]
def apartV (m : List (List Int)) (x y : Win) : Value := if WinOK m x ∧ WinOK m y then .tuple #[.bool (decide (Apart x y)), .bool true] else .tuple #[.bool false, .bool false]

set_option maxRecDepth 100000 in
set_option maxHeartbeats 1600000 in
theorem implAreApart_calls (A : Option Addr) (cm : Nat) (m : List (List Int)) (x y : Win) (w : World) (hr : Rd2 w w.heap.size A m) (hn : m.length ≤ maxLen) (hx : WArg x) (hy : WArg y) :
    Calls Try.prog 42 #[.agg #[.slice A m.length cm], .agg #[.int .i64 x.arr, .int .i64 x.start, .int .i64 x.len, .int .i64 x.cap], .agg #[.int .i64 y.arr, .int .i64 y.start, .int .i64 y.len, .int .i64 y.cap]] w fun e w' => e = .returned (apartV m x y) ∧ Below w.heap.size w w' := by
  obtain ⟨w0, hw0, hb0, hz0, hmw⟩ := enterMW2 A m.length cm x y w
  have HC := Lib.hid (areTwo_calls A cm m x y w0 ((hr.below hb0).more hb0.size) hn hx hy (w.heap.size + 1 + 1 + 1) (by omega))
  have HB := Lib.hid hb0
  have HW := Lib.hid hw0
  have HMW := Lib.hid hmw
  have hrb := run_win2
  clear hr hb0 hmw hw0
  go_enter Try.func42, Try.ntmps42
  go_wp2_with fail
  rw [HW.out]
  clear hrb
  refine HC.out.mono ?_
  rintro e w2 ⟨rfl, hb2⟩
  have HB2 := Lib.hid (HB.out.trans (hb2.mono HB.out.size))
  have hmw2 := HMW.out.below hb2
  have c1 := one_cell hmw2.mem
  obtain ⟨d0, d1, d2, d3⟩ := four_cells hmw2.win
  obtain ⟨e0, e1, e2, e3⟩ := four_cells hmw2.win2
  clear hb2 hmw2
  by_cases hm : WinOK m x ∧ WinOK m y
  · have hd : decide (WinOK m x ∧ WinOK m y) = true := decide_eq_true hm
    have HV := Lib.hid (show apartV m x y = .tuple #[.bool (decide (Apart x y)), .bool true] by rw [apartV, if_pos hm])
    obtain ⟨n, s, l, c, rfl, hnl, hlc, hsc, h1, h64, h16⟩ := hm.1.nat
    obtain ⟨n2, s2, l2, c2, rfl, hnl2, hlc2, hsc2, h12, h642, h162⟩ := hm.2.nat
    clear hm
    dsimp only at *
    by_cases ha : n = n2
    · subst ha
      go_wp2_with fail
      all_goals go_ret2
      all_goals exact ⟨by rw [HV.out]; exact tup_bool (decide_eq_decide.2 (by unfold Apart; simp only; omega)), HB2.out⟩
    · have hne : ((n : Int) != (n2 : Int)) = true := by simp; omega
      go_wp2_with fail
      go_ret2
      exact ⟨by rw [HV.out]; exact tup_bool (decide_eq_true (p := Apart ⟨n, s, l, c⟩ ⟨n2, s2, l2, c2⟩) (by unfold Apart; simp only; omega)).symm, HB2.out⟩
  · have hd : decide (WinOK m x ∧ WinOK m y) = false := decide_eq_false hm
    have HV := Lib.hid (show apartV m x y = .tuple #[.bool false, .bool false] by rw [apartV, if_neg hm])
    clear hm
    go_wp2_with fail
    go_ret2
    exact ⟨HV.out.symm ▸ rfl, HB2.out⟩

set_option maxRecDepth 100000 in
set_option maxHeartbeats 1600000 in
theorem specOverlap_calls (n s l c n2 s2 l2 c2 : Nat) (w : World) (h1 : s + l ≤ 1000) (h2 : s2 + l2 ≤ 1000) :
    Calls Try.prog 137 #[.agg #[.int .i64 n, .int .i64 s, .int .i64 l, .int .i64 c], .agg #[.int .i64 n2, .int .i64 s2, .int .i64 l2, .int .i64 c2]] w fun e w' => (∃ q : Int, e = .returned (.int .i64 q) ∧ (q = 0 ↔ Apart ⟨n, s, l, c⟩ ⟨n2, s2, l2, c2⟩)) ∧ Below w.heap.size w w' := by
  obtain ⟨g1, g2, g3, g4⟩ := enter2 w (.cells #[.int .i64 n, .int .i64 s, .int .i64 l, .int .i64 c] 30) (.cells #[.int .i64 n2, .int .i64 s2, .int .i64 l2, .int .i64 c2] 30)
  obtain ⟨w0, hw0⟩ : ∃ w0, (w.alloc (.cells #[.int .i64 n, .int .i64 s, .int .i64 l, .int .i64 c] 30)).alloc (.cells #[.int .i64 n2, .int .i64 s2, .int .i64 l2, .int .i64 c2] 30) = w0 := ⟨_, rfl⟩
  rw [hw0] at g1 g2 g3 g4
  have HB := Lib.hid g1
  have HW := Lib.hid hw0
  obtain ⟨d0, d1, d2, d3⟩ := four_cells g2
  obtain ⟨e0, e1, e2, e3⟩ := four_cells g3
  obtain ⟨q1, hq1⟩ : ∃ q1, (if ((s : Int) + l) < s2 + l2 then ((s : Int) + l) else s2 + l2) = q1 := ⟨_, rfl⟩
  obtain ⟨q2, hq2⟩ : ∃ q2, (if (s2 : Int) < s then (s : Int) else s2) = q2 := ⟨_, rfl⟩
  obtain ⟨q3, hq3⟩ : ∃ q3, (if q1 - q2 < 0 then 0 else q1 - q2) = q3 := ⟨_, rfl⟩
  have HA := Lib.hid (show n = n2 → (q3 = 0 ↔ Apart ⟨n, s, l, c⟩ ⟨n2, s2, l2, c2⟩) from fun hn => by
    subst hn
    unfold Apart
    simp only
    split at hq1 <;> split at hq2 <;> split at hq3 <;> omega)
  have hb1 : 0 ≤ q1 ∧ q1 ≤ 1000 := by split at hq1 <;> omega
  have hb2 : 0 ≤ q2 ∧ q2 ≤ 1000 := by split at hq2 <;> omega
  obtain ⟨hb11, hb12⟩ := hb1
  obtain ⟨hb21, hb22⟩ := hb2
  have H1 : Hid (∀ W, Calls Try.prog 187 #[.int .i64 (s + l), .int .i64 (s2 + l2)] W fun e w' => e = .returned (.int .i64 q1) ∧ W = w') := Lib.hid fun W => by have := specLeast_calls (s + l) (s2 + l2) W; rw [hq1] at this; exact this
  have H2 : Hid (∀ W, Calls Try.prog 155 #[.int .i64 s, .int .i64 s2] W fun e w' => e = .returned (.int .i64 q2) ∧ W = w') := Lib.hid fun W => by have := specMost_calls s s2 W; rw [hq2] at this; exact this
  have H3 : Hid (∀ W, Calls Try.prog 155 #[.int .i64 0, .int .i64 (q1 - q2)] W fun e w' => e = .returned (.int .i64 q3) ∧ W = w') := Lib.hid fun W => by have := specMost_calls 0 (q1 - q2) W; rw [hq3] at this; exact this
  have hw1 : IntKind.i64.wrap ((s : Int) + l) = s + l := by simp [IntKind.wrap, IntKind.bits, IntKind.signed]; omega
  have hw2 : IntKind.i64.wrap ((s2 : Int) + l2) = s2 + l2 := by simp [IntKind.wrap, IntKind.bits, IntKind.signed]; omega
  have hw3 : IntKind.i64.wrap (q1 - q2) = q1 - q2 := by simp [IntKind.wrap, IntKind.bits, IntKind.signed]; omega
  clear g1 g2 g3 g4 hw0 hq1 hq2 hq3
  by_cases ha : n = n2
  · have HN := Lib.hid ha
    subst ha
    go_enter Try.func137, Try.ntmps137
    go_wp2_with fail
    rw [HW.out]
    go_region_held3 (fun W => W.cell? ⟨w.heap.size, 1, none⟩ = some (.int .i64 s) ∧ W.cell? ⟨w.heap.size, 2, none⟩ = some (.int .i64 l) ∧ W.cell? ⟨w.heap.size + 1, 1, none⟩ = some (.int .i64 s2) ∧ W.cell? ⟨w.heap.size + 1, 2, none⟩ = some (.int .i64 l2)) (exact ⟨d1, d2, e1, e2⟩)
      (first | (go_at_call 187; refine (H1.out _).mono ?_; rintro e w3 ⟨rfl, rfl⟩) | (go_at_call 155; with_reducible refine (H2.out _).mono ?_; rintro e w3 ⟨rfl, rfl⟩) | (go_at_call 155; refine (H3.out _).mono ?_; rintro e w3 ⟨rfl, rfl⟩))
    go_wp2_with fail
    go_ret
    exact ⟨⟨q3, rfl, HA.out HN.out⟩, HB.out.drew⟩
  · have hne : ((n : Int) != (n2 : Int)) = true := by simp; omega
    have HN : Hid (Apart ⟨n, s, l, c⟩ ⟨n2, s2, l2, c2⟩) := Lib.hid (.inl (by simp only; omega))
    clear ha
    go_enter Try.func137, Try.ntmps137
    go_wp2_with fail
    go_ret
    exact ⟨⟨0, rfl, fun _ => HN.out, fun _ => rfl⟩, by rw [HW.out]; exact HB.out⟩

set_option maxRecDepth 100000 in
set_option maxHeartbeats 800000 in
theorem specAreApart_calls (A : Option Addr) (cm : Nat) (m : List (List Int)) (x y : Win) (w : World) (hr : Rd2 w w.heap.size A m) (hn : m.length ≤ maxLen) :
    Calls Try.prog 43 #[.agg #[.slice A m.length cm], .agg #[.int .i64 x.arr, .int .i64 x.start, .int .i64 x.len, .int .i64 x.cap], .agg #[.int .i64 y.arr, .int .i64 y.start, .int .i64 y.len, .int .i64 y.cap]] w fun e w' => e = .returned (apartV m x y) ∧ Below w.heap.size w w' := by
  obtain ⟨w0, hw0, hb0, hz0, hmw⟩ := enterMW2 A m.length cm x y w
  have HC := Lib.hid (specBoth_calls A cm m x y w0 ((hr.below hb0).more hb0.size) hn)
  have HB := Lib.hid hb0
  have HW := Lib.hid hw0
  have HMW := Lib.hid hmw
  clear hr hb0 hmw hw0
  go_enter Try.func43, Try.ntmps43
  go_wp2_with fail
  rw [HW.out]
  refine HC.out.mono ?_
  rintro e w2 ⟨rfl, hb2⟩
  have HB2 := Lib.hid (HB.out.trans (hb2.mono HB.out.size))
  have hmw2 := HMW.out.below hb2
  obtain ⟨d0, d1, d2, d3⟩ := four_cells hmw2.win
  obtain ⟨e0, e1, e2, e3⟩ := four_cells hmw2.win2
  clear hb2 hmw2
  by_cases hm : WinOK m x ∧ WinOK m y
  · have hd : decide (WinOK m x ∧ WinOK m y) = true := decide_eq_true hm
    have HV := Lib.hid (show apartV m x y = .tuple #[.bool (decide (Apart x y)), .bool true] by rw [apartV, if_pos hm])
    obtain ⟨n, s, l, c, rfl, hnl, hlc, hsc, h1, h64, h16⟩ := hm.1.nat
    obtain ⟨n2, s2, l2, c2, rfl, hnl2, hlc2, hsc2, h12, h642, h162⟩ := hm.2.nat
    clear hm
    dsimp only at *
    have HO := Lib.hid (specOverlap_calls n s l c n2 s2 l2 c2 w2 (by omega) (by omega))
    go_wp2_with fail
    refine HO.out.mono ?_
    rintro e w3 ⟨⟨q, rfl, hq⟩, hb3⟩
    have HB3 := Lib.hid (HB2.out.trans (hb3.mono HB2.out.size))
    have HQ := Lib.hid hq
    clear hb3 hq
    by_cases h0 : q = 0
    · have hqb : (q == 0) = true := by simp [h0]
      have HA := Lib.hid (HQ.out.1 h0)
      clear h0
      go_wp2_with fail
      go_ret2
      exact ⟨by rw [HV.out, decide_eq_true HA.out]; rfl, HB3.out⟩
    · have hqb : (q == 0) = false := by simp [h0]
      have HA := Lib.hid (fun h => h0 (HQ.out.2 h))
      clear h0
      go_wp2_with fail
      go_ret2
      exact ⟨by rw [HV.out, decide_eq_false HA.out]; rfl, HB3.out⟩
  · have hd : decide (WinOK m x ∧ WinOK m y) = false := decide_eq_false hm
    have HV := Lib.hid (show apartV m x y = .tuple #[.bool false, .bool false] by rw [apartV, if_neg hm])
    clear hm
    go_wp2_with fail
    go_ret2
    exact ⟨HV.out.symm ▸ rfl, HB2.out⟩
end Go.Proofs.Ytmcabnbmjbepjaa
