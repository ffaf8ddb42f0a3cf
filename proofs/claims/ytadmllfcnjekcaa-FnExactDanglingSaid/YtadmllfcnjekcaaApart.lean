/-
  AreApart of spec and impl, l2Both and l2Overlap of spec.
-/
import Derived.Test.YtadmllfcnjekcaaImplC
import Derived.Deep.RegionHeld3
namespace Go.Proofs.Ytadmllfcnjekcaa
open Go.RowKit

/-- A memory and two windows, as a function has them. -/
structure MW2 (W : World) (g : Nat) (A : Option Addr) (n c : Nat) (x y : Win) : Prop where
  mem : W.heap[g]? = some (.cells #[.slice A n c] 32)
  win : W.heap[g + 1]? = some (.cells #[.int .i64 x.arr, .int .i64 x.start, .int .i64 x.len, .int .i64 x.cap] 33)
  win2 : W.heap[g + 1 + 1]? = some (.cells #[.int .i64 y.arr, .int .i64 y.start, .int .i64 y.len, .int .i64 y.cap] 33)
theorem MW2.below {W W' : World} {g : Nat} {A : Option Addr} {n c : Nat} {x y : Win} (h : MW2 W g A n c x y) (hb : Below W.heap.size W W') : MW2 W' g A n c x y :=
  ⟨(hb.block _ (Array.getElem?_eq_some_iff.1 h.mem).1).trans h.mem, (hb.block _ (Array.getElem?_eq_some_iff.1 h.win).1).trans h.win, (hb.block _ (Array.getElem?_eq_some_iff.1 h.win2).1).trans h.win2⟩
theorem enterMW2 (A : Option Addr) (n c : Nat) (x y : Win) (w : World) :
    ∃ w0, ((w.alloc (.cells #[.slice A n c] 32)).alloc (.cells #[.int .i64 x.arr, .int .i64 x.start, .int .i64 x.len, .int .i64 x.cap] 33)).alloc (.cells #[.int .i64 y.arr, .int .i64 y.start, .int .i64 y.len, .int .i64 y.cap] 33) = w0 ∧ Below w.heap.size w w0 ∧ w0.heap.size = w.heap.size + 3 ∧ MW2 w0 w.heap.size A n c x y := by
  obtain ⟨h1, h2, h3, h4, h5⟩ := enter3 w (.cells #[.slice A n c] 32) (.cells #[.int .i64 x.arr, .int .i64 x.start, .int .i64 x.len, .int .i64 x.cap] 33) (.cells #[.int .i64 y.arr, .int .i64 y.start, .int .i64 y.len, .int .i64 y.cap] 33)
  exact ⟨_, rfl, h1, h5, ⟨h2, h3, h4⟩⟩
/-- Two windows see no place both. -/
def Apart (x y : Win) : Prop := x.arr ≠ y.arr ∨ x.start + x.len ≤ y.start ∨ y.start + y.len ≤ x.start ∨ x.len ≤ 0 ∨ y.len ≤ 0
instance (x y : Win) : Decidable (Apart x y) := by unfold Apart; exact inferInstance
theorem tup_bool {a b : Bool} (h : a = b) : Ending.returned (.tuple #[.bool a, .bool true]) = Ending.returned (.tuple #[.bool b, .bool true]) := by rw [h]
def apartV (m : List (List Int)) (x y : Win) : Value := if WinOK m x ∧ WinOK m y then .tuple #[.bool (decide (Apart x y)), .bool true] else .tuple #[.bool false, .bool false]

set_option maxRecDepth 100000 in
set_option maxHeartbeats 1600000 in
theorem specOverlap_calls (n s l c n2 s2 l2 c2 : Nat) (w : World) (h1 : s + l ≤ 1000) (h2 : s2 + l2 ≤ 1000) :
    Calls Try.prog 107 #[.agg #[.int .i64 n, .int .i64 s, .int .i64 l, .int .i64 c], .agg #[.int .i64 n2, .int .i64 s2, .int .i64 l2, .int .i64 c2]] w fun e w' => (∃ q : Int, e = .returned (.int .i64 q) ∧ (q = 0 ↔ Apart ⟨n, s, l, c⟩ ⟨n2, s2, l2, c2⟩)) ∧ Below w.heap.size w w' := by
  obtain ⟨g1, g2, g3, g4⟩ := enter2 w (.cells #[.int .i64 n, .int .i64 s, .int .i64 l, .int .i64 c] 33) (.cells #[.int .i64 n2, .int .i64 s2, .int .i64 l2, .int .i64 c2] 33)
  obtain ⟨w0, hw0⟩ : ∃ w0, (w.alloc (.cells #[.int .i64 n, .int .i64 s, .int .i64 l, .int .i64 c] 33)).alloc (.cells #[.int .i64 n2, .int .i64 s2, .int .i64 l2, .int .i64 c2] 33) = w0 := ⟨_, rfl⟩
  rw [hw0] at g1 g2 g3 g4
  have HB := Lib.hid g1
  have HW := Lib.hid hw0
  obtain ⟨d0, d1, d2, d3⟩ := four_cells g2
  obtain ⟨e0, e1, e2, e3⟩ := four_cells g3
  obtain ⟨q1, hq1⟩ : ∃ q1, (if ((s : Int) + l) < s2 + l2 then ((s : Int) + l) else s2 + l2) = q1 := ⟨_, rfl⟩
  obtain ⟨q2, hq2⟩ : ∃ q2, (if (s2 : Int) < s then (s : Int) else s2) = q2 := ⟨_, rfl⟩
  obtain ⟨q3, hq3⟩ : ∃ q3, (if q1 - q2 < 0 then 0 else q1 - q2) = q3 := ⟨_, rfl⟩
  have HA := Lib.hid (show n = n2 → (q3 = 0 ↔ Apart ⟨n, s, l, c⟩ ⟨n2, s2, l2, c2⟩) from fun hn => by
    subst hn
    unfold Apart
    simp only
    split at hq1 <;> split at hq2 <;> split at hq3 <;> omega)
  have hb1 : 0 ≤ q1 ∧ q1 ≤ 1000 := by split at hq1 <;> omega
  have hb2 : 0 ≤ q2 ∧ q2 ≤ 1000 := by split at hq2 <;> omega
  obtain ⟨hb11, hb12⟩ := hb1
  obtain ⟨hb21, hb22⟩ := hb2
  have H1 : Hid (∀ W, Calls Try.prog 132 #[.int .i64 (s + l), .int .i64 (s2 + l2)] W fun e w' => e = .returned (.int .i64 q1) ∧ W = w') := Lib.hid fun W => by have := specLeast_calls (s + l) (s2 + l2) W; rw [hq1] at this; exact this
  have H2 : Hid (∀ W, Calls Try.prog 131 #[.int .i64 s, .int .i64 s2] W fun e w' => e = .returned (.int .i64 q2) ∧ W = w') := Lib.hid fun W => by have := specMost_calls s s2 W; rw [hq2] at this; exact this
  have H3 : Hid (∀ W, Calls Try.prog 131 #[.int .i64 0, .int .i64 (q1 - q2)] W fun e w' => e = .returned (.int .i64 q3) ∧ W = w') := Lib.hid fun W => by have := specMost_calls 0 (q1 - q2) W; rw [hq3] at this; exact this
  have hw1 : IntKind.i64.wrap ((s : Int) + l) = s + l := by simp [IntKind.wrap, IntKind.bits, IntKind.signed]; omega
  have hw2 : IntKind.i64.wrap ((s2 : Int) + l2) = s2 + l2 := by simp [IntKind.wrap, IntKind.bits, IntKind.signed]; omega
  have hw3 : IntKind.i64.wrap (q1 - q2) = q1 - q2 := by simp [IntKind.wrap, IntKind.bits, IntKind.signed]; omega
  clear g1 g2 g3 g4 hw0 hq1 hq2 hq3
  by_cases ha : n = n2
  · have HN := Lib.hid ha
    subst ha
    go_enter Try.func107, Try.ntmps107
    go_wp2_with fail
    rw [HW.out]
    go_region_held3 (fun W => W.cell? ⟨w.heap.size, 1, none⟩ = some (.int .i64 s) ∧ W.cell? ⟨w.heap.size, 2, none⟩ = some (.int .i64 l) ∧ W.cell? ⟨w.heap.size + 1, 1, none⟩ = some (.int .i64 s2) ∧ W.cell? ⟨w.heap.size + 1, 2, none⟩ = some (.int .i64 l2)) (exact ⟨d1, d2, e1, e2⟩)
      (first | (go_at_call 132; refine (H1.out _).mono ?_; rintro e w3 ⟨rfl, rfl⟩) | (go_at_call 131; with_reducible refine (H2.out _).mono ?_; rintro e w3 ⟨rfl, rfl⟩) | (go_at_call 131; refine (H3.out _).mono ?_; rintro e w3 ⟨rfl, rfl⟩))
    go_wp2_with fail
    go_ret
    exact ⟨⟨q3, rfl, HA.out HN.out⟩, HB.out.drew⟩
  · have hne : ((n : Int) != (n2 : Int)) = true := by simp; omega
    have HN : Hid (Apart ⟨n, s, l, c⟩ ⟨n2, s2, l2, c2⟩) := Lib.hid (.inl (by simp only; omega))
    clear ha
    go_enter Try.func107, Try.ntmps107
    go_wp2_with fail
    go_ret
    exact ⟨⟨0, rfl, fun _ => HN.out, fun _ => rfl⟩, by rw [HW.out]; exact HB.out⟩

end Go.Proofs.Ytadmllfcnjekcaa
