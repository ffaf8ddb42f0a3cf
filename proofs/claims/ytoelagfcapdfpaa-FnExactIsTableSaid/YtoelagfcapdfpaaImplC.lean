/-
  The program's tests on one window and on two, as its functions call them; what a window sees, read.
-/
import Derived.Test.YtoelagfcapdfpaaImplB
import Derived.Great.BuildSlice
namespace Go.Proofs.Ytoelagfcapdfpaa
open Go.RowKit

theorem allOK_one (m : List (List Int)) (x : Win) : decide (AllOK m [x]) = decide (WinOK m x) := decide_eq_decide.2 ⟨fun h => h.2 x (by simp), fun h => ⟨h.1, fun y hy => by rw [List.mem_singleton.1 hy]; exact h⟩⟩
theorem allOK_two (m : List (List Int)) (x y : Win) : decide (AllOK m [x, y]) = decide (WinOK m x ∧ WinOK m y) :=
  decide_eq_decide.2 ⟨fun h => ⟨h.2 x (by simp), h.2 y (by simp)⟩, fun h => ⟨h.1.1, fun z hz => by
    rcases List.mem_cons.1 hz with rfl | hz
    · exact h.1
    · rw [List.mem_singleton.1 hz]; exact h.2⟩⟩
theorem cell_new (w : World) (cs : Array Value) (t : TypeId) (i : Nat) (v : Value) (h : cs[i]? = some v) : (w.alloc (.cells cs t)).cell? ⟨w.heap.size, i, none⟩ = some v := by
  have h1 : (w.alloc (.cells cs t)).heap[w.heap.size]? = some (.cells cs t (0, 0)) := heap_alloc_new w _
  rw [cell_of_row _ _ _ _ _ _ h1]
  exact h
theorem areOne_calls (A : Option Addr) (c : Nat) (m : List (List Int)) (x : Win) (w : World) (hr : Rd2 w w.heap.size A m) (hn : m.length ≤ maxLen) (hw : WArg x) (g : Nat) (hg : w.heap.size = g) :
    Calls Try.prog 73 #[.agg #[.slice A m.length c], .slice (some ⟨g, 0, none⟩) 1 1] (w.alloc (.cells #[.int .i64 x.arr, .int .i64 x.start, .int .i64 x.len, .int .i64 x.cap] 33)) fun e w' => e = .returned (.bool (decide (WinOK m x))) ∧ Below w.heap.size w w' := by
  subst hg
  have hb : Below w.heap.size w (w.alloc (.cells #[.int .i64 x.arr, .int .i64 x.start, .int .i64 x.len, .int .i64 x.cap] 33)) := (Below.refl _ _).alloc (Nat.le_refl _) _
  refine (areWindows_calls A c m w.heap.size 0 1 [x] _ ((hr.below hb).more hb.size) hn ?_ (by simp) (fun y hy => by rw [List.mem_singleton.1 hy]; exact hw) (by simp)).mono ?_
  · intro i y hy
    have hi : i = 0 := by have := (List.getElem?_eq_some_iff.1 hy).1; simpa using this
    subst hi
    have hy : x = y := by simpa using hy
    subst hy
    exact ⟨cell_new _ _ _ _ _ rfl, cell_new _ _ _ _ _ rfl, cell_new _ _ _ _ _ rfl, cell_new _ _ _ _ _ rfl⟩
  · rintro e w' ⟨rfl, h⟩
    exact ⟨by rw [allOK_one], hb.trans (h.mono hb.size)⟩
theorem areTwo_calls (A : Option Addr) (c : Nat) (m : List (List Int)) (x y : Win) (w : World) (hr : Rd2 w w.heap.size A m) (hn : m.length ≤ maxLen) (hw : WArg x) (hw2 : WArg y) (g : Nat) (hg : w.heap.size = g) :
    Calls Try.prog 73 #[.agg #[.slice A m.length c], .slice (some ⟨g, 0, none⟩) 2 2] (w.alloc (.cells #[.int .i64 x.arr, .int .i64 x.start, .int .i64 x.len, .int .i64 x.cap, .int .i64 y.arr, .int .i64 y.start, .int .i64 y.len, .int .i64 y.cap] 33)) fun e w' => e = .returned (.bool (decide (WinOK m x ∧ WinOK m y))) ∧ Below w.heap.size w w' := by
  subst hg
  have hb : Below w.heap.size w (w.alloc (.cells #[.int .i64 x.arr, .int .i64 x.start, .int .i64 x.len, .int .i64 x.cap, .int .i64 y.arr, .int .i64 y.start, .int .i64 y.len, .int .i64 y.cap] 33)) := (Below.refl _ _).alloc (Nat.le_refl _) _
  refine (areWindows_calls A c m w.heap.size 0 2 [x, y] _ ((hr.below hb).more hb.size) hn ?_ (by simp) (fun z hz => by
    rcases List.mem_cons.1 hz with rfl | hz
    · exact hw
    · rw [List.mem_singleton.1 hz]; exact hw2) (by simp)).mono ?_
  · intro i z hz
    have hi : i < 2 := by have := (List.getElem?_eq_some_iff.1 hz).1; simpa using this
    rcases Nat.lt_or_ge i 1 with h | h
    · obtain rfl : i = 0 := by omega
      have hy : x = z := by simpa using hz
      subst hy
      exact ⟨cell_new _ _ _ _ _ rfl, cell_new _ _ _ _ _ rfl, cell_new _ _ _ _ _ rfl, cell_new _ _ _ _ _ rfl⟩
    · obtain rfl : i = 1 := by omega
      have hy : y = z := by simpa using hz
      subst hy
      exact ⟨cell_new _ _ _ _ _ rfl, cell_new _ _ _ _ _ rfl, cell_new _ _ _ _ _ rfl, cell_new _ _ _ _ _ rfl⟩
  · rintro e w' ⟨rfl, h⟩
    exact ⟨by rw [allOK_two], hb.trans (h.mono hb.size)⟩

theorem info_win : (Try.prog.info? 33).map (fun i => (i.zero, i.size)) = some (some (.agg #[.int .i64 0, .int .i64 0, .int .i64 0, .int .i64 0]), 4) := by kernel_rfl
/-- A slice of one window is made. -/
theorem run_win1 (w : World) (a s l c : Int) : (Instr.buildSlice 71 1 #[(0, .agg #[.int .i64 a, .int .i64 s, .int .i64 l, .int .i64 c])]).run Try.prog w = .ok (.slice (some ⟨w.heap.size, 0, none⟩) 1 1) (w.alloc (.cells #[.int .i64 a, .int .i64 s, .int .i64 l, .int .i64 c] 33)) := by
  have hi := info_win
  cases hie : Try.prog.info? 33 with
  | none => simp [hie] at hi
  | some ie =>
    simp only [hie, Option.map_some, Option.some.injEq, Prod.mk.injEq] at hi
    obtain ⟨hz, hs⟩ := hi
    exact run_buildSlice w _ _ 1 _ _ ie _ Try.underlying71 hie hz (by rw [hs]; decide) (by rw [hs]; decide) (by rw [hs, show Array.range (1 * 4) = #[0, 1, 2, 3] by decide]; simp [Instr.fill, Value.cells])
/-- A slice of two windows is made. -/
theorem run_win2 (w : World) (a s l c a2 s2 l2 c2 : Int) : (Instr.buildSlice 71 2 #[(0, .agg #[.int .i64 a, .int .i64 s, .int .i64 l, .int .i64 c]), (1, .agg #[.int .i64 a2, .int .i64 s2, .int .i64 l2, .int .i64 c2])]).run Try.prog w = .ok (.slice (some ⟨w.heap.size, 0, none⟩) 2 2) (w.alloc (.cells #[.int .i64 a, .int .i64 s, .int .i64 l, .int .i64 c, .int .i64 a2, .int .i64 s2, .int .i64 l2, .int .i64 c2] 33)) := by
  have hi := info_win
  cases hie : Try.prog.info? 33 with
  | none => simp [hie] at hi
  | some ie =>
    simp only [hie, Option.map_some, Option.some.injEq, Prod.mk.injEq] at hi
    obtain ⟨hz, hs⟩ := hi
    exact run_buildSlice w _ _ 2 _ _ ie _ Try.underlying71 hie hz (by rw [hs]; decide) (by rw [hs]; decide) (by rw [hs, show Array.range (2 * 4) = #[0, 1, 2, 3, 4, 5, 6, 7] by decide]; simp [Instr.fill, Value.cells])

/-- What a window sees, read. -/
theorem seenR_calls (A : Option Addr) (cm : Nat) (m : List (List Int)) (n s l c : Nat) (w : World) (hr : Rd2 w w.heap.size A m) (hn : n < m.length) (h16 : m.length ≤ 16) (hl : l ≤ c) (hc : s + c ≤ m[n].length) (h1 : 1 ≤ m[n].length) (h64 : m[n].length ≤ 64) :
    Calls Try.prog 74 #[.agg #[.slice A m.length cm], .agg #[.int .i64 n, .int .i64 s, .int .i64 l, .int .i64 c]] w fun e w' => (∃ b, b.block < w.heap.size ∧ b.spot = none ∧ e = .returned (.slice (some b) l c) ∧ Rd w w.heap.size (some b) (intV .u8 (wb m n s l))) ∧ Below w.heap.size w w' := by
  obtain ⟨b, off, Ai, ci, rfl, hbb, hcell, hci, hcm, hri⟩ := hr.at_ hn
  have hri0 := hri
  rcases hri0 with h | ⟨br, offr, rfl, hbr, hcr⟩
  · exfalso; have := congrArg List.length h; rw [intV_len] at this; simp only [List.length_nil] at this; omega
  · refine (seen_calls b off cm m n s l c br offr ci w hn h16 hl hc h64 hci hcm hcell hbb).mono ?_
    rintro e w' ⟨⟨o, rfl, ho⟩, hb⟩
    refine ⟨⟨⟨br, o, none⟩, hbr, rfl, rfl, ?_⟩, hb⟩
    by_cases hc0 : 0 < c
    · rw [ho hc0, wb_eq hn]
      exact hri.part s l
    · obtain rfl : l = 0 := by omega
      left; simp [wb, intV]
end Go.Proofs.Ytoelagfcapdfpaa
