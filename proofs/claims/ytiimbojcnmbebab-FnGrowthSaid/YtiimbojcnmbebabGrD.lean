/-
  Growth of spec: one change.
-/
import Derived.Test.YtiimbojcnmbebabGrS
import Derived.Test.YtiimbojcnmbebabWin
import Derived.Test.YtiimbojcnmbebabBox
import Derived.Deep.RegionLaw
namespace Go.Proofs.Ytiimbojcnmbebab
open Go.RowKit

theorem six_cells {w : World} {g : Nat} {u0 u1 u2 u3 u4 u5 : Value} {t : TypeId} (h : w.heap[g]? = some (.cells #[u0, u1, u2, u3, u4, u5] t)) :
    w.cell? ⟨g, 0, none⟩ = some u0 ∧ w.cell? ⟨g, 1, none⟩ = some u1 ∧ w.cell? ⟨g, 2, none⟩ = some u2 ∧ w.cell? ⟨g, 3, none⟩ = some u3 ∧ w.cell? ⟨g, 4, none⟩ = some u4 ∧ w.cell? ⟨g, 5, none⟩ = some u5 := by simp [World.cell?, h]
theorem six_frozen {w : World} {g : Nat} {u0 u1 u2 u3 u4 u5 : Value} {t : TypeId} (h : w.heap[g]? = some (.cells #[u0, u1, u2, u3, u4, u5] t)) :
    w.frozen? ⟨g, 0, none⟩ = false ∧ w.frozen? ⟨g, 1, none⟩ = false ∧ w.frozen? ⟨g, 2, none⟩ = false ∧ w.frozen? ⟨g, 3, none⟩ = false ∧ w.frozen? ⟨g, 4, none⟩ = false ∧ w.frozen? ⟨g, 5, none⟩ = false := by simp [World.frozen?, h]
/-- A run's cells. -/
def runC (V : Value) (r : RunG) : Array Value := #[V, .int .i64 r.moves, .int .i64 r.cost, .int .i64 r.waste, .int .i64 r.len, .int .i64 r.cap]
/-- Behind stores into the run's block: all below w is as it was, the run's block holds r, the answer's block is zero. -/
structure St (w wx : World) (V : Value) (r : RunG) : Prop where
  b : Below w.heap.size w wx
  r : wx.heap[w.heap.size + 1]? = some (.cells #[V, .int .i64 r.moves, .int .i64 r.cost, .int .i64 r.waste, .int .i64 r.len, .int .i64 r.cap] 71)
  z : wx.heap[w.heap.size + 1 + 1]? = some (.cells #[.slice none 0 0, .int .i64 0, .int .i64 0, .int .i64 0, .int .i64 0, .int .i64 0] 71)
theorem St.below {w wx wy : World} {V : Value} {r : RunG} (h : St w wx V r) (hb : Below wx.heap.size wx wy) : St w wy V r :=
  ⟨h.b.trans (hb.mono h.b.size), (hb.block _ (Array.getElem?_eq_some_iff.1 h.r).1).trans h.r, (hb.block _ (Array.getElem?_eq_some_iff.1 h.z).1).trans h.z⟩
theorem St.moves {w wx : World} {V : Value} {r : RunG} (h : St w wx V r) (z : Int) : St w (wx.setCell ⟨w.heap.size + 1, 1, none⟩ (.int .i64 z)) V ⟨z, r.cost, r.waste, r.len, r.cap⟩ :=
  ⟨h.b.setCell (by show w.heap.size ≤ w.heap.size + 1; omega) _, by simpa using heap_set_same wx (w.heap.size + 1) 1 _ 71 (.int .i64 z) h.r (by simp), (Below.heap_setCell _ _ _ _ (by show w.heap.size + 1 + 1 ≠ w.heap.size + 1; omega)).trans h.z⟩
theorem St.cost {w wx : World} {V : Value} {r : RunG} (h : St w wx V r) (z : Int) : St w (wx.setCell ⟨w.heap.size + 1, 2, none⟩ (.int .i64 z)) V ⟨r.moves, z, r.waste, r.len, r.cap⟩ :=
  ⟨h.b.setCell (by show w.heap.size ≤ w.heap.size + 1; omega) _, by simpa using heap_set_same wx (w.heap.size + 1) 2 _ 71 (.int .i64 z) h.r (by simp), (Below.heap_setCell _ _ _ _ (by show w.heap.size + 1 + 1 ≠ w.heap.size + 1; omega)).trans h.z⟩
theorem St.waste {w wx : World} {V : Value} {r : RunG} (h : St w wx V r) (z : Int) : St w (wx.setCell ⟨w.heap.size + 1, 3, none⟩ (.int .i64 z)) V ⟨r.moves, r.cost, z, r.len, r.cap⟩ :=
  ⟨h.b.setCell (by show w.heap.size ≤ w.heap.size + 1; omega) _, by simpa using heap_set_same wx (w.heap.size + 1) 3 _ 71 (.int .i64 z) h.r (by simp), (Below.heap_setCell _ _ _ _ (by show w.heap.size + 1 + 1 ≠ w.heap.size + 1; omega)).trans h.z⟩
theorem St.len {w wx : World} {V : Value} {r : RunG} (h : St w wx V r) (z : Int) : St w (wx.setCell ⟨w.heap.size + 1, 4, none⟩ (.int .i64 z)) V ⟨r.moves, r.cost, r.waste, z, r.cap⟩ :=
  ⟨h.b.setCell (by show w.heap.size ≤ w.heap.size + 1; omega) _, by simpa using heap_set_same wx (w.heap.size + 1) 4 _ 71 (.int .i64 z) h.r (by simp), (Below.heap_setCell _ _ _ _ (by show w.heap.size + 1 + 1 ≠ w.heap.size + 1; omega)).trans h.z⟩
theorem St.cap {w wx : World} {V : Value} {r : RunG} (h : St w wx V r) (z : Int) : St w (wx.setCell ⟨w.heap.size + 1, 5, none⟩ (.int .i64 z)) V ⟨r.moves, r.cost, r.waste, r.len, z⟩ :=
  ⟨h.b.setCell (by show w.heap.size ≤ w.heap.size + 1; omega) _, by simpa using heap_set_same wx (w.heap.size + 1) 5 _ 71 (.int .i64 z) h.r (by simp), (Below.heap_setCell _ _ _ _ (by show w.heap.size + 1 + 1 ≠ w.heap.size + 1; omega)).trans h.z⟩
set_option maxHeartbeats 800000 in
theorem specDo_calls (g : GR) (hg : g.OK) (s : Int) (hs : s = 0 ∨ shrinkOK s) (r : RunG) (kk : Int) (hr : RunOK r kk) (hk : kk ≤ 3000) (n : Int) (hn : (Lit.int .i64 n).wf = true) (C : Option Addr) (k c : Nat) (w : World) :
    Calls Try.prog 70 #[.agg #[.int .i64 g.num, .int .i64 g.den, .int .i64 g.add], .int .i64 s, .agg #[.slice C k c, .int .i64 r.moves, .int .i64 r.cost, .int .i64 r.waste, .int .i64 r.len, .int .i64 r.cap], .int .i64 n] w
      fun e w' => (∃ (r' : RunG) (b : Bool), e = .returned (.tuple #[.agg #[.slice C k c, .int .i64 r'.moves, .int .i64 r'.cost, .int .i64 r'.waste, .int .i64 r'.len, .int .i64 r'.cap], .bool b]) ∧ doG g s r n = if b then some r' else none) ∧ Below w.heap.size w w' := by
  obtain ⟨l0, lc, c1, m0, m1, q0, q1, w0', w1'⟩ := hr
  have hn2 : -9223372036854775808 ≤ n ∧ n ≤ 9223372036854775807 := by simpa [Lit.wf, IntKind.min, IntKind.max, IntKind.signed, IntKind.bits] using hn
  obtain ⟨n1, n2⟩ := hn2
  obtain ⟨hb, g1, g2, g3, gz⟩ := enter3 w (.cells #[.int .i64 g.num, .int .i64 g.den, .int .i64 g.add] 25) (.cells #[.slice C k c, .int .i64 r.moves, .int .i64 r.cost, .int .i64 r.waste, .int .i64 r.len, .int .i64 r.cap] 71) (.cells #[.slice none 0 0, .int .i64 0, .int .i64 0, .int .i64 0, .int .i64 0, .int .i64 0] 71)
  obtain ⟨w0, hw0⟩ : ∃ w0, ((w.alloc (.cells #[.int .i64 g.num, .int .i64 g.den, .int .i64 g.add] 25)).alloc (.cells #[.slice C k c, .int .i64 r.moves, .int .i64 r.cost, .int .i64 r.waste, .int .i64 r.len, .int .i64 r.cap] 71)).alloc (.cells #[.slice none 0 0, .int .i64 0, .int .i64 0, .int .i64 0, .int .i64 0, .int .i64 0] 71) = w0 := ⟨_, rfl⟩
  rw [hw0] at hb g1 g2 g3 gz
  have HB := Lib.hid hb
  have HW := Lib.hid hw0
  have HS : Hid (St w w0 (.slice C k c) r) := Lib.hid ⟨hb, g2, g3⟩
  obtain ⟨a0, a1, a2⟩ := three_cells g1
  obtain ⟨b0, b1, b2, b3, b4, b5⟩ := six_cells HS.out.r
  obtain ⟨f0, f1, f2, f3, f4, f5⟩ := six_frozen HS.out.r
  obtain ⟨r0, r1, r2, r3, r4, r5⟩ := six_cells HS.out.z
  obtain ⟨e0, e1, e2, e3, e4, e5⟩ := six_frozen HS.out.z
  clear hb hw0 g1 g2 g3 hn
  by_cases h0 : 0 ≤ n
  · by_cases h1 : n ≤ 1000000 ∧ r.len + n ≤ 1000000
    · have HS1 := Lib.hid (specSize_calls n w0)
      have HS2 := Lib.hid (specSize_calls (r.len + n) w0)
      rw [decide_eq_true (show SzG n from ⟨h0, h1.1⟩)] at HS1
      rw [decide_eq_true (show SzG (r.len + n) from ⟨by omega, h1.2⟩)] at HS2
      obtain ⟨h11, h12⟩ := h1
      have HN := Lib.hid (specNext_calls g hg r.len r.cap n (by omega) c1 l0 h0 h12 w0)
      have hge := nextG_ge g r.len r.cap n
      have hle := nextG_le hg (len := r.len) (cap := r.cap) (n := n) (by omega) c1 h12
      have HD : Hid (doG g s r n = if (appG g r n).cap ≤ 1000000 then some (appG g r n) else none) := Lib.hid (by
        unfold doG
        rw [if_pos h0]
        by_cases hc : (appG g r n).cap ≤ 1000000
        · rw [if_pos ⟨h11, h12, hc⟩, if_pos hc]
        · rw [if_neg (fun h => hc h.2.2), if_neg hc])
      have HAP : Hid (appG g r n = ⟨r.moves + (if r.cap < nextG g r.len r.cap n then 1 else 0), r.cost + (if r.cap < nextG g r.len r.cap n then r.len else 0) + n, max r.waste (nextG g r.len r.cap n - (r.len + n)), r.len + n, nextG g r.len r.cap n⟩) := Lib.hid rfl
      obtain ⟨nx, hnx⟩ : ∃ nx, nextG g r.len r.cap n = nx := ⟨_, rfl⟩
      rw [hnx] at HN HAP hge hle
      obtain ⟨hge1, hge2⟩ := hge
      clear hnx
      go_enter Try.func70, Try.ntmps70
      go_wp2_with fail
      rw [HW.out]
      refine HS1.out.mono ?_
      rintro e w1 ⟨rfl, rfl⟩
      go_wp2_with fail
      refine HS2.out.mono ?_
      rintro e w1 ⟨rfl, rfl⟩
      go_wp2_with fail
      refine HN.out.mono ?_
      rintro e w1 ⟨rfl, hb1⟩
      replace HS := Lib.hid (HS.out.below hb1)
      clear b0 b1 b2 b3 b4 b5 f0 f1 f2 f3 f4 f5 r0 r1 r2 r3 r4 r5 e0 e1 e2 e3 e4 e5
      obtain ⟨b0, b1, b2, b3, b4, b5⟩ := six_cells HS.out.r
      obtain ⟨f0, f1, f2, f3, f4, f5⟩ := six_frozen HS.out.r
      obtain ⟨r0, r1, r2, r3, r4, r5⟩ := six_cells HS.out.z
      obtain ⟨e0, e1, e2, e3, e4, e5⟩ := six_frozen HS.out.z
      by_cases hc : r.cap < nx
      · rw [if_pos hc, if_pos hc] at HAP
        go_wp2_with fail
        refine (specMax_calls _ _ _).mono ?_
        rintro e w2 ⟨rfl, rfl⟩
        go_upto_region 19 with fail
        obtain ⟨r', hr'⟩ : ∃ r' : RunG, r' = ⟨r.moves + 1, r.cost + r.len + n, max r.waste ((nx) - (r.len + n)), r.len + n, nx⟩ := ⟨_, rfl⟩
        obtain ⟨w3, hs3, hw3⟩ : ∃ w3, St w w3 (.slice C k c) r' ∧ ((((((w1.setCell ⟨w.heap.size + 1, 1, none⟩ (.int .i64 (r.moves + 1))).setCell ⟨w.heap.size + 1, 2, none⟩ (.int .i64 (r.cost + r.len))).setCell ⟨w.heap.size + 1, 5, none⟩ (.int .i64 (nx))).setCell ⟨w.heap.size + 1, 2, none⟩ (.int .i64 (r.cost + r.len + n))).setCell ⟨w.heap.size + 1, 4, none⟩ (.int .i64 (r.len + n))).setCell ⟨w.heap.size + 1, 3, none⟩ (.int .i64 (max r.waste ((nx) - (r.len + n))))) = w3 := ⟨_, by rw [hr']; exact ((((((HS.out.moves (r.moves + 1)).cost (r.cost + r.len)).cap (nx)).cost (r.cost + r.len + n)).len (r.len + n)).waste (max r.waste ((nx) - (r.len + n)))), rfl⟩
        have hcap : nx = r'.cap := by rw [hr']
        have HOK : Hid (doG g s r n = if decide (SzG r'.cap) then some r' else none) := Lib.hid (by
          rw [HD.out, HAP.out, hr']
          by_cases h : nx ≤ 1000000
          · rw [if_pos h, if_pos (decide_eq_true (show SzG nx from ⟨by omega, h⟩))]
          · rw [if_neg h, if_neg (by simp only [decide_eq_true_eq]; exact fun h2 => h h2.2)])
        have HS3 := Lib.hid hs3
        clear b0 b1 b2 b3 b4 b5 f0 f1 f2 f3 f4 f5 r0 r1 r2 r3 r4 r5 e0 e1 e2 e3 e4 e5
        clear hr'
        rw [hw3, hcap]
        clear hw3 hs3 hcap
        obtain ⟨b0, b1, b2, b3, b4, b5⟩ := six_cells HS3.out.r
        obtain ⟨f0, f1, f2, f3, f4, f5⟩ := six_frozen HS3.out.r
        obtain ⟨r0, r1, r2, r3, r4, r5⟩ := six_cells HS3.out.z
        obtain ⟨e0, e1, e2, e3, e4, e5⟩ := six_frozen HS3.out.z
        obtain ⟨p, hp⟩ : ∃ p, decide (SzG r'.cap) = p := ⟨_, rfl⟩
        have HZ := Lib.hid (fun W => specSize_calls r'.cap W)
        rw [hp] at HZ HOK
        clear hp
        go_region_law ((try go_simp); go_at_call 49; (with_reducible refine (HZ.out _).mono ?_); rintro e wz ⟨rfl, rfl⟩)
        all_goals go_wp2_with fail
        all_goals refine bodyPost_ret (v := .tuple #[.agg #[.slice C k c, .int .i64 r'.moves, .int .i64 r'.cost, .int .i64 r'.waste, .int .i64 r'.len, .int .i64 r'.cap], .bool p]) (by simp [results, Try.results70, go_sem, r0, r1, r2, r3, r4, r5]) rfl ⟨⟨r', p, rfl, HOK.out⟩, ?_⟩
        all_goals (have hB3 := HS3.out.b; (repeat (first | (with_reducible exact Below.refl _ _) | (with_reducible refine Below.drew ?_) | ((with_reducible refine Below.alloc ?_ ?hB _); case hB => (first | (with_reducible exact Nat.le_refl _) | omega | (simp; done) | (simp; omega))) | ((with_reducible refine Below.setCell ?_ ?hB _); case hB => (first | (with_reducible exact Nat.le_refl _) | omega | (simp; done) | (simp; omega))))); exact hB3)
      · rw [if_neg hc, if_neg hc] at HAP
        obtain rfl : nx = r.cap := by omega
        go_wp2_with fail
        refine (specMax_calls _ _ _).mono ?_
        rintro e w2 ⟨rfl, rfl⟩
        go_upto_region 19 with fail
        obtain ⟨r', hr'⟩ : ∃ r' : RunG, r' = ⟨r.moves, r.cost + n, max r.waste ((r.cap) - (r.len + n)), r.len + n, r.cap⟩ := ⟨_, rfl⟩
        obtain ⟨w3, hs3, hw3⟩ : ∃ w3, St w w3 (.slice C k c) r' ∧ (((w1.setCell ⟨w.heap.size + 1, 2, none⟩ (.int .i64 (r.cost + n))).setCell ⟨w.heap.size + 1, 4, none⟩ (.int .i64 (r.len + n))).setCell ⟨w.heap.size + 1, 3, none⟩ (.int .i64 (max r.waste ((r.cap) - (r.len + n))))) = w3 := ⟨_, by rw [hr']; exact (((HS.out.cost (r.cost + n)).len (r.len + n)).waste (max r.waste ((r.cap) - (r.len + n)))), rfl⟩
        have hcap : r.cap = r'.cap := by rw [hr']
        have HOK : Hid (doG g s r n = if decide (SzG r'.cap) then some r' else none) := Lib.hid (by
          rw [HD.out, HAP.out, hr']
          rw [if_pos (show r.cap ≤ 1000000 from c1), if_pos (decide_eq_true (show SzG r.cap from ⟨by omega, c1⟩))]
          simp)
        have HS3 := Lib.hid hs3
        clear b0 b1 b2 b3 b4 b5 f0 f1 f2 f3 f4 f5 r0 r1 r2 r3 r4 r5 e0 e1 e2 e3 e4 e5
        clear hr'
        rw [hw3, hcap]
        clear hw3 hs3 hcap
        obtain ⟨b0, b1, b2, b3, b4, b5⟩ := six_cells HS3.out.r
        obtain ⟨f0, f1, f2, f3, f4, f5⟩ := six_frozen HS3.out.r
        obtain ⟨r0, r1, r2, r3, r4, r5⟩ := six_cells HS3.out.z
        obtain ⟨e0, e1, e2, e3, e4, e5⟩ := six_frozen HS3.out.z
        obtain ⟨p, hp⟩ : ∃ p, decide (SzG r'.cap) = p := ⟨_, rfl⟩
        have HZ := Lib.hid (fun W => specSize_calls r'.cap W)
        rw [hp] at HZ HOK
        clear hp
        go_region_law ((try go_simp); go_at_call 49; (with_reducible refine (HZ.out _).mono ?_); rintro e wz ⟨rfl, rfl⟩)
        all_goals go_wp2_with fail
        all_goals refine bodyPost_ret (v := .tuple #[.agg #[.slice C k c, .int .i64 r'.moves, .int .i64 r'.cost, .int .i64 r'.waste, .int .i64 r'.len, .int .i64 r'.cap], .bool p]) (by simp [results, Try.results70, go_sem, r0, r1, r2, r3, r4, r5]) rfl ⟨⟨r', p, rfl, HOK.out⟩, ?_⟩
        all_goals (have hB3 := HS3.out.b; (repeat (first | (with_reducible exact Below.refl _ _) | (with_reducible refine Below.drew ?_) | ((with_reducible refine Below.alloc ?_ ?hB _); case hB => (first | (with_reducible exact Nat.le_refl _) | omega | (simp; done) | (simp; omega))) | ((with_reducible refine Below.setCell ?_ ?hB _); case hB => (first | (with_reducible exact Nat.le_refl _) | omega | (simp; done) | (simp; omega))))); exact hB3)
    · have HD : Hid (doG g s r n = none) := Lib.hid (by
        unfold doG
        rw [if_pos h0, if_neg (fun h => h1 ⟨h.1, h.2.1⟩)])
      have HS1 := Lib.hid (specSize_calls n w0)
      have HS2 := Lib.hid (specSize_calls (r.len + n) w0)
      by_cases h11 : n ≤ 1000000
      · rw [decide_eq_true (show SzG n from ⟨h0, h11⟩)] at HS1
        rw [decide_eq_false (show ¬ SzG (r.len + n) from fun h => h1 ⟨h11, h.2⟩)] at HS2
        clear h1
        go_enter Try.func70, Try.ntmps70
        go_wp2_with fail
        rw [HW.out]
        refine HS1.out.mono ?_
        rintro e w1 ⟨rfl, rfl⟩
        go_wp2_with fail
        refine HS2.out.mono ?_
        rintro e w1 ⟨rfl, rfl⟩
        go_wp2_with fail
        refine bodyPost_ret (v := .tuple #[.agg #[.slice C k c, .int .i64 r.moves, .int .i64 r.cost, .int .i64 r.waste, .int .i64 r.len, .int .i64 r.cap], .bool false]) (by simp [results, Try.results70, go_sem, r0, r1, r2, r3, r4, r5]) rfl ⟨(by first | exact ⟨r, false, rfl, HD.out⟩ | exact ⟨r, .inl ⟨rfl, HD.out⟩⟩), ?_⟩
        have hB3 := HB.out
        (repeat (first | (with_reducible exact Below.refl _ _) | (with_reducible refine Below.drew ?_) | ((with_reducible refine Below.alloc ?_ ?hB _); case hB => (first | (with_reducible exact Nat.le_refl _) | omega | (simp; done) | (simp; omega))) | ((with_reducible refine Below.setCell ?_ ?hB _); case hB => (first | (with_reducible exact Nat.le_refl _) | omega | (simp; done) | (simp; omega)))))
        exact hB3
      · rw [decide_eq_false (show ¬ SzG n from fun h => h11 h.2)] at HS1
        clear h1
        go_enter Try.func70, Try.ntmps70
        go_wp2_with fail
        rw [HW.out]
        refine HS1.out.mono ?_
        rintro e w1 ⟨rfl, rfl⟩
        go_wp2_with fail
        refine bodyPost_ret (v := .tuple #[.agg #[.slice C k c, .int .i64 r.moves, .int .i64 r.cost, .int .i64 r.waste, .int .i64 r.len, .int .i64 r.cap], .bool false]) (by simp [results, Try.results70, go_sem, r0, r1, r2, r3, r4, r5]) rfl ⟨(by first | exact ⟨r, false, rfl, HD.out⟩ | exact ⟨r, .inl ⟨rfl, HD.out⟩⟩), ?_⟩
        have hB3 := HB.out
        (repeat (first | (with_reducible exact Below.refl _ _) | (with_reducible refine Below.drew ?_) | ((with_reducible refine Below.alloc ?_ ?hB _); case hB => (first | (with_reducible exact Nat.le_refl _) | omega | (simp; done) | (simp; omega))) | ((with_reducible refine Below.setCell ?_ ?hB _); case hB => (first | (with_reducible exact Nat.le_refl _) | omega | (simp; done) | (simp; omega)))))
        exact hB3
  · have hneg : decide (0 ≤ n) = false := decide_eq_false h0
    by_cases hs0 : s = 0
    · have HD : Hid (doG g s r n = none) := Lib.hid (by
        unfold doG
        rw [if_neg h0, if_pos (.inl hs0)])
      subst hs0
      go_enter Try.func70, Try.ntmps70
      go_upto_region 11 with fail
      rw [HW.out]
      go_wp2_with fail
      refine bodyPost_ret (v := .tuple #[.agg #[.slice C k c, .int .i64 r.moves, .int .i64 r.cost, .int .i64 r.waste, .int .i64 r.len, .int .i64 r.cap], .bool false]) (by simp [results, Try.results70, go_sem, r0, r1, r2, r3, r4, r5]) rfl ⟨(by first | exact ⟨r, false, rfl, HD.out⟩ | exact ⟨r, .inl ⟨rfl, HD.out⟩⟩), ?_⟩
      have hB3 := HB.out
      (repeat (first | (with_reducible exact Below.refl _ _) | (with_reducible refine Below.drew ?_) | ((with_reducible refine Below.alloc ?_ ?hB _); case hB => (first | (with_reducible exact Nat.le_refl _) | omega | (simp; done) | (simp; omega))) | ((with_reducible refine Below.setCell ?_ ?hB _); case hB => (first | (with_reducible exact Nat.le_refl _) | omega | (simp; done) | (simp; omega)))))
      exact hB3
    · have hsn : (s == 0) = false := by simp [hs0]
      obtain ⟨s2, s8⟩ : shrinkOK s := hs.resolve_left hs0
      by_cases h1 : r.len + n < 0
      · have HD : Hid (doG g s r n = none) := Lib.hid (by
          unfold doG
          rw [if_neg h0, if_pos (.inr h1)])
        go_enter Try.func70, Try.ntmps70
        go_upto_region 11 with fail
        rw [HW.out]
        go_wp2_with fail
        refine bodyPost_ret (v := .tuple #[.agg #[.slice C k c, .int .i64 r.moves, .int .i64 r.cost, .int .i64 r.waste, .int .i64 r.len, .int .i64 r.cap], .bool false]) (by simp [results, Try.results70, go_sem, r0, r1, r2, r3, r4, r5]) rfl ⟨(by first | exact ⟨r, false, rfl, HD.out⟩ | exact ⟨r, .inl ⟨rfl, HD.out⟩⟩), ?_⟩
        have hB3 := HB.out
        (repeat (first | (with_reducible exact Below.refl _ _) | (with_reducible refine Below.drew ?_) | ((with_reducible refine Below.alloc ?_ ?hB _); case hB => (first | (with_reducible exact Nat.le_refl _) | omega | (simp; done) | (simp; omega))) | ((with_reducible refine Below.setCell ?_ ?hB _); case hB => (first | (with_reducible exact Nat.le_refl _) | omega | (simp; done) | (simp; omega)))))
        exact hB3
      · have HD : Hid (doG g s r n = some (takeG s r n)) := Lib.hid (by
          unfold doG
          rw [if_neg h0, if_neg (fun h => h.elim hs0 h1)])
        have m0' : 0 ≤ s * (r.len + n) := Int.mul_nonneg (by omega) (by omega)
        have m1' : s * (r.len + n) ≤ 8000000 := by
          have e1 : s * (r.len + n) ≤ 8 * (r.len + n) := Int.mul_le_mul_of_nonneg_right s8 (by omega)
          omega
        have kx : IntKind.i64.wrap (s * (r.len + n)) = s * (r.len + n) := IntWalk.i64_in _ (by omega)
        by_cases hsh : s * (r.len + n) ≤ r.cap ∧ 2 ≤ r.cap
        · have HT : Hid (takeG s r n = ⟨r.moves + 1, r.cost + (r.len + n), max r.waste (max (r.cap.tdiv 2) (r.len + n) - (r.len + n)), r.len + n, max (r.cap.tdiv 2) (r.len + n)⟩) := Lib.hid (by
            unfold takeG
            exact if_pos hsh)
          obtain ⟨hsh1, hsh2⟩ := hsh
          have hd2 : r.cap.tdiv 2 = r.cap / 2 := Int.tdiv_eq_ediv_of_nonneg (by omega)
          rw [hd2] at HT
          have hdb : 0 ≤ r.cap / 2 ∧ r.cap / 2 ≤ r.cap := ⟨Int.ediv_nonneg (by omega) (by omega), Int.ediv_le_self _ (by omega)⟩
          obtain ⟨mx, hmx⟩ : ∃ mx, max (r.cap / 2) (r.len + n) = mx := ⟨_, rfl⟩
          have hmb : 0 ≤ mx ∧ mx ≤ 1000000 ∧ r.len + n ≤ mx := by omega
          have HM := Lib.hid (fun W => specMax_calls (r.cap / 2) (r.len + n) W)
          rw [hmx] at HM HT
          obtain ⟨hm0, hm1, hm2⟩ := hmb
          clear hmx hdb hd2
          go_enter Try.func70, Try.ntmps70
          go_upto_region 11 with fail
          rw [HW.out]
          go_wp2_with fail
          refine (HM.out _).mono ?_
          rintro e w1 ⟨rfl, rfl⟩
          go_wp2_with fail
          refine (specMax_calls _ _ _).mono ?_
          rintro e w2 ⟨rfl, rfl⟩
          go_upto_region 19 with fail
          obtain ⟨r', hr'⟩ : ∃ r' : RunG, r' = ⟨r.moves + 1, r.cost + (r.len + n), max r.waste ((mx) - (r.len + n)), r.len + n, mx⟩ := ⟨_, rfl⟩
          obtain ⟨w3, hs3, hw3⟩ : ∃ w3, St w w3 (.slice C k c) r' ∧ (((((w0.setCell ⟨w.heap.size + 1, 4, none⟩ (.int .i64 (r.len + n))).setCell ⟨w.heap.size + 1, 5, none⟩ (.int .i64 (mx))).setCell ⟨w.heap.size + 1, 1, none⟩ (.int .i64 (r.moves + 1))).setCell ⟨w.heap.size + 1, 2, none⟩ (.int .i64 (r.cost + (r.len + n)))).setCell ⟨w.heap.size + 1, 3, none⟩ (.int .i64 (max r.waste ((mx) - (r.len + n))))) = w3 := ⟨_, by rw [hr']; exact (((((HS.out.len (r.len + n)).cap (mx)).moves (r.moves + 1)).cost (r.cost + (r.len + n))).waste (max r.waste ((mx) - (r.len + n)))), rfl⟩
          have hcap : mx = r'.cap := by rw [hr']
          have HOK : Hid (doG g s r n = if decide (SzG r'.cap) then some r' else none) := Lib.hid (by
            rw [HD.out, HT.out, hr']
            rw [if_pos (decide_eq_true (show SzG (mx) from ⟨by omega, by omega⟩))])
          have HS3 := Lib.hid hs3
          clear b0 b1 b2 b3 b4 b5 f0 f1 f2 f3 f4 f5 r0 r1 r2 r3 r4 r5 e0 e1 e2 e3 e4 e5
          clear hr'
          rw [hw3, hcap]
          clear hw3 hs3 hcap
          obtain ⟨b0, b1, b2, b3, b4, b5⟩ := six_cells HS3.out.r
          obtain ⟨f0, f1, f2, f3, f4, f5⟩ := six_frozen HS3.out.r
          obtain ⟨r0, r1, r2, r3, r4, r5⟩ := six_cells HS3.out.z
          obtain ⟨e0, e1, e2, e3, e4, e5⟩ := six_frozen HS3.out.z
          obtain ⟨p, hp⟩ : ∃ p, decide (SzG r'.cap) = p := ⟨_, rfl⟩
          have HZ := Lib.hid (fun W => specSize_calls r'.cap W)
          rw [hp] at HZ HOK
          clear hp
          go_region_law ((try go_simp); go_at_call 49; (with_reducible refine (HZ.out _).mono ?_); rintro e wz ⟨rfl, rfl⟩)
          all_goals go_wp2_with fail
          all_goals refine bodyPost_ret (v := .tuple #[.agg #[.slice C k c, .int .i64 r'.moves, .int .i64 r'.cost, .int .i64 r'.waste, .int .i64 r'.len, .int .i64 r'.cap], .bool p]) (by simp [results, Try.results70, go_sem, r0, r1, r2, r3, r4, r5]) rfl ⟨⟨r', p, rfl, HOK.out⟩, ?_⟩
          all_goals (have hB3 := HS3.out.b; (repeat (first | (with_reducible exact Below.refl _ _) | (with_reducible refine Below.drew ?_) | ((with_reducible refine Below.alloc ?_ ?hB _); case hB => (first | (with_reducible exact Nat.le_refl _) | omega | (simp; done) | (simp; omega))) | ((with_reducible refine Below.setCell ?_ ?hB _); case hB => (first | (with_reducible exact Nat.le_refl _) | omega | (simp; done) | (simp; omega))))); exact hB3)
        · have HT : Hid (takeG s r n = ⟨r.moves, r.cost, max r.waste (r.cap - (r.len + n)), r.len + n, r.cap⟩) := Lib.hid (by
            unfold takeG
            exact if_neg hsh)
          go_enter Try.func70, Try.ntmps70
          go_upto_region 11 with fail
          rw [HW.out]
          by_cases hsh1 : s * (r.len + n) ≤ r.cap
          · have hsh2 : ¬ 2 ≤ r.cap := fun h => hsh ⟨hsh1, h⟩
            clear hsh
            go_wp2_with fail
            refine (specMax_calls _ _ _).mono ?_
            rintro e w2 ⟨rfl, rfl⟩
            go_upto_region 19 with fail
            obtain ⟨r', hr'⟩ : ∃ r' : RunG, r' = ⟨r.moves, r.cost, max r.waste ((r.cap) - (r.len + n)), r.len + n, r.cap⟩ := ⟨_, rfl⟩
            obtain ⟨w3, hs3, hw3⟩ : ∃ w3, St w w3 (.slice C k c) r' ∧ ((w0.setCell ⟨w.heap.size + 1, 4, none⟩ (.int .i64 (r.len + n))).setCell ⟨w.heap.size + 1, 3, none⟩ (.int .i64 (max r.waste ((r.cap) - (r.len + n))))) = w3 := ⟨_, by rw [hr']; exact ((HS.out.len (r.len + n)).waste (max r.waste ((r.cap) - (r.len + n)))), rfl⟩
            have hcap : r.cap = r'.cap := by rw [hr']
            have HOK : Hid (doG g s r n = if decide (SzG r'.cap) then some r' else none) := Lib.hid (by
              rw [HD.out, HT.out, hr']
              rw [if_pos (decide_eq_true (show SzG (r.cap) from ⟨by omega, by omega⟩))])
            have HS3 := Lib.hid hs3
            clear b0 b1 b2 b3 b4 b5 f0 f1 f2 f3 f4 f5 r0 r1 r2 r3 r4 r5 e0 e1 e2 e3 e4 e5
            clear hr'
            rw [hw3, hcap]
            clear hw3 hs3 hcap
            obtain ⟨b0, b1, b2, b3, b4, b5⟩ := six_cells HS3.out.r
            obtain ⟨f0, f1, f2, f3, f4, f5⟩ := six_frozen HS3.out.r
            obtain ⟨r0, r1, r2, r3, r4, r5⟩ := six_cells HS3.out.z
            obtain ⟨e0, e1, e2, e3, e4, e5⟩ := six_frozen HS3.out.z
            obtain ⟨p, hp⟩ : ∃ p, decide (SzG r'.cap) = p := ⟨_, rfl⟩
            have HZ := Lib.hid (fun W => specSize_calls r'.cap W)
            rw [hp] at HZ HOK
            clear hp
            go_region_law ((try go_simp); go_at_call 49; (with_reducible refine (HZ.out _).mono ?_); rintro e wz ⟨rfl, rfl⟩)
            all_goals go_wp2_with fail
            all_goals refine bodyPost_ret (v := .tuple #[.agg #[.slice C k c, .int .i64 r'.moves, .int .i64 r'.cost, .int .i64 r'.waste, .int .i64 r'.len, .int .i64 r'.cap], .bool p]) (by simp [results, Try.results70, go_sem, r0, r1, r2, r3, r4, r5]) rfl ⟨⟨r', p, rfl, HOK.out⟩, ?_⟩
            all_goals (have hB3 := HS3.out.b; (repeat (first | (with_reducible exact Below.refl _ _) | (with_reducible refine Below.drew ?_) | ((with_reducible refine Below.alloc ?_ ?hB _); case hB => (first | (with_reducible exact Nat.le_refl _) | omega | (simp; done) | (simp; omega))) | ((with_reducible refine Below.setCell ?_ ?hB _); case hB => (first | (with_reducible exact Nat.le_refl _) | omega | (simp; done) | (simp; omega))))); exact hB3)
          · clear hsh
            go_wp2_with fail
            refine (specMax_calls _ _ _).mono ?_
            rintro e w2 ⟨rfl, rfl⟩
            go_upto_region 19 with fail
            obtain ⟨r', hr'⟩ : ∃ r' : RunG, r' = ⟨r.moves, r.cost, max r.waste ((r.cap) - (r.len + n)), r.len + n, r.cap⟩ := ⟨_, rfl⟩
            obtain ⟨w3, hs3, hw3⟩ : ∃ w3, St w w3 (.slice C k c) r' ∧ ((w0.setCell ⟨w.heap.size + 1, 4, none⟩ (.int .i64 (r.len + n))).setCell ⟨w.heap.size + 1, 3, none⟩ (.int .i64 (max r.waste ((r.cap) - (r.len + n))))) = w3 := ⟨_, by rw [hr']; exact ((HS.out.len (r.len + n)).waste (max r.waste ((r.cap) - (r.len + n)))), rfl⟩
            have hcap : r.cap = r'.cap := by rw [hr']
            have HOK : Hid (doG g s r n = if decide (SzG r'.cap) then some r' else none) := Lib.hid (by
              rw [HD.out, HT.out, hr']
              rw [if_pos (decide_eq_true (show SzG (r.cap) from ⟨by omega, by omega⟩))])
            have HS3 := Lib.hid hs3
            clear b0 b1 b2 b3 b4 b5 f0 f1 f2 f3 f4 f5 r0 r1 r2 r3 r4 r5 e0 e1 e2 e3 e4 e5
            clear hr'
            rw [hw3, hcap]
            clear hw3 hs3 hcap
            obtain ⟨b0, b1, b2, b3, b4, b5⟩ := six_cells HS3.out.r
            obtain ⟨f0, f1, f2, f3, f4, f5⟩ := six_frozen HS3.out.r
            obtain ⟨r0, r1, r2, r3, r4, r5⟩ := six_cells HS3.out.z
            obtain ⟨e0, e1, e2, e3, e4, e5⟩ := six_frozen HS3.out.z
            obtain ⟨p, hp⟩ : ∃ p, decide (SzG r'.cap) = p := ⟨_, rfl⟩
            have HZ := Lib.hid (fun W => specSize_calls r'.cap W)
            rw [hp] at HZ HOK
            clear hp
            go_region_law ((try go_simp); go_at_call 49; (with_reducible refine (HZ.out _).mono ?_); rintro e wz ⟨rfl, rfl⟩)
            all_goals go_wp2_with fail
            all_goals refine bodyPost_ret (v := .tuple #[.agg #[.slice C k c, .int .i64 r'.moves, .int .i64 r'.cost, .int .i64 r'.waste, .int .i64 r'.len, .int .i64 r'.cap], .bool p]) (by simp [results, Try.results70, go_sem, r0, r1, r2, r3, r4, r5]) rfl ⟨⟨r', p, rfl, HOK.out⟩, ?_⟩
            all_goals (have hB3 := HS3.out.b; (repeat (first | (with_reducible exact Below.refl _ _) | (with_reducible refine Below.drew ?_) | ((with_reducible refine Below.alloc ?_ ?hB _); case hB => (first | (with_reducible exact Nat.le_refl _) | omega | (simp; done) | (simp; omega))) | ((with_reducible refine Below.setCell ?_ ?hB _); case hB => (first | (with_reducible exact Nat.le_refl _) | omega | (simp; done) | (simp; omega))))); exact hB3)
end Go.Proofs.Ytiimbojcnmbebab
