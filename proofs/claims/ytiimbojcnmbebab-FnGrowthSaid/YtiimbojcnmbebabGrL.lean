/-
  Growth of spec: bytes one by one.
-/
import Derived.Test.YtiimbojcnmbebabGrD
import Derived.Deep.LoopGhost
namespace Go.Proofs.Ytiimbojcnmbebab
open Go.RowKit

/-- A rule, an answer that is zero as yet, and a run, as a function has them. -/
structure SR (w wx : World) (g : GR) (V : Value) (r : RunG) : Prop where
  b : Below w.heap.size w wx
  g : wx.heap[w.heap.size]? = some (.cells #[.int .i64 g.num, .int .i64 g.den, .int .i64 g.add] 25)
  z : wx.heap[w.heap.size + 1]? = some (.cells #[.slice none 0 0, .int .i64 0, .int .i64 0, .int .i64 0, .int .i64 0, .int .i64 0] 71)
  r : wx.heap[w.heap.size + 1 + 1]? = some (.cells #[V, .int .i64 r.moves, .int .i64 r.cost, .int .i64 r.waste, .int .i64 r.len, .int .i64 r.cap] 71)
theorem SR.below {w wx wy : World} {g : GR} {V : Value} {r : RunG} (h : SR w wx g V r) (hb : Below wx.heap.size wx wy) : SR w wy g V r :=
  ⟨h.b.trans (hb.mono h.b.size), (hb.block _ (Array.getElem?_eq_some_iff.1 h.g).1).trans h.g, (hb.block _ (Array.getElem?_eq_some_iff.1 h.z).1).trans h.z, (hb.block _ (Array.getElem?_eq_some_iff.1 h.r).1).trans h.r⟩
theorem six_set {wx : World} {q : Nat} {u0 u1 u2 u3 u4 u5 v0 v1 v2 v3 v4 v5 : Value} {t : TypeId} (h : wx.heap[q]? = some (.cells #[u0, u1, u2, u3, u4, u5] t)) :
    ((((((wx.setCell ⟨q, 0, none⟩ v0).setCell ⟨q, 1, none⟩ v1).setCell ⟨q, 2, none⟩ v2).setCell ⟨q, 3, none⟩ v3).setCell ⟨q, 4, none⟩ v4).setCell ⟨q, 5, none⟩ v5).heap[q]? = some (.cells #[v0, v1, v2, v3, v4, v5] t) := by
  have h0 := heap_set_same wx q 0 _ t v0 h (by simp)
  have h1 := heap_set_same _ q 1 _ t v1 h0 (by simp)
  have h2 := heap_set_same _ q 2 _ t v2 h1 (by simp)
  have h3 := heap_set_same _ q 3 _ t v3 h2 (by simp)
  have h4 := heap_set_same _ q 4 _ t v4 h3 (by simp)
  have h5 := heap_set_same _ q 5 _ t v5 h4 (by simp)
  simpa using h5
theorem six_other {wx : World} {q j : Nat} {v0 v1 v2 v3 v4 v5 : Value} (hj : j ≠ q) : ((((((wx.setCell ⟨q, 0, none⟩ v0).setCell ⟨q, 1, none⟩ v1).setCell ⟨q, 2, none⟩ v2).setCell ⟨q, 3, none⟩ v3).setCell ⟨q, 4, none⟩ v4).setCell ⟨q, 5, none⟩ v5).heap[j]? = wx.heap[j]? := by
  rw [Below.heap_setCell _ _ _ _ hj, Below.heap_setCell _ _ _ _ hj, Below.heap_setCell _ _ _ _ hj, Below.heap_setCell _ _ _ _ hj, Below.heap_setCell _ _ _ _ hj, Below.heap_setCell _ _ _ _ hj]
theorem SR.set {w wx : World} {g : GR} {V V' : Value} {r r' : RunG} (h : SR w wx g V r) : SR w (((((((wx.setCell ⟨w.heap.size + 1 + 1, 0, none⟩ V').setCell ⟨w.heap.size + 1 + 1, 1, none⟩ (.int .i64 r'.moves)).setCell ⟨w.heap.size + 1 + 1, 2, none⟩ (.int .i64 r'.cost)).setCell ⟨w.heap.size + 1 + 1, 3, none⟩ (.int .i64 r'.waste)).setCell ⟨w.heap.size + 1 + 1, 4, none⟩ (.int .i64 r'.len)).setCell ⟨w.heap.size + 1 + 1, 5, none⟩ (.int .i64 r'.cap))) g V' r' := by
  refine ⟨?_, ?_, ?_, six_set h.r⟩
  · refine Below.setCell (Below.setCell (Below.setCell (Below.setCell (Below.setCell (Below.setCell h.b ?_ _) ?_ _) ?_ _) ?_ _) ?_ _) ?_ _ <;> (show w.heap.size ≤ w.heap.size + 1 + 1; omega)
  · rw [six_other (by omega)]; exact h.g
  · rw [six_other (by omega)]; exact h.z
/-- What bytes one by one bring, at last. -/
def singR (g : GR) (k : Int) : RunG × Bool := match singG g k with
  | some p => (p.1, true)
  | none => (runG0, false)
theorem sing_none {g : GR} {k : Int} {i : Nat} (h : (i : Int) < k) (ha : allG g 0 runG0 (List.replicate (i + 1) 1) = none) : singR g k = (runG0, false) := by
  unfold singR singG
  split
  · rename_i p hp
    split at hp
    · rw [show List.replicate k.toNat (1 : Int) = List.replicate (i + 1) 1 ++ List.replicate (k.toNat - (i + 1)) 1 by rw [List.replicate_append_replicate]; congr 1; omega, allG_none _ _ _ _ _ ha] at hp
      cases hp
    · cases hp
  · rfl
theorem sing_some {g : GR} {k : Int} {i : Nat} {r : RunG} {cs : List Int} (hg : g.OK ∧ 0 ≤ k ∧ k ≤ 2000) (h : k = i) (ha : allG g 0 runG0 (List.replicate i 1) = some (r, cs)) : singR g k = (r, true) := by
  unfold singR singG
  rw [if_pos hg, show k.toNat = i by omega, ha]
set_option maxHeartbeats 1600000 in
theorem specSingles_calls (g : GR) (k : Int) (w : World) :
    Calls Try.prog 46 #[.agg #[.int .i64 g.num, .int .i64 g.den, .int .i64 g.add], .int .i64 k] w
      fun e w' => e = .returned (.tuple #[.agg #[.slice none 0 0, .int .i64 (singR g k).1.moves, .int .i64 (singR g k).1.cost, .int .i64 (singR g k).1.waste, .int .i64 (singR g k).1.len, .int .i64 (singR g k).1.cap], .bool (singR g k).2]) ∧ Below w.heap.size w w' := by
  obtain ⟨hb, g1, g2, g3, gz⟩ := enter3 w (.cells #[.int .i64 g.num, .int .i64 g.den, .int .i64 g.add] 25) (.cells #[.slice none 0 0, .int .i64 0, .int .i64 0, .int .i64 0, .int .i64 0, .int .i64 0] 71) (.cells #[.slice none 0 0, .int .i64 0, .int .i64 0, .int .i64 0, .int .i64 0, .int .i64 0] 71)
  obtain ⟨w0, hw0⟩ : ∃ w0, ((w.alloc (.cells #[.int .i64 g.num, .int .i64 g.den, .int .i64 g.add] 25)).alloc (.cells #[.slice none 0 0, .int .i64 0, .int .i64 0, .int .i64 0, .int .i64 0, .int .i64 0] 71)).alloc (.cells #[.slice none 0 0, .int .i64 0, .int .i64 0, .int .i64 0, .int .i64 0, .int .i64 0] 71) = w0 := ⟨_, rfl⟩
  rw [hw0] at hb g1 g2 g3 gz
  have HW := Lib.hid hw0
  have HS : Hid (SR w w0 g (.slice none 0 0) runG0) := Lib.hid ⟨hb, g1, g2, g3⟩
  have HU := Lib.hid (specRule_calls g w0)
  have HI := Lib.hid (fun W => specIn_calls k 0 2000 W)
  obtain ⟨a0, a1, a2⟩ := three_cells g1
  clear hw0 hb g1 g2 g3
  obtain ⟨p, hp⟩ : ∃ p, decide (0 ≤ k ∧ k ≤ 2000) = p := ⟨_, rfl⟩
  by_cases hg : g.OK
  · rw [decide_eq_true hg] at HU
    by_cases hk : 0 ≤ k ∧ k ≤ 2000
    · rw [decide_eq_true hk] at HI
      clear hp
      go_enter Try.func46, Try.ntmps46
      go_wp2_with fail
      rw [HW.out]
      refine HU.out.mono ?_
      rintro e w1 ⟨rfl, hb1⟩
      have HS1 := Lib.hid (HS.out.below hb1)
      clear hb1 a0 a1 a2
      go_wp2_with fail
      refine (HI.out _).mono ?_
      rintro e w2 ⟨rfl, rfl⟩
      go_wp2_with fail
      go_loopw [7] (fun s wr => ∃ (i : Nat) (r : RunG) (cs : List Int), (i : Int) ≤ k ∧ s = .int .i64 i ∧ allG g 0 runG0 (List.replicate i 1) = some (r, cs) ∧ Hid (SR w wr g (.slice none 0 0) r)) (fun s _ => (k - intOf s).toNat)
      case atStart => exact ⟨0, runG0, [], hk.1, rfl, rfl, HS1.out |> Lib.hid⟩
      case round =>
        obtain ⟨i, r, cs, hi, rfl, ha, HR⟩ := hrel
        have HA := Lib.hid ha
        have hok := (allG_ok hg (Int.le_refl 0) runG0_ok ha).1
        obtain ⟨k0, k1⟩ := hk
        rw [List.length_replicate] at hok
        obtain ⟨a0, a1, a2⟩ := three_cells HR.out.g
        obtain ⟨b0, b1, b2, b3, b4, b5⟩ := six_cells HR.out.r
        obtain ⟨f0, f1, f2, f3, f4, f5⟩ := six_frozen HR.out.r
        obtain ⟨r0, r1, r2, r3, r4, r5⟩ := six_cells HR.out.z
        obtain ⟨e0, e1, e2, e3, e4, e5⟩ := six_frozen HR.out.z
        clear ha
        by_cases hlt : (i : Int) < k
        · have HD := Lib.hid (specDo_calls g hg 0 (.inl rfl) r _ hok (by omega) 1 (by decide) none 0 0 wr)
          have hi2 : (i : Int) ≤ 2000 := by omega
          go_wp2_with fail
          refine HD.out.mono ?_
          rintro e w3 ⟨⟨r', b, rfl, hd⟩, hb3⟩
          have HDD := Lib.hid hd
          obtain ⟨w4, hw4⟩ : ∃ w4, w3.alloc (.cells #[.slice none 0 0, .int .i64 r'.moves, .int .i64 r'.cost, .int .i64 r'.waste, .int .i64 r'.len, .int .i64 r'.cap] 71) = w4 := ⟨_, rfl⟩
          have hb4 : Below wr.heap.size wr w4 := by rw [← hw4]; exact hb3.alloc hb3.size _
          have hg4 : w4.heap[w3.heap.size]? = some (.cells #[.slice none 0 0, .int .i64 r'.moves, .int .i64 r'.cost, .int .i64 r'.waste, .int .i64 r'.len, .int .i64 r'.cap] 71) := by rw [← hw4]; exact heap_alloc_new _ _
          have HR4 := Lib.hid (HR.out.below hb4)
          have HW4 := Lib.hid hw4
          clear hd hb3 hw4 hb4 a0 a1 a2 b0 b1 b2 b3 b4 b5 f0 f1 f2 f3 f4 f5 r0 r1 r2 r3 r4 r5 e0 e1 e2 e3 e4 e5
          obtain ⟨b0, b1, b2, b3, b4, b5⟩ := six_cells HR4.out.r
          obtain ⟨f0, f1, f2, f3, f4, f5⟩ := six_frozen HR4.out.r
          obtain ⟨r0, r1, r2, r3, r4, r5⟩ := six_cells HR4.out.z
          obtain ⟨e0, e1, e2, e3, e4, e5⟩ := six_frozen HR4.out.z
          obtain ⟨c0, c1, c2, c3, c4, c5⟩ := six_cells hg4
          clear hg4
          go_upto_region 8 with fail
          rw [HW4.out]
          cases b
          · have HN : Hid (singR g k = (runG0, false)) := Lib.hid (sing_none hlt (by rw [singG_take, HA.out]; simp only [Option.bind_some]; rw [HDD.out]; rfl))
            go_wp2_with fail
            refine bodyPost_ret (v := .tuple #[.agg #[.slice none 0 0, .int .i64 0, .int .i64 0, .int .i64 0, .int .i64 0, .int .i64 0], .bool false]) (by simp [results, Try.results46, go_sem, r0, r1, r2, r3, r4, r5]) rfl ⟨by rw [HN.out]; rfl, ?_⟩
            have hB3 := HR4.out.b
            (repeat (first | (with_reducible exact Below.refl _ _) | (with_reducible refine Below.drew ?_) | ((with_reducible refine Below.alloc ?_ ?hB _); case hB => (first | (with_reducible exact Nat.le_refl _) | omega | (simp; done) | (simp; omega))) | ((with_reducible refine Below.setCell ?_ ?hB _); case hB => (first | (with_reducible exact Nat.le_refl _) | omega | (simp; done) | (simp; omega)))))
            exact hB3
          · have HN : Hid (allG g 0 runG0 (List.replicate (i + 1) 1) = some (r', cs ++ [r'.cap])) := Lib.hid (by rw [singG_take, HA.out]; simp only [Option.bind_some]; rw [HDD.out]; rfl)
            go_wp2_with fail
            go_roundw
            case rel => exact ⟨i + 1, r', _, by omega, by go_num, HN.out, Lib.hid HR4.out.set⟩
            case measure => simp [intOf]; omega
        · have HN : Hid (singR g k = (r, true)) := Lib.hid (sing_some ⟨hg, k0, k1⟩ (by omega) HA.out)
          clear hi
          go_wp2_with fail
          refine bodyPost_ret (v := .tuple #[.agg #[.slice none 0 0, .int .i64 r.moves, .int .i64 r.cost, .int .i64 r.waste, .int .i64 r.len, .int .i64 r.cap], .bool true]) (by simp [results, Try.results46, go_sem, r0, r1, r2, r3, r4, r5]) rfl ⟨by rw [HN.out], ?_⟩
          have hB3 := HR.out.b
          (repeat (first | (with_reducible exact Below.refl _ _) | (with_reducible refine Below.drew ?_) | ((with_reducible refine Below.alloc ?_ ?hB _); case hB => (first | (with_reducible exact Nat.le_refl _) | omega | (simp; done) | (simp; omega))) | ((with_reducible refine Below.setCell ?_ ?hB _); case hB => (first | (with_reducible exact Nat.le_refl _) | omega | (simp; done) | (simp; omega)))))
          exact hB3
    · rw [decide_eq_false hk] at HI
      have HN : Hid (singR g k = (runG0, false)) := Lib.hid (by unfold singR singG; rw [if_neg (fun h => hk h.2)])
      clear hp hk
      go_enter Try.func46, Try.ntmps46
      go_wp2_with fail
      rw [HW.out]
      refine HU.out.mono ?_
      rintro e w1 ⟨rfl, hb1⟩
      have HS1 := Lib.hid (HS.out.below hb1)
      clear hb1 a0 a1 a2
      obtain ⟨b0, b1, b2, b3, b4, b5⟩ := six_cells HS1.out.r
      obtain ⟨r0, r1, r2, r3, r4, r5⟩ := six_cells HS1.out.z
      obtain ⟨e0, e1, e2, e3, e4, e5⟩ := six_frozen HS1.out.z
      go_wp2_with fail
      refine (HI.out _).mono ?_
      rintro e w2 ⟨rfl, rfl⟩
      go_wp2_with fail
      refine bodyPost_ret (v := .tuple #[.agg #[.slice none 0 0, .int .i64 0, .int .i64 0, .int .i64 0, .int .i64 0, .int .i64 0], .bool false]) (by simp [results, Try.results46, go_sem, r0, r1, r2, r3, r4, r5, runG0]) rfl ⟨by rw [HN.out]; rfl, ?_⟩
      have hB3 := HS1.out.b
      (repeat (first | (with_reducible exact Below.refl _ _) | (with_reducible refine Below.drew ?_) | ((with_reducible refine Below.alloc ?_ ?hB _); case hB => (first | (with_reducible exact Nat.le_refl _) | omega | (simp; done) | (simp; omega))) | ((with_reducible refine Below.setCell ?_ ?hB _); case hB => (first | (with_reducible exact Nat.le_refl _) | omega | (simp; done) | (simp; omega)))))
      exact hB3
  · rw [decide_eq_false hg] at HU
    have HN : Hid (singR g k = (runG0, false)) := Lib.hid (by unfold singR singG; rw [if_neg (fun h => hg h.1)])
    clear hp hg
    go_enter Try.func46, Try.ntmps46
    go_wp2_with fail
    rw [HW.out]
    refine HU.out.mono ?_
    rintro e w1 ⟨rfl, hb1⟩
    have HS1 := Lib.hid (HS.out.below hb1)
    clear hb1 a0 a1 a2
    obtain ⟨b0, b1, b2, b3, b4, b5⟩ := six_cells HS1.out.r
    obtain ⟨r0, r1, r2, r3, r4, r5⟩ := six_cells HS1.out.z
    obtain ⟨e0, e1, e2, e3, e4, e5⟩ := six_frozen HS1.out.z
    go_wp2_with fail
    refine bodyPost_ret (v := .tuple #[.agg #[.slice none 0 0, .int .i64 0, .int .i64 0, .int .i64 0, .int .i64 0, .int .i64 0], .bool false]) (by simp [results, Try.results46, go_sem, r0, r1, r2, r3, r4, r5, runG0]) rfl ⟨by rw [HN.out]; rfl, ?_⟩
    have hB3 := HS1.out.b
    (repeat (first | (with_reducible exact Below.refl _ _) | (with_reducible refine Below.drew ?_) | ((with_reducible refine Below.alloc ?_ ?hB _); case hB => (first | (with_reducible exact Nat.le_refl _) | omega | (simp; done) | (simp; omega))) | ((with_reducible refine Below.setCell ?_ ?hB _); case hB => (first | (with_reducible exact Nat.le_refl _) | omega | (simp; done) | (simp; omega)))))
    exact hB3
end Go.Proofs.Ytiimbojcnmbebab
