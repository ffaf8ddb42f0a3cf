/-
  Growth of the program: an append, NextCap.
-/
import Derived.Test.YtiimbojcnmbebabGrI
import Derived.StillTailTactics
import Derived.Deep.DeepCutAuto
namespace Go.Proofs.Ytiimbojcnmbebab
open Go.RowKit

/-- What a change answers. -/
def stepR (g : GR) (s : Int) (r : RunG) (n : Int) : RunG × Bool := match doG g s r n with
  | some r' => (r', true)
  | none => (runG0, false)
theorem stepR_none {g : GR} {s : Int} {r : RunG} {n : Int} (h : doG g s r n = none) : stepR g s r n = (runG0, false) := by unfold stepR; rw [h]
theorem stepR_some {g : GR} {s : Int} {r r' : RunG} {n : Int} (h : doG g s r n = some r') : stepR g s r n = (r', true) := by unfold stepR; rw [h]
theorem store_frozen {w : World} {g : Nat} {u0 u1 u2 u3 : Value} {t : TypeId} (h : w.heap[g]? = some (.cells #[u0, u1, u2, u3] t)) :
    w.frozen? ⟨g, 0, none⟩ = false ∧ w.frozen? ⟨g, 1, none⟩ = false ∧ w.frozen? ⟨g, 2, none⟩ = false ∧ w.frozen? ⟨g, 3, none⟩ = false := by simp [World.frozen?, h]
theorem four_other {wx : World} {q j : Nat} {v0 v1 v2 v3 : Value} (hj : j ≠ q) : ((((wx.setCell ⟨q, 0, none⟩ v0).setCell ⟨q, 1, none⟩ v1).setCell ⟨q, 2, none⟩ v2).setCell ⟨q, 3, none⟩ v3).heap[j]? = wx.heap[j]? := by
  rw [Below.heap_setCell _ _ _ _ hj, Below.heap_setCell _ _ _ _ hj, Below.heap_setCell _ _ _ _ hj, Below.heap_setCell _ _ _ _ hj]
theorem four_below {b0 : Nat} {w wx : World} {q : Nat} {v0 v1 v2 v3 : Value} (h : Below b0 w wx) (hq : b0 ≤ q) : Below b0 w ((((wx.setCell ⟨q, 0, none⟩ v0).setCell ⟨q, 1, none⟩ v1).setCell ⟨q, 2, none⟩ v2).setCell ⟨q, 3, none⟩ v3) := by
  refine Below.setCell (Below.setCell (Below.setCell (Below.setCell h ?_ _) ?_ _) ?_ _) ?_ _ <;> exact hq
set_option maxRecDepth 20000 in
set_option maxHeartbeats 1600000 in
theorem implAppend_calls (g : GR) (hg : g.OK) (r : RunG) (kk : Int) (hr : RunOK r kk) (hk : kk ≤ 3000) (n : Int) (hn : (Lit.int .i64 n).wf = true) (w : World) :
    Calls Try.prog 48 #[.agg #[.int .i64 g.num, .int .i64 g.den, .int .i64 g.add], .agg #[.int .i64 r.len, .int .i64 r.cap, .int .i64 r.moves, .int .i64 r.cost], .int .i64 n] w
      fun e w' => e = .returned (.tuple #[.agg #[.int .i64 (stepR g 0 r n).1.len, .int .i64 (stepR g 0 r n).1.cap, .int .i64 (stepR g 0 r n).1.moves, .int .i64 (stepR g 0 r n).1.cost], .bool (stepR g 0 r n).2]) ∧ Below w.heap.size w w' := by
  obtain ⟨l0, lc, c1, m0, m1, q0, q1, w0', w1'⟩ := hr
  obtain ⟨n1, n2⟩ : -9223372036854775808 ≤ n ∧ n ≤ 9223372036854775807 := by simpa [Lit.wf, IntKind.min, IntKind.max, IntKind.signed, IntKind.bits] using hn
  obtain ⟨hb, g1, g2, g3, gz⟩ := enter3 w (.cells #[.int .i64 g.num, .int .i64 g.den, .int .i64 g.add] 25) (.cells #[.int .i64 r.len, .int .i64 r.cap, .int .i64 r.moves, .int .i64 r.cost] 75) (.cells #[.int .i64 0, .int .i64 0, .int .i64 0, .int .i64 0] 75)
  obtain ⟨w0, hw0⟩ : ∃ w0, ((w.alloc (.cells #[.int .i64 g.num, .int .i64 g.den, .int .i64 g.add] 25)).alloc (.cells #[.int .i64 r.len, .int .i64 r.cap, .int .i64 r.moves, .int .i64 r.cost] 75)).alloc (.cells #[.int .i64 0, .int .i64 0, .int .i64 0, .int .i64 0] 75) = w0 := ⟨_, rfl⟩
  rw [hw0] at hb g1 g2 g3 gz
  have HB := Lib.hid hb
  have HW := Lib.hid hw0
  have HA := Lib.hid (fun (W : World) (h : Below w0.heap.size w0 W) => three_cells ((h.block _ (Array.getElem?_eq_some_iff.1 g1).1).trans g1))
  obtain ⟨a0, a1, a2⟩ := three_cells g1
  obtain ⟨b0, b1, b2, b3⟩ := four_cells g2
  obtain ⟨f0, f1, f2, f3⟩ := store_frozen g2
  obtain ⟨z0, z1, z2, z3⟩ := four_cells g3
  obtain ⟨e0, e1, e2, e3⟩ := store_frozen g3
  clear hb hw0 hn
  by_cases h0 : 0 ≤ n
  · by_cases h1 : n ≤ 1000000
    · have k1 : IntKind.i64.wrap (r.len + n) = r.len + n := IntWalk.i64_in _ (by omega)
      have k2 : IntKind.i64.wrap (r.cost + n) = r.cost + n := IntWalk.i64_in _ (by omega)
      by_cases hc : r.len + n ≤ r.cap
      · have HN : Hid (stepR g 0 r n = (⟨r.moves, r.cost + n, max r.waste (r.cap - (r.len + n)), r.len + n, r.cap⟩, true)) := Lib.hid (by
          have hx : nextG g r.len r.cap n = r.cap := if_pos hc
          refine stepR_some ?_
          unfold doG
          rw [if_pos h0, if_pos ⟨h1, by omega, by simp only [appG, hx]; exact c1⟩]
          simp [appG, hx])
        clear g1 g2 g3
        go_enter Try.func48, Try.ntmps48
        go_upto_region 4 with fail
        rw [HW.out]
        go_wp2_with fail
        refine bodyPost_ret (v := .tuple #[.agg #[.int .i64 (r.len + n), .int .i64 r.cap, .int .i64 r.moves, .int .i64 (r.cost + n)], .bool true]) (by simp [results, Try.results48, go_sem, z0, z1, z2, z3]) rfl ⟨?_, ?_⟩
        · rw [HN.out]
        · have hB := HB.out
          (repeat (first | (with_reducible exact Below.refl _ _) | (with_reducible refine Below.drew ?_) | ((with_reducible refine Below.alloc ?_ ?hB _); case hB => (first | (with_reducible exact Nat.le_refl _) | omega | (simp; done) | (simp; omega))) | ((with_reducible refine Below.setCell ?_ ?hB _); case hB => (first | (with_reducible exact Nat.le_refl _) | omega | (simp; done) | (simp; omega)))))
          exact hB
      · have hx0 : nextG g r.len r.cap n = max (max ((r.cap * g.num).tdiv g.den + g.add) (r.len + n)) (r.cap + 1) := if_neg hc
        obtain ⟨d1, d2, d3, d4, d5, d6⟩ := hg
        have m3 : 0 ≤ r.cap * g.num := Int.mul_nonneg (by omega) (by omega)
        have m4 : r.cap * g.num ≤ 8000000 := by have : r.cap * g.num ≤ r.cap * 8 := Int.mul_le_mul_of_nonneg_left d4 (by omega); omega
        obtain ⟨t0, t1⟩ := tdiv_le (b := g.den) m3 d1
        have hz3 : ¬ g.den = 0 := by omega
        have k3 : IntKind.i64.wrap (r.cap * g.num) = r.cap * g.num := IntWalk.i64_in _ (by omega)
        have k4 : IntKind.i64.wrap ((r.cap * g.num).tdiv g.den) = (r.cap * g.num).tdiv g.den := IntWalk.i64_in _ (by omega)
        have k5 : IntKind.i64.wrap ((r.cap * g.num).tdiv g.den + g.add) = (r.cap * g.num).tdiv g.den + g.add := IntWalk.i64_in _ (by omega)
        have k6 : IntKind.i64.wrap (r.cap + 1) = r.cap + 1 := IntWalk.i64_in _ (by omega)
        obtain ⟨nx, hnx⟩ : ∃ nx, nextG g r.len r.cap n = nx := ⟨_, rfl⟩
        rw [hnx] at hx0
        have HX0 := Lib.hid hx0
        have HX : Hid (appG g r n = ⟨r.moves + 1, r.cost + r.len + n, max r.waste (nx - (r.len + n)), r.len + n, nx⟩) := Lib.hid (by
          unfold appG
          simp only [hnx]
          rw [if_pos (show r.cap < nx by omega), if_pos (show r.cap < nx by omega)])
        clear hnx
        have hge : r.len + n ≤ nx ∧ r.cap < nx := by omega
        obtain ⟨hge1, hge2⟩ := hge
        clear hx0
        have k7 : IntKind.i64.wrap (r.cost + r.len + n) = r.cost + r.len + n := IntWalk.i64_in _ (by omega)
        have HM : Hid (∀ (nc : Int) (W : World), nc = nx → Calls Try.prog 74 #[.agg #[.int .i64 r.len, .int .i64 r.cap, .int .i64 r.moves, .int .i64 r.cost], .int .i64 nc] W fun e w' => e = .returned (.agg #[.int .i64 r.len, .int .i64 nx, .int .i64 (r.moves + 1), .int .i64 (r.cost + r.len)]) ∧ Below W.heap.size W w') := Lib.hid (fun nc W h => by subst h; exact implMoved_calls r.len r.cap r.moves r.cost _ ⟨m0, by omega⟩ ⟨q0, by omega⟩ ⟨l0, by omega⟩ W)
        go_enter Try.func48, Try.ntmps48
        clear a0 a1 a2 b0 b1 b2 b3 f0 f1 f2 f3 z0 z1 z2 z3 e0 e1 e2 e3
        obtain ⟨a0, a1, a2⟩ := three_cells g1
        obtain ⟨b0, b1, b2, b3⟩ := four_cells g2
        obtain ⟨f0, f1, f2, f3⟩ := store_frozen g2
        have HG : Hid ((fun W : World => W.heap[w.heap.size + 1]? = some (.cells #[.int .i64 r.len, .int .i64 r.cap, .int .i64 r.moves, .int .i64 r.cost] 75) ∧ W.heap[w.heap.size + 1 + 1]? = some (.cells #[.int .i64 0, .int .i64 0, .int .i64 0, .int .i64 0] 75)) w0) := Lib.hid ⟨g2, g3⟩
        have hs1 := (Array.getElem?_eq_some_iff.1 g2).1
        have hs2 := (Array.getElem?_eq_some_iff.1 g3).1
        clear g1 g2 g3
        go_upto_region 5 with fail
        rw [HW.out]
        go_cut [] (fun wx => Below w.heap.size w wx ∧ wx.heap[w.heap.size + 1]? = some (.cells #[.int .i64 r.len, .int .i64 nx, .int .i64 (r.moves + 1), .int .i64 (r.cost + r.len)] 75) ∧ wx.heap[w.heap.size + 1 + 1]? = some (.cells #[.int .i64 0, .int .i64 0, .int .i64 0, .int .i64 0] 75))
        case first =>
          go_still_tail 17, (by kernel_rfl)
          obtain ⟨w2, hw2⟩ : ∃ w2, w0.drew = w2 := ⟨_, rfl⟩
          change wpList _ _ _ _ _ w0.drew
          rw [hw2]
          have hb2 : Below w0.heap.size w0 w2 := by rw [← hw2]; exact (Below.refl _ _).drew
          have HB2 := Lib.hid hb2
          have HG2 : Hid ((fun W : World => W.heap[w.heap.size + 1]? = some (.cells #[.int .i64 r.len, .int .i64 r.cap, .int .i64 r.moves, .int .i64 r.cost] 75) ∧ W.heap[w.heap.size + 1 + 1]? = some (.cells #[.int .i64 0, .int .i64 0, .int .i64 0, .int .i64 0] 75)) w2) := Lib.hid ⟨(hb2.block _ hs1).trans HG.out.1, (hb2.block _ hs2).trans HG.out.2⟩
          have hs3 := hb2.size
          clear a0 a1 a2 b0 b1 b2 b3 f0 f1 f2 f3 hw2 hb2
          go_wp2_with fail
          all_goals
            refine (HM.out _ _ (by have := HX0.out; omega)).mono ?_
            rintro e w3 ⟨rfl, hb3⟩
            have HG3 : Hid ((fun W : World => W.heap[w.heap.size + 1]? = some (.cells #[.int .i64 r.len, .int .i64 r.cap, .int .i64 r.moves, .int .i64 r.cost] 75) ∧ W.heap[w.heap.size + 1 + 1]? = some (.cells #[.int .i64 0, .int .i64 0, .int .i64 0, .int .i64 0] 75)) w3) := Lib.hid ⟨(hb3.block _ (by omega)).trans HG2.out.1, (hb3.block _ (by omega)).trans HG2.out.2⟩
            have HB3 := Lib.hid (HB.out.trans ((HB2.out.trans (hb3.mono HB2.out.size)).mono HB.out.size))
            obtain ⟨f0, f1, f2, f3⟩ := store_frozen HG3.out.1
            obtain ⟨b0, b1, b2, b3⟩ := four_cells HG3.out.1
            clear hb3
            go_wp2_with fail
            go_meet
            exact ⟨four_below HB3.out (by omega), four_set HG3.out.1, by rw [four_other (by omega)]; exact HG3.out.2⟩
        case rest =>
          obtain ⟨hb3, g2, g3⟩ := hcut
          obtain ⟨w3, hw3⟩ : ∃ w3, w3 = wc := ⟨_, rfl⟩
          subst hw3
          have HB3 := Lib.hid hb3
          clear a0 a1 a2 b0 b1 b2 b3 f0 f1 f2 f3
          obtain ⟨b0, b1, b2, b3⟩ := four_cells g2
          obtain ⟨f0, f1, f2, f3⟩ := store_frozen g2
          obtain ⟨z0, z1, z2, z3⟩ := four_cells g3
          obtain ⟨e0, e1, e2, e3⟩ := store_frozen g3
          clear g2 g3 hb3
          by_cases h9 : nx ≤ 1000000
          · have HN : Hid (stepR g 0 r n = (⟨r.moves + 1, r.cost + r.len + n, max r.waste (nx - (r.len + n)), r.len + n, nx⟩, true)) := Lib.hid (by
              refine stepR_some ?_
              unfold doG
              rw [if_pos h0, if_pos ⟨h1, by omega, by rw [HX.out]; exact h9⟩, HX.out])
            go_wp2_with fail
            refine bodyPost_ret (v := .tuple #[.agg #[.int .i64 (r.len + n), .int .i64 nx, .int .i64 (r.moves + 1), .int .i64 (r.cost + r.len + n)], .bool true]) (by simp [results, Try.results48, go_sem, z0, z1, z2, z3]) rfl ⟨?_, ?_⟩
            · rw [HN.out]
            · have hB := HB3.out
              (repeat (first | (with_reducible exact Below.refl _ _) | (with_reducible refine Below.drew ?_) | ((with_reducible refine Below.alloc ?_ ?hB _); case hB => (first | (with_reducible exact Nat.le_refl _) | omega | (simp; done) | (simp; omega))) | ((with_reducible refine Below.setCell ?_ ?hB _); case hB => (first | (with_reducible exact Nat.le_refl _) | omega | (simp; done) | (simp; omega)))))
              exact hB
          · have HN : Hid (stepR g 0 r n = (runG0, false)) := Lib.hid (by
              refine stepR_none ?_
              unfold doG
              rw [if_pos h0, if_neg (fun h => h9 (by have := h.2.2; rw [HX.out] at this; exact this))])
            go_wp2_with fail
            refine bodyPost_ret (v := .tuple #[.agg #[.int .i64 0, .int .i64 0, .int .i64 0, .int .i64 0], .bool false]) (by simp [results, Try.results48, go_sem, z0, z1, z2, z3]) rfl ⟨?_, ?_⟩
            · rw [HN.out]; rfl
            · have hB := HB3.out
              (repeat (first | (with_reducible exact Below.refl _ _) | (with_reducible refine Below.drew ?_) | ((with_reducible refine Below.alloc ?_ ?hB _); case hB => (first | (with_reducible exact Nat.le_refl _) | omega | (simp; done) | (simp; omega))) | ((with_reducible refine Below.setCell ?_ ?hB _); case hB => (first | (with_reducible exact Nat.le_refl _) | omega | (simp; done) | (simp; omega)))))
              exact hB
    · have HN : Hid (stepR g 0 r n = (runG0, false)) := Lib.hid (by
        refine stepR_none ?_
        unfold doG
        rw [if_pos h0, if_neg (fun h => h1 h.1)])
      clear g1 g2 g3
      go_enter Try.func48, Try.ntmps48
      go_upto_region 1 with fail
      rw [HW.out]
      go_wp2_with fail
      refine bodyPost_ret (v := .tuple #[.agg #[.int .i64 0, .int .i64 0, .int .i64 0, .int .i64 0], .bool false]) (by simp [results, Try.results48, go_sem, z0, z1, z2, z3]) rfl ⟨?_, ?_⟩
      · rw [HN.out]; rfl
      · have hB := HB.out
        (repeat (first | (with_reducible exact Below.refl _ _) | (with_reducible refine Below.drew ?_) | ((with_reducible refine Below.alloc ?_ ?hB _); case hB => (first | (with_reducible exact Nat.le_refl _) | omega | (simp; done) | (simp; omega))) | ((with_reducible refine Below.setCell ?_ ?hB _); case hB => (first | (with_reducible exact Nat.le_refl _) | omega | (simp; done) | (simp; omega)))))
        exact hB
  · have HN : Hid (stepR g 0 r n = (runG0, false)) := Lib.hid (by
      refine stepR_none ?_
      unfold doG
      rw [if_neg h0, if_pos (.inl rfl)])
    clear g1 g2 g3
    go_enter Try.func48, Try.ntmps48
    go_upto_region 1 with fail
    rw [HW.out]
    go_wp2_with fail
    refine bodyPost_ret (v := .tuple #[.agg #[.int .i64 0, .int .i64 0, .int .i64 0, .int .i64 0], .bool false]) (by simp [results, Try.results48, go_sem, z0, z1, z2, z3]) rfl ⟨?_, ?_⟩
    · rw [HN.out]; rfl
    · have hB := HB.out
      (repeat (first | (with_reducible exact Below.refl _ _) | (with_reducible refine Below.drew ?_) | ((with_reducible refine Below.alloc ?_ ?hB _); case hB => (first | (with_reducible exact Nat.le_refl _) | omega | (simp; done) | (simp; omega))) | ((with_reducible refine Below.setCell ?_ ?hB _); case hB => (first | (with_reducible exact Nat.le_refl _) | omega | (simp; done) | (simp; omega)))))
      exact hB
end Go.Proofs.Ytiimbojcnmbebab
