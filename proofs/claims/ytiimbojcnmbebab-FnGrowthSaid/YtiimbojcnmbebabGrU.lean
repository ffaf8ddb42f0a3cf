/-
  Growth of the program: the stores behind each change.
-/
import Derived.Test.YtiimbojcnmbebabGrT
import Derived.Test.YtiimbojcnmbebabGrI2
import Derived.Test.YtiimbojcnmbebabRow
import Derived.Laws.OwnMore
namespace Go.Proofs.Ytiimbojcnmbebab
open Go.RowKit

theorem heap_new_at {w : World} {o : Obj} {g : Nat} (h : g = w.heap.size) : (w.alloc o).heap[g]? = some o := by rw [h]; exact heap_alloc_new _ _
theorem info_store : (Try.prog.info? 75).map (fun i => (i.zero, i.size, i.bytes)) = some (some (.agg #[.int .i64 0, .int .i64 0, .int .i64 0, .int .i64 0]), 4, 32) := by kernel_rfl
/-- Stores' cells, one store behind the other. -/
def StoresIn (cur : Array Value) (L : List RunG) : Prop := ∀ j (h : j < L.length), cur[j * 4]? = some (.int .i64 L[j].len) ∧ cur[j * 4 + 1]? = some (.int .i64 L[j].cap) ∧ cur[j * 4 + 2]? = some (.int .i64 L[j].moves) ∧ cur[j * 4 + 3]? = some (.int .i64 L[j].cost)
/-- A block holds some stores. -/
def RdS (w : World) (gs : Nat) (L : List RunG) : Prop := ∃ cur : Array Value, w.heap[gs]? = some (.cells cur 75) ∧ StoresIn cur L
theorem RdS.below {w w' : World} {gs : Nat} {L : List RunG} (h : RdS w gs L) (hb : Below w.heap.size w w') : RdS w' gs L := by
  obtain ⟨cur, h1, h2⟩ := h
  exact ⟨cur, (hb.block _ (Array.getElem?_eq_some_iff.1 h1).1).trans h1, h2⟩
theorem RdS.lt {w : World} {gs : Nat} {L : List RunG} (h : RdS w gs L) : gs < w.heap.size := by
  obtain ⟨cur, h1, h2⟩ := h
  exact (Array.getElem?_eq_some_iff.1 h1).1
theorem RdS.at_ {w : World} {gs : Nat} {L : List RunG} (h : RdS w gs L) {j : Nat} (hj : j < L.length) :
    w.cell? ⟨gs, j * 4, none⟩ = some (.int .i64 L[j].len) ∧ w.cell? ⟨gs, j * 4 + 1, none⟩ = some (.int .i64 L[j].cap) ∧ w.cell? ⟨gs, j * 4 + 2, none⟩ = some (.int .i64 L[j].moves) ∧ w.cell? ⟨gs, j * 4 + 3, none⟩ = some (.int .i64 L[j].cost) := by
  obtain ⟨cur, h1, h2⟩ := h
  obtain ⟨a, b, c, d⟩ := h2 j hj
  simp [World.cell?, h1, a, b, c, d]
/-- What make gives. -/
theorem make_stores (n : Nat) (hn : n ≤ 2000) : ∃ mk : World → World, ∀ W, (Instr.makeSlice 66 (.int .i64 n) (.int .i64 n)).run Try.prog W = .ok (.slice (some ⟨W.heap.size, 0, none⟩) n n) (mk W) ∧ (∃ cur : Array Value, (mk W).heap[W.heap.size]? = some (.cells cur 75) ∧ cur.size = n * 4) ∧ Below W.heap.size W (mk W) := by
  obtain ⟨i1, hi1, hy0, hy1, hy2⟩ := info_parts info_store
  suffices h : ∀ W, ∃ w4 : World, (Instr.makeSlice 66 (.int .i64 n) (.int .i64 n)).run Try.prog W = .ok (.slice (some ⟨W.heap.size, 0, none⟩) n n) w4 ∧ (∃ cur : Array Value, w4.heap[W.heap.size]? = some (.cells cur 75) ∧ cur.size = n * 4) ∧ Below W.heap.size W w4 by
    exact ⟨fun W => Classical.choose (h W), fun W => Classical.choose_spec (h W)⟩
  intro W
  obtain ⟨w4, hrun, hown, hg⟩ := run_make_full (P := Try.prog) W W.heap.size 66 75 i1 _ 4 Try.underlying66 hi1 hy0 hy1 .i64 .i64 n (by rw [hy2]; omega) (by simp only [maxLen]; omega) (Nat.le_refl _)
  refine ⟨w4, hrun, ?_, (Below.refl _ _).grown hg (Nat.le_refl _) (by simp)⟩
  rcases hown.2 with ⟨h', _⟩ | ⟨g', cap', cur, h', hb, hg, hnc, hcm, hcs, htake⟩
  · simp at h'
  · simp only [Value.slice.injEq, Option.some.injEq, Addr.mk.injEq, and_true, true_and] at h'
    obtain ⟨rfl, rfl⟩ := h'
    exact ⟨cur, hg, hcs⟩
theorem store_at {cur : Array Value} {n : Nat} {L : List RunG} (hs : cur.size = n * 4) (hL : StoresIn cur L) (hn : L.length < n) (r : RunG) :
    ((((cur.setIfInBounds (L.length * 4) (.int .i64 r.len)).setIfInBounds (L.length * 4 + 1) (.int .i64 r.cap)).setIfInBounds (L.length * 4 + 2) (.int .i64 r.moves)).setIfInBounds (L.length * 4 + 3) (.int .i64 r.cost)).size = n * 4 ∧
    StoresIn ((((cur.setIfInBounds (L.length * 4) (.int .i64 r.len)).setIfInBounds (L.length * 4 + 1) (.int .i64 r.cap)).setIfInBounds (L.length * 4 + 2) (.int .i64 r.moves)).setIfInBounds (L.length * 4 + 3) (.int .i64 r.cost)) (L ++ [r]) := by
  refine ⟨by simpa using hs, ?_⟩
  intro j hj
  rw [List.length_append, List.length_singleton] at hj
  rcases Nat.lt_or_ge j L.length with h | h
  · obtain ⟨a, b, c, d⟩ := hL j h
    have hget : (L ++ [r])[j] = L[j] := List.getElem_append_left h
    rw [hget]
    refine ⟨?_, ?_, ?_, ?_⟩ <;> (repeat rw [Array.getElem?_setIfInBounds_ne (by omega)]) <;> assumption
  · obtain rfl : j = L.length := by omega
    have hget : (L ++ [r])[L.length]'(by simp) = r := by simp
    rw [hget]
    refine ⟨?_, ?_, ?_, ?_⟩
    · rw [Array.getElem?_setIfInBounds_ne (by omega), Array.getElem?_setIfInBounds_ne (by omega), Array.getElem?_setIfInBounds_ne (by omega), Array.getElem?_setIfInBounds_self_of_lt (by omega)]
    · rw [Array.getElem?_setIfInBounds_ne (by omega), Array.getElem?_setIfInBounds_ne (by omega), Array.getElem?_setIfInBounds_self_of_lt (by simp; omega)]
    · rw [Array.getElem?_setIfInBounds_ne (by omega), Array.getElem?_setIfInBounds_self_of_lt (by simp; omega)]
    · rw [Array.getElem?_setIfInBounds_self_of_lt (by simp; omega)]
/-- The four stores of a store at an element. -/
theorem heap_store {wx : World} {q o : Nat} {cur : Array Value} {v0 v1 v2 v3 : Value} {t : TypeId} (h : wx.heap[q]? = some (.cells cur t)) :
    ((((wx.setCell ⟨q, o, none⟩ v0).setCell ⟨q, o + 1, none⟩ v1).setCell ⟨q, o + 2, none⟩ v2).setCell ⟨q, o + 3, none⟩ v3).heap[q]? = some (.cells ((((cur.setIfInBounds o v0).setIfInBounds (o + 1) v1).setIfInBounds (o + 2) v2).setIfInBounds (o + 3) v3) t) :=
  heap_setCell_same _ _ _ _ _ _ (heap_setCell_same _ _ _ _ _ _ (heap_setCell_same _ _ _ _ _ _ (heap_setCell_same _ _ _ _ _ _ h)))
theorem heap_store_other {wx : World} {q o j : Nat} {v0 v1 v2 v3 : Value} (hj : j ≠ q) : ((((wx.setCell ⟨q, o, none⟩ v0).setCell ⟨q, o + 1, none⟩ v1).setCell ⟨q, o + 2, none⟩ v2).setCell ⟨q, o + 3, none⟩ v3).heap[j]? = wx.heap[j]? := by
  rw [Below.heap_setCell _ _ _ _ hj, Below.heap_setCell _ _ _ _ hj, Below.heap_setCell _ _ _ _ hj, Below.heap_setCell _ _ _ _ hj]
theorem heap_store_below {b0 : Nat} {w wx : World} {q o : Nat} {v0 v1 v2 v3 : Value} (h : Below b0 w wx) (hq : b0 ≤ q) : Below b0 w ((((wx.setCell ⟨q, o, none⟩ v0).setCell ⟨q, o + 1, none⟩ v1).setCell ⟨q, o + 2, none⟩ v2).setCell ⟨q, o + 3, none⟩ v3) := by
  refine Below.setCell (Below.setCell (Below.setCell (Below.setCell h ?_ _) ?_ _) ?_ _) ?_ _ <;> exact hq
/-- The state of the loop: the rule, the last store, the stores. -/
structure SB (w wr : World) (g : GR) (q gs n : Nat) (L : List RunG) : Prop where
  b : Below w.heap.size w wr
  g : wr.heap[w.heap.size]? = some (.cells #[.int .i64 g.num, .int .i64 g.den, .int .i64 g.add] 25)
  l : wr.heap[q]? = some (.cells #[.int .i64 (L.getLastD runG0).len, .int .i64 (L.getLastD runG0).cap, .int .i64 (L.getLastD runG0).moves, .int .i64 (L.getLastD runG0).cost] 75)
  s : ∃ cur : Array Value, wr.heap[gs]? = some (.cells cur 75) ∧ cur.size = n * 4 ∧ StoresIn cur L
theorem SB.below {w wr wx : World} {g : GR} {q gs n : Nat} {L : List RunG} (h : SB w wr g q gs n L) (hb : Below wr.heap.size wr wx) : SB w wx g q gs n L := by
  obtain ⟨cur, h1, h2⟩ := h.s
  exact ⟨h.b.trans (hb.mono h.b.size), (hb.block _ (Array.getElem?_eq_some_iff.1 h.g).1).trans h.g, (hb.block _ (Array.getElem?_eq_some_iff.1 h.l).1).trans h.l, ⟨cur, (hb.block _ (Array.getElem?_eq_some_iff.1 h1).1).trans h1, h2⟩⟩
theorem SB.next {w wr : World} {g : GR} {q gs n : Nat} {L : List RunG} (h : SB w wr g q gs n L) (r : RunG) (h1 : w.heap.size < gs) (h2 : gs < q) (hn : L.length < n) :
    SB w (((((((wr.setCell ⟨q, 0, none⟩ (.int .i64 r.len)).setCell ⟨q, 1, none⟩ (.int .i64 r.cap)).setCell ⟨q, 2, none⟩ (.int .i64 r.moves)).setCell ⟨q, 3, none⟩ (.int .i64 r.cost)).setCell ⟨gs, L.length * 4, none⟩ (.int .i64 r.len)).setCell ⟨gs, L.length * 4 + 1, none⟩ (.int .i64 r.cap)).setCell ⟨gs, L.length * 4 + 2, none⟩ (.int .i64 r.moves) |>.setCell ⟨gs, L.length * 4 + 3, none⟩ (.int .i64 r.cost)) g q gs n (L ++ [r]) := by
  obtain ⟨cur, h3, h4, h5⟩ := h.s
  have hl : (L ++ [r]).getLastD runG0 = r := by simp
  refine ⟨heap_store_below (four_below h.b (by omega)) (by omega), ?_, ?_, ⟨_, heap_store (by rw [four_other (by omega)]; exact h3), store_at h4 h5 hn r⟩⟩
  · rw [heap_store_other (by omega), four_other (by omega)]; exact h.g
  · rw [heap_store_other (by omega), hl]; exact four_set h.l
theorem SB.frozen {w wr : World} {g : GR} {q gs n : Nat} {L : List RunG} (h : SB w wr g q gs n L) (o : Nat) : wr.frozen? ⟨gs, o, none⟩ = false := by
  obtain ⟨cur, h3, _⟩ := h.s
  simp [World.frozen?, h3]
theorem SB.some {w wr : World} {g : GR} {q gs n : Nat} {L : List RunG} (h : SB w wr g q gs n L) (o : Nat) (ho : o < n * 4) : ∃ v, wr.cell? ⟨gs, o, none⟩ = some v := by
  obtain ⟨cur, h3, h4, _⟩ := h.s
  exact ⟨cur[o]'(by omega), by simp [World.cell?, h3]⟩
theorem storesR_some {g : GR} {s : Int} {xs : List Int} {L : List RunG} (hg : g.OK) (h : runsG g s runG0 xs = some L) : storesR g s xs = (L, true) := by unfold storesR; rw [h]; exact if_pos hg
theorem storesR_none {g : GR} {s : Int} {xs : List Int} (h : runsG g s runG0 xs = none) : storesR g s xs = ([], false) := by unfold storesR; rw [h]
theorem storesR_bad {g : GR} {s : Int} {xs : List Int} (h : ¬ g.OK) : storesR g s xs = ([], false) := by
  unfold storesR
  cases runsG g s runG0 xs with
  | none => rfl
  | some L => exact if_neg h
set_option maxRecDepth 20000 in
set_option maxHeartbeats 1600000 in
theorem implStores_calls (g : GR) (hga : GArg g) (C : Option Addr) (cn : Nat) (xs : List Int) (w : World) (hx : Rd w w.heap.size C (intV .i64 xs)) (hn : xs.length ≤ 2000) (hwf : ∀ x ∈ xs, (Lit.int .i64 x).wf = true)
    (hway : g.OK → ∀ (r : RunG) (kk : Int) (n : Int) (W : World), Below w.heap.size w W → RunOK r kk → kk ≤ 3000 → (Lit.int .i64 n).wf = true → Calls Try.prog 48 #[.agg #[.int .i64 g.num, .int .i64 g.den, .int .i64 g.add], .agg #[.int .i64 r.len, .int .i64 r.cap, .int .i64 r.moves, .int .i64 r.cost], .int .i64 n] W fun e w' => e = .returned (.tuple #[.agg #[.int .i64 (stepR g 0 r n).1.len, .int .i64 (stepR g 0 r n).1.cap, .int .i64 (stepR g 0 r n).1.moves, .int .i64 (stepR g 0 r n).1.cost], .bool (stepR g 0 r n).2]) ∧ Below W.heap.size W w') :
    Calls Try.prog 69 #[.agg #[.int .i64 g.num, .int .i64 g.den, .int .i64 g.add], .func (.func 48) #[] #[], .slice C xs.length cn] w
      fun e w' => ∃ gs c, e = .returned (.tuple #[.slice (some ⟨gs, 0, none⟩) (storesR g 0 xs).1.length c, .bool (storesR g 0 xs).2]) ∧ RdS w' gs (storesR g 0 xs).1 ∧ w.heap.size ≤ gs ∧ Below w.heap.size w w' := by
  obtain ⟨w0, hw0, hb0, hg0⟩ := enterG g w
  obtain ⟨a0, a1, a2⟩ := three_cells hg0
  have HU := Lib.hid (implIsGrowRule_calls g w0 hga)
  have HW := Lib.hid hw0
  have HB := Lib.hid hb0
  have HX := Lib.hid hx
  have HWF := Lib.hid hwf
  have HWAY := Lib.hid hway
  have HG0 := Lib.hid hg0
  have hs0 : w.heap.size < w0.heap.size := (Array.getElem?_eq_some_iff.1 hg0).1
  clear hw0 hb0 hg0 hx hwf hway
  by_cases hg : g.OK
  · rw [decide_eq_true hg] at HU
    obtain ⟨mk, hmk⟩ := make_stores xs.length hn
    have hrun := fun W => (hmk W).1
    go_enter Try.func69, Try.ntmps69
    go_wp2_with fail
    rw [HW.out]
    refine HU.out.mono ?_
    rintro e w1 ⟨rfl, hb1⟩
    have hs1 := hb1.size
    obtain ⟨q, hq⟩ : ∃ q, q = (mk w1).heap.size := ⟨_, rfl⟩
    have hs2 : w1.heap.size < q := by
      obtain ⟨cur, h1, _⟩ := (hmk w1).2.1
      rw [hq]; exact (Array.getElem?_eq_some_iff.1 h1).1
    obtain ⟨w2, hw2⟩ : ∃ w2, (mk w1).alloc (.cells #[.int .i64 0, .int .i64 0, .int .i64 0, .int .i64 0] 75) = w2 := ⟨_, rfl⟩
    have HS : Hid (SB w w2 g q w1.heap.size xs.length []) := Lib.hid (by
      have hb2 : Below w1.heap.size w1 w2 := by rw [← hw2]; exact (hmk w1).2.2.alloc (hmk w1).2.2.size _
      have hb12 : Below w0.heap.size w0 w2 := hb1.trans (hb2.mono hs1)
      obtain ⟨cur, h1, h2⟩ := (hmk w1).2.1
      refine ⟨HB.out.trans (hb12.mono HB.out.size), (hb12.block _ hs0).trans HG0.out, ?_, ⟨cur, ?_, h2, fun j hj => absurd hj (Nat.not_lt_zero _)⟩⟩
      · rw [← hw2, hq]; exact heap_alloc_new _ _
      · rw [← hw2]; exact alloc_old _ h1)
    have HW2 := Lib.hid hw2
    have HQ := Lib.hid hq
    clear a0 a1 a2 hb1 hw2
    go_upto_region 5 with fail
    rw [HW2.out, ← HQ.out]
    clear hrun hmk hq
    go_wp2_with fail
    go_loopw [23] (fun sl wr => ∃ (i : Nat) (L : List RunG), i ≤ xs.length ∧ sl = .int .i64 i ∧ runsG g 0 runG0 (xs.take i) = some L ∧ Hid (SB w wr g q w1.heap.size xs.length L)) (fun sl _ => xs.length - (intOf sl).toNat)
    case atStart => exact ⟨0, [], Nat.zero_le _, rfl, rfl, HS⟩
    case round =>
      obtain ⟨i, L, hi, rfl, hL, HR⟩ := hrel
      have HL := Lib.hid hL
      have hlen : L.length = i := by have := runsG_len hL; simp at this; omega
      have hok := (runsG_ok hg (Int.le_refl 0) runG0_ok hL).1
      rw [List.length_take, Nat.min_eq_left hi] at hok
      obtain ⟨r, hr⟩ : ∃ r, L.getLastD runG0 = r := ⟨_, rfl⟩
      have hcl := HR.out.l
      rw [hr] at hok hcl
      obtain ⟨a0, a1, a2⟩ := three_cells HR.out.g
      obtain ⟨b0, b1, b2, b3⟩ := four_cells hcl
      obtain ⟨f0, f1, f2, f3⟩ := store_frozen hcl
      have HRR := Lib.hid hr
      clear hL hcl hr
      by_cases hlt : i < xs.length
      · obtain ⟨bx, ox, rfl, hbx, hcx⟩ := (HX.out.below HR.out.b).int hlt
        have hxw := HWF.out _ (List.getElem_mem hlt)
        have HD := Lib.hid (HWAY.out hg r _ xs[i] wr HR.out.b hok (by omega) hxw)
        have HT := Lib.hid (runsG_take (g := g) (s := 0) hlt runG0)
        rw [HL.out] at HT
        simp only [Option.bind_some] at HT
        rw [HRR.out] at HT
        have HNS : Hid (doG g 0 r xs[i] = none → stepR g 0 r xs[i] = (runG0, false)) := Lib.hid stepR_none
        have HSS : Hid (∀ r', doG g 0 r xs[i] = some r' → stepR g 0 r xs[i] = (r', true)) := Lib.hid (fun _ => stepR_some)
        obtain ⟨x, hxx⟩ : ∃ x, xs[i] = x := ⟨_, rfl⟩
        rw [hxx] at hcx HD HT HNS HSS
        clear hok hxw hxx
        cases hd : doG g 0 r x with
        | none =>
          have HN : Hid (storesR g 0 xs = ([], false)) := Lib.hid (storesR_none (runsG_stop (i := i + 1) _ (by rw [HT.out, hd]; rfl)))
          rw [HNS.out hd] at HD
          clear hd
          go_wp2_with fail
          refine HD.out.mono ?_
          rintro e w3 ⟨rfl, hb3⟩
          have HR3 := Lib.hid (HR.out.below hb3)
          have hcl := HR3.out.l
          rw [HRR.out] at hcl
          clear b0 b1 b2 b3 f0 f1 f2 f3 a0 a1 a2
          obtain ⟨b0, b1, b2, b3⟩ := four_cells hcl
          obtain ⟨f0, f1, f2, f3⟩ := store_frozen hcl
          clear hb3 hcl
          go_wp2_with fail
          go_ret2
          exact ⟨_, _, by rw [HN.out]; rfl, by rw [HN.out]; exact ⟨#[], heap_new_at (by first | (simp; done) | rfl), fun j hj => absurd hj (Nat.not_lt_zero _)⟩, by have := HR3.out.b.size; first | omega | (simp; omega), by have hB := HR3.out.b; have hs := hB.size; (repeat (first | (with_reducible exact Below.refl _ _) | (with_reducible refine Below.drew ?_) | ((with_reducible refine Below.alloc ?_ ?hB _); case hB => (first | (with_reducible exact Nat.le_refl _) | omega | (simp; done) | (simp; omega))) | ((with_reducible refine Below.setCell ?_ ?hB _); case hB => (first | (with_reducible exact Nat.le_refl _) | omega | (simp; done) | (simp; omega))))); exact hB⟩
        | some r' =>
          have HN : Hid (runsG g 0 runG0 (xs.take (i + 1)) = some (L ++ [r'])) := Lib.hid (by rw [HT.out, hd]; rfl)
          rw [HSS.out r' hd] at HD
          clear hd
          go_wp2_with fail
          refine HD.out.mono ?_
          rintro e w3 ⟨rfl, hb3⟩
          have HR3 := Lib.hid (HR.out.below hb3)
          have hcl := HR3.out.l
          rw [HRR.out] at hcl
          clear b0 b1 b2 b3 f0 f1 f2 f3 a0 a1 a2
          obtain ⟨b0, b1, b2, b3⟩ := four_cells hcl
          obtain ⟨f0, f1, f2, f3⟩ := store_frozen hcl
          have g0 := HR3.out.frozen (i * 4)
          have g1 := HR3.out.frozen (i * 4 + 1)
          have g2 := HR3.out.frozen (i * 4 + 2)
          have g3 := HR3.out.frozen (i * 4 + 3)
          obtain ⟨u0, h0⟩ := HR3.out.some (i * 4) (by omega)
          obtain ⟨u1, h1⟩ := HR3.out.some (i * 4 + 1) (by omega)
          obtain ⟨u2, h2⟩ := HR3.out.some (i * 4 + 2) (by omega)
          obtain ⟨u3, h3⟩ := HR3.out.some (i * 4 + 3) (by omega)
          clear hb3 hcl
          go_wp2_with fail
          go_roundw
          case rel => exact ⟨i + 1, L ++ [r'], by omega, by go_num, HN.out, Lib.hid (by have h := HR3.out.next r' (by omega) hs2 (by omega); rw [hlen] at h; exact h)⟩
          case measure => simp [intOf]; omega
      · obtain rfl : i = xs.length := by omega
        have hLL := HL.out
        rw [List.take_length] at hLL
        have HN : Hid (storesR g 0 xs = (L, true)) := Lib.hid (storesR_some hg hLL)
        clear hLL hok
        go_wp2_with fail
        go_ret2
        exact ⟨_, _, by rw [HN.out, hlen]; rfl, by rw [HN.out]; obtain ⟨cur, h1, h2, h3⟩ := HR.out.s; exact ⟨cur, h1, h3⟩, by omega, HR.out.b⟩
  · rw [decide_eq_false hg] at HU
    have HN : Hid (storesR g 0 xs = ([], false)) := Lib.hid (storesR_bad hg)
    go_enter Try.func69, Try.ntmps69
    go_wp2_with fail
    rw [HW.out]
    refine HU.out.mono ?_
    rintro e w1 ⟨rfl, hb1⟩
    have HB1 := Lib.hid (HB.out.trans (hb1.mono HB.out.size))
    clear hb1 a0 a1 a2
    go_wp2_with fail
    go_ret2
    exact ⟨_, _, by rw [HN.out]; rfl, by rw [HN.out]; exact ⟨#[], heap_new_at (by first | (simp; done) | rfl), fun j hj => absurd hj (Nat.not_lt_zero _)⟩, by have := HB1.out.size; first | omega | (simp; omega), by have hB := HB1.out; have hs := hB.size; (repeat (first | (with_reducible exact Below.refl _ _) | (with_reducible refine Below.drew ?_) | ((with_reducible refine Below.alloc ?_ ?hB _); case hB => (first | (with_reducible exact Nat.le_refl _) | omega | (simp; done) | (simp; omega))) | ((with_reducible refine Below.setCell ?_ ?hB _); case hB => (first | (with_reducible exact Nat.le_refl _) | omega | (simp; done) | (simp; omega))))); exact hB⟩
set_option maxRecDepth 20000 in
set_option maxHeartbeats 1600000 in
theorem implStoresS_calls (g : GR) (hga : GArg g) (s : Int) (hs0s : 0 ≤ s) (c0 : Nat) (C : Option Addr) (cn : Nat) (xs : List Int) (w : World) (hx : Rd w w.heap.size C (intV .i64 xs)) (hn : xs.length ≤ 2000) (hwf : ∀ x ∈ xs, (Lit.int .i64 x).wf = true)
    (hway : g.OK → ∀ (r : RunG) (kk : Int) (n : Int) (W : World), Below w.heap.size w W → RunOK r kk → kk ≤ 3000 → (Lit.int .i64 n).wf = true → Calls Try.prog 88 #[.agg #[.int .i64 g.num, .int .i64 g.den, .int .i64 g.add], .agg #[.int .i64 r.len, .int .i64 r.cap, .int .i64 r.moves, .int .i64 r.cost], .int .i64 n, .pointer (some ⟨c0, 0, none⟩)] W fun e w' => e = .returned (.tuple #[.agg #[.int .i64 (stepR g s r n).1.len, .int .i64 (stepR g s r n).1.cap, .int .i64 (stepR g s r n).1.moves, .int .i64 (stepR g s r n).1.cost], .bool (stepR g s r n).2]) ∧ Below W.heap.size W w') :
    Calls Try.prog 69 #[.agg #[.int .i64 g.num, .int .i64 g.den, .int .i64 g.add], .func (.func 88) #[] #[.pointer (some ⟨c0, 0, none⟩)], .slice C xs.length cn] w
      fun e w' => ∃ gs c, e = .returned (.tuple #[.slice (some ⟨gs, 0, none⟩) (storesR g s xs).1.length c, .bool (storesR g s xs).2]) ∧ RdS w' gs (storesR g s xs).1 ∧ w.heap.size ≤ gs ∧ Below w.heap.size w w' := by
  obtain ⟨w0, hw0, hb0, hg0⟩ := enterG g w
  obtain ⟨a0, a1, a2⟩ := three_cells hg0
  have HU := Lib.hid (implIsGrowRule_calls g w0 hga)
  have HW := Lib.hid hw0
  have HB := Lib.hid hb0
  have HX := Lib.hid hx
  have HWF := Lib.hid hwf
  have HWAY := Lib.hid hway
  have HG0 := Lib.hid hg0
  have hs0 : w.heap.size < w0.heap.size := (Array.getElem?_eq_some_iff.1 hg0).1
  clear hw0 hb0 hg0 hx hwf hway
  by_cases hg : g.OK
  · rw [decide_eq_true hg] at HU
    obtain ⟨mk, hmk⟩ := make_stores xs.length hn
    have hrun := fun W => (hmk W).1
    go_enter Try.func69, Try.ntmps69
    go_wp2_with fail
    rw [HW.out]
    refine HU.out.mono ?_
    rintro e w1 ⟨rfl, hb1⟩
    have hs1 := hb1.size
    obtain ⟨q, hq⟩ : ∃ q, q = (mk w1).heap.size := ⟨_, rfl⟩
    have hs2 : w1.heap.size < q := by
      obtain ⟨cur, h1, _⟩ := (hmk w1).2.1
      rw [hq]; exact (Array.getElem?_eq_some_iff.1 h1).1
    obtain ⟨w2, hw2⟩ : ∃ w2, (mk w1).alloc (.cells #[.int .i64 0, .int .i64 0, .int .i64 0, .int .i64 0] 75) = w2 := ⟨_, rfl⟩
    have HS : Hid (SB w w2 g q w1.heap.size xs.length []) := Lib.hid (by
      have hb2 : Below w1.heap.size w1 w2 := by rw [← hw2]; exact (hmk w1).2.2.alloc (hmk w1).2.2.size _
      have hb12 : Below w0.heap.size w0 w2 := hb1.trans (hb2.mono hs1)
      obtain ⟨cur, h1, h2⟩ := (hmk w1).2.1
      refine ⟨HB.out.trans (hb12.mono HB.out.size), (hb12.block _ hs0).trans HG0.out, ?_, ⟨cur, ?_, h2, fun j hj => absurd hj (Nat.not_lt_zero _)⟩⟩
      · rw [← hw2, hq]; exact heap_alloc_new _ _
      · rw [← hw2]; exact alloc_old _ h1)
    have HW2 := Lib.hid hw2
    have HQ := Lib.hid hq
    clear a0 a1 a2 hb1 hw2
    go_upto_region 5 with fail
    rw [HW2.out, ← HQ.out]
    clear hrun hmk hq
    go_wp2_with fail
    go_loopw [23] (fun sl wr => ∃ (i : Nat) (L : List RunG), i ≤ xs.length ∧ sl = .int .i64 i ∧ runsG g s runG0 (xs.take i) = some L ∧ Hid (SB w wr g q w1.heap.size xs.length L)) (fun sl _ => xs.length - (intOf sl).toNat)
    case atStart => exact ⟨0, [], Nat.zero_le _, rfl, rfl, HS⟩
    case round =>
      obtain ⟨i, L, hi, rfl, hL, HR⟩ := hrel
      have HL := Lib.hid hL
      have hlen : L.length = i := by have := runsG_len hL; simp at this; omega
      have hok := (runsG_ok hg hs0s runG0_ok hL).1
      rw [List.length_take, Nat.min_eq_left hi] at hok
      obtain ⟨r, hr⟩ : ∃ r, L.getLastD runG0 = r := ⟨_, rfl⟩
      have hcl := HR.out.l
      rw [hr] at hok hcl
      obtain ⟨a0, a1, a2⟩ := three_cells HR.out.g
      obtain ⟨b0, b1, b2, b3⟩ := four_cells hcl
      obtain ⟨f0, f1, f2, f3⟩ := store_frozen hcl
      have HRR := Lib.hid hr
      clear hL hcl hr
      by_cases hlt : i < xs.length
      · obtain ⟨bx, ox, rfl, hbx, hcx⟩ := (HX.out.below HR.out.b).int hlt
        have hxw := HWF.out _ (List.getElem_mem hlt)
        have HD := Lib.hid (HWAY.out hg r _ xs[i] wr HR.out.b hok (by omega) hxw)
        have HT := Lib.hid (runsG_take (g := g) (s := s) hlt runG0)
        rw [HL.out] at HT
        simp only [Option.bind_some] at HT
        rw [HRR.out] at HT
        have HNS : Hid (doG g s r xs[i] = none → stepR g s r xs[i] = (runG0, false)) := Lib.hid stepR_none
        have HSS : Hid (∀ r', doG g s r xs[i] = some r' → stepR g s r xs[i] = (r', true)) := Lib.hid (fun _ => stepR_some)
        obtain ⟨x, hxx⟩ : ∃ x, xs[i] = x := ⟨_, rfl⟩
        rw [hxx] at hcx HD HT HNS HSS
        clear hok hxw hxx
        cases hd : doG g s r x with
        | none =>
          have HN : Hid (storesR g s xs = ([], false)) := Lib.hid (storesR_none (runsG_stop (i := i + 1) _ (by rw [HT.out, hd]; rfl)))
          rw [HNS.out hd] at HD
          clear hd
          go_wp2_with fail
          refine HD.out.mono ?_
          rintro e w3 ⟨rfl, hb3⟩
          have HR3 := Lib.hid (HR.out.below hb3)
          have hcl := HR3.out.l
          rw [HRR.out] at hcl
          clear b0 b1 b2 b3 f0 f1 f2 f3 a0 a1 a2
          obtain ⟨b0, b1, b2, b3⟩ := four_cells hcl
          obtain ⟨f0, f1, f2, f3⟩ := store_frozen hcl
          clear hb3 hcl
          go_wp2_with fail
          go_ret2
          exact ⟨_, _, by rw [HN.out]; rfl, by rw [HN.out]; exact ⟨#[], heap_new_at (by first | (simp; done) | rfl), fun j hj => absurd hj (Nat.not_lt_zero _)⟩, by have := HR3.out.b.size; first | omega | (simp; omega), by have hB := HR3.out.b; have hs := hB.size; (repeat (first | (with_reducible exact Below.refl _ _) | (with_reducible refine Below.drew ?_) | ((with_reducible refine Below.alloc ?_ ?hB _); case hB => (first | (with_reducible exact Nat.le_refl _) | omega | (simp; done) | (simp; omega))) | ((with_reducible refine Below.setCell ?_ ?hB _); case hB => (first | (with_reducible exact Nat.le_refl _) | omega | (simp; done) | (simp; omega))))); exact hB⟩
        | some r' =>
          have HN : Hid (runsG g s runG0 (xs.take (i + 1)) = some (L ++ [r'])) := Lib.hid (by rw [HT.out, hd]; rfl)
          rw [HSS.out r' hd] at HD
          clear hd
          go_wp2_with fail
          refine HD.out.mono ?_
          rintro e w3 ⟨rfl, hb3⟩
          have HR3 := Lib.hid (HR.out.below hb3)
          have hcl := HR3.out.l
          rw [HRR.out] at hcl
          clear b0 b1 b2 b3 f0 f1 f2 f3 a0 a1 a2
          obtain ⟨b0, b1, b2, b3⟩ := four_cells hcl
          obtain ⟨f0, f1, f2, f3⟩ := store_frozen hcl
          have g0 := HR3.out.frozen (i * 4)
          have g1 := HR3.out.frozen (i * 4 + 1)
          have g2 := HR3.out.frozen (i * 4 + 2)
          have g3 := HR3.out.frozen (i * 4 + 3)
          obtain ⟨u0, h0⟩ := HR3.out.some (i * 4) (by omega)
          obtain ⟨u1, h1⟩ := HR3.out.some (i * 4 + 1) (by omega)
          obtain ⟨u2, h2⟩ := HR3.out.some (i * 4 + 2) (by omega)
          obtain ⟨u3, h3⟩ := HR3.out.some (i * 4 + 3) (by omega)
          clear hb3 hcl
          go_wp2_with fail
          go_roundw
          case rel => exact ⟨i + 1, L ++ [r'], by omega, by go_num, HN.out, Lib.hid (by have h := HR3.out.next r' (by omega) hs2 (by omega); rw [hlen] at h; exact h)⟩
          case measure => simp [intOf]; omega
      · obtain rfl : i = xs.length := by omega
        have hLL := HL.out
        rw [List.take_length] at hLL
        have HN : Hid (storesR g s xs = (L, true)) := Lib.hid (storesR_some hg hLL)
        clear hLL hok
        go_wp2_with fail
        go_ret2
        exact ⟨_, _, by rw [HN.out, hlen]; rfl, by rw [HN.out]; obtain ⟨cur, h1, h2, h3⟩ := HR.out.s; exact ⟨cur, h1, h3⟩, by omega, HR.out.b⟩
  · rw [decide_eq_false hg] at HU
    have HN : Hid (storesR g s xs = ([], false)) := Lib.hid (storesR_bad hg)
    go_enter Try.func69, Try.ntmps69
    go_wp2_with fail
    rw [HW.out]
    refine HU.out.mono ?_
    rintro e w1 ⟨rfl, hb1⟩
    have HB1 := Lib.hid (HB.out.trans (hb1.mono HB.out.size))
    clear hb1 a0 a1 a2
    go_wp2_with fail
    go_ret2
    exact ⟨_, _, by rw [HN.out]; rfl, by rw [HN.out]; exact ⟨#[], heap_new_at (by first | (simp; done) | rfl), fun j hj => absurd hj (Nat.not_lt_zero _)⟩, by have := HB1.out.size; first | omega | (simp; omega), by have hB := HB1.out; have hs := hB.size; (repeat (first | (with_reducible exact Below.refl _ _) | (with_reducible refine Below.drew ?_) | ((with_reducible refine Below.alloc ?_ ?hB _); case hB => (first | (with_reducible exact Nat.le_refl _) | omega | (simp; done) | (simp; omega))) | ((with_reducible refine Below.setCell ?_ ?hB _); case hB => (first | (with_reducible exact Nat.le_refl _) | omega | (simp; done) | (simp; omega))))); exact hB⟩
end Go.Proofs.Ytiimbojcnmbebab
