/-
  openWindow of impl.
-/
import Derived.Test.YtkclpppnjfhbpaaCopyM
import Derived.Test.YtkclpppnjfhbpaaRowAt
namespace Go.Proofs.Ytkclpppnjfhbpaa
open Go.RowKit

/-- What openWindow answers: a copy of the memory, and what the window sees of it. -/
def Opened (m : List (List Int)) (x : Win) (lo : Nat) (e : Ending) (w' : World) : Prop :=
  (¬ WinOK m x ∧ ∃ A, e = .returned (.tuple #[.agg #[.slice none 0 0], .slice A 0 0, .bool false])) ∨
  (∃ n s l c gb g cv cap o, ∃ hn : n < m.length, x = ⟨(n : Nat), (s : Nat), (l : Nat), (c : Nat)⟩ ∧ WinOK m x ∧ l ≤ c ∧ s + c ≤ m[n].length ∧ 1 ≤ m[n].length ∧ m[n].length ≤ 64 ∧ m.length ≤ 16 ∧
    e = .returned (.tuple #[.agg #[.slice (some ⟨gb, 0, none⟩) m.length cv], .slice (some ⟨g, o, none⟩) l c, .bool true]) ∧ (0 < c → o = s) ∧ OwnM w' lo w'.heap.size (.slice (some ⟨gb, 0, none⟩) m.length cv) m ∧
    w'.cell? ⟨gb, n, none⟩ = some (.slice (some ⟨g, 0, none⟩) m[n].length cap))
set_option maxRecDepth 100000 in
set_option maxHeartbeats 3200000 in
theorem openWindow_calls (A : Option Addr) (cm : Nat) (m : List (List Int)) (x : Win) (w : World) (hr : Rd2 w w.heap.size A m) (hn : m.length ≤ maxLen) (hx : WArg x) :
    Calls Try.prog 124 #[.agg #[.slice A m.length cm], .agg #[.int .i64 x.arr, .int .i64 x.start, .int .i64 x.len, .int .i64 x.cap]] w fun e w' => Opened m x w.heap.size e w' ∧ Below w.heap.size w w' := by
  obtain ⟨w0, hw0, hb0, hz0, hmw⟩ := enterMWM A m.length cm x.arr x.start x.len x.cap w
  have HC := Lib.hid (areOne_calls A cm m x w0 ((hr.below hb0).more hb0.size) hn hx (w.heap.size + 1 + 1 + 1) (by omega))
  have HB := Lib.hid hb0
  have HR := Lib.hid hr
  have HW := Lib.hid hw0
  have HMW := Lib.hid hmw
  have hrb := run_win1
  clear hr hb0 hmw hw0
  go_enter Try.func124, Try.ntmps124
  go_wp2_with fail
  rw [HW.out]
  clear hrb
  refine HC.out.mono ?_
  rintro e w2 ⟨rfl, hb2⟩
  have HB2 := Lib.hid (HB.out.trans (hb2.mono HB.out.size))
  have HB02 := Lib.hid hb2
  have hmw2 := HMW.out.below hb2
  have HMW2 := Lib.hid hmw2
  have c1 := one_cell hmw2.mw.mem
  have r0 := one_cell hmw2.res
  have rf := one_frozen hmw2.res
  clear hb2 hmw2
  by_cases hm : WinOK m x
  · have hd : decide (WinOK m x) = true := decide_eq_true hm
    have HM := Lib.hid hm
    have HCP := Lib.hid (copyMemory_calls A cm m w2 ((HR.out.below HB2.out).more HB2.out.size) hm.1)
    obtain ⟨n, s, l, c, rfl, hnl, hlc, hsc, h1, h64, h16⟩ := hm.nat
    clear hm
    dsimp only at *
    go_wp2_with fail
    refine HCP.out.mono ?_
    rintro e w3 ⟨v, rfl, ho, hb3⟩
    obtain ⟨Av, cv, rfl, hcv⟩ := ho.form
    obtain ⟨gb, g, cap, rfl, hgb, hg1, hg2, hg3, hg4, hrow, hcap1, hcap2, hcells, hfr, hro, hset⟩ := ho.row_at hnl h1
    clear hcells hfr hro hset r0 rf c1
    have hb4 : Below w3.heap.size w3 (w3.alloc (.cells #[.slice (some ⟨gb, 0, none⟩) m.length cv] 31)) := (Below.refl _ _).alloc (Nat.le_refl _) _
    obtain ⟨w4, hw4⟩ : ∃ w4, w3.alloc (.cells #[.slice (some ⟨gb, 0, none⟩) m.length cv] 31) = w4 := ⟨_, rfl⟩
    rw [hw4] at hb4
    have hx4 : w4.heap[w3.heap.size]? = some (.cells #[.slice (some ⟨gb, 0, none⟩) m.length cv] 31) := by rw [← hw4]; exact heap_alloc_new _ _
    have hmw4 := (HMW2.out.below hb3).below hb4
    have hl2 := HB2.out.size
    have hsz0 := HB02.out.size
    have hl3 := hb3.size
    have hl4 := hb4.size
    have HB3 := Lib.hid hb3
    have HB4 := Lib.hid hb4
    have HW4 := Lib.hid hw4
    have HO4 := Lib.hid (ho.below hb4)
    have HX4 := Lib.hid hx4
    have HMW4 := Lib.hid hmw4
    have HRW4 := Lib.hid ((hb4.cell (p := ⟨gb, n, none⟩) hg3).trans hrow)
    have hgb4 : gb < w4.heap.size := by omega
    have hgbl : w.heap.size + 3 ≤ gb := by
      have := ho.rows
      obtain ⟨hs, hv, _⟩ := this
      have := (hv.1.lt gb rfl).1
      omega
    obtain ⟨d0, d1, d2, d3⟩ := four_cells hmw4.mw.win
    have x0 := one_cell hx4
    have r0 : w4.drew.cell? ⟨w.heap.size + 1 + 1, 0, none⟩ = some (.slice none 0 0) := one_cell hmw4.res
    have rf : w4.drew.frozen? ⟨w.heap.size + 1 + 1, 0, none⟩ = false := one_frozen hmw4.res
    have HSN := Lib.hid (fun (W : World) (h : W.cell? ⟨gb, 0 + n, none⟩ = some (.slice (some ⟨g, 0, none⟩) m[n].length cap)) (hl : gb < W.heap.size) => seen_calls gb 0 cv m n s l c g 0 cap W hnl h16 hlc hsc h64 hcap1 hcap2 h hl)
    have HRD : Hid (w4.drew.cell? ⟨gb, 0 + n, none⟩ = some (.slice (some ⟨g, 0, none⟩) m[n].length cap)) := Lib.hid (by rw [Nat.zero_add]; exact HRW4.out)
    have HSB : Hid (((w4.setCell ⟨w.heap.size + 1 + 1, 0, none⟩ (.slice (some ⟨gb, 0, none⟩) m.length cv)).drew).cell? ⟨gb, 0 + n, none⟩ = some (.slice (some ⟨g, 0, none⟩) m[n].length cap)) := Lib.hid (by rw [Nat.zero_add]; exact (World.cell?_setCell_other _ _ _ _ (by first | (simp; done) | (simp; omega))).trans HRW4.out)
    have hres4 : w.heap.size + 1 + 1 < w4.heap.size := (Array.getElem?_eq_some_iff.1 hmw4.res).1
    have hl34 : w3.heap.size < w4.heap.size := (Array.getElem?_eq_some_iff.1 hx4).1
    have HA : Hid (∀ W, Below w4.heap.size w4 W → W.cell? ⟨w3.heap.size, 0, none⟩ = some (.slice (some ⟨gb, 0, none⟩) m.length cv) ∧ W.cell? ⟨w.heap.size + 1, 0, none⟩ = some (.int .i64 n) ∧ W.cell? ⟨w.heap.size + 1, 1, none⟩ = some (.int .i64 s) ∧ W.cell? ⟨w.heap.size + 1, 2, none⟩ = some (.int .i64 l) ∧ W.cell? ⟨w.heap.size + 1, 3, none⟩ = some (.int .i64 c)) := Lib.hid fun W hb => by
      obtain ⟨e0, e1, e2, e3⟩ := four_cells ((hb.block _ (by omega)).trans HMW4.out.mw.win)
      exact ⟨one_cell ((hb.block _ hl34).trans HX4.out), e0, e1, e2, e3⟩
    have HA0 : Hid (∀ W, Below w4.heap.size w4 W → (W.setCell ⟨w.heap.size + 1 + 1, 0, none⟩ (.slice (some ⟨gb, 0, none⟩) m.length cv)).cell? ⟨w3.heap.size, 0, none⟩ = some (.slice (some ⟨gb, 0, none⟩) m.length cv) ∧ (W.setCell ⟨w.heap.size + 1 + 1, 0, none⟩ (.slice (some ⟨gb, 0, none⟩) m.length cv)).cell? ⟨w.heap.size + 1, 0, none⟩ = some (.int .i64 n) ∧ (W.setCell ⟨w.heap.size + 1 + 1, 0, none⟩ (.slice (some ⟨gb, 0, none⟩) m.length cv)).cell? ⟨w.heap.size + 1, 1, none⟩ = some (.int .i64 s) ∧ (W.setCell ⟨w.heap.size + 1 + 1, 0, none⟩ (.slice (some ⟨gb, 0, none⟩) m.length cv)).cell? ⟨w.heap.size + 1, 2, none⟩ = some (.int .i64 l) ∧ (W.setCell ⟨w.heap.size + 1 + 1, 0, none⟩ (.slice (some ⟨gb, 0, none⟩) m.length cv)).cell? ⟨w.heap.size + 1, 3, none⟩ = some (.int .i64 c)) := Lib.hid fun W hb => by
      obtain ⟨e4, e0, e1, e2, e3⟩ := HA.out W hb
      exact ⟨(World.cell?_setCell_other _ _ _ _ (by first | (simp; done) | (simp; omega))).trans e4, (World.cell?_setCell_other _ _ _ _ (by first | (simp; done) | (simp; omega))).trans e0, (World.cell?_setCell_other _ _ _ _ (by first | (simp; done) | (simp; omega))).trans e1, (World.cell?_setCell_other _ _ _ _ (by first | (simp; done) | (simp; omega))).trans e2, (World.cell?_setCell_other _ _ _ _ (by first | (simp; done) | (simp; omega))).trans e3⟩
    have HA2 : Hid (∀ W, Below w4.heap.size ((w4.setCell ⟨w.heap.size + 1 + 1, 0, none⟩ (.slice (some ⟨gb, 0, none⟩) m.length cv)).drew) W → W.cell? ⟨w3.heap.size, 0, none⟩ = some (.slice (some ⟨gb, 0, none⟩) m.length cv) ∧ W.cell? ⟨w.heap.size + 1, 0, none⟩ = some (.int .i64 n) ∧ W.cell? ⟨w.heap.size + 1, 1, none⟩ = some (.int .i64 s) ∧ W.cell? ⟨w.heap.size + 1, 2, none⟩ = some (.int .i64 l) ∧ W.cell? ⟨w.heap.size + 1, 3, none⟩ = some (.int .i64 c)) := Lib.hid fun W hb => by
      obtain ⟨e4, e0, e1, e2, e3⟩ := HA0.out w4 (Below.refl _ _)
      exact ⟨(hb.cell (p := ⟨_, _, none⟩) (by simp; omega)).trans e4, (hb.cell (p := ⟨_, _, none⟩) (by simp; omega)).trans e0, (hb.cell (p := ⟨_, _, none⟩) (by simp; omega)).trans e1, (hb.cell (p := ⟨_, _, none⟩) (by simp; omega)).trans e2, (hb.cell (p := ⟨_, _, none⟩) (by simp; omega)).trans e3⟩
    have HZ4 := Lib.hid (show ((w4.setCell ⟨w.heap.size + 1 + 1, 0, none⟩ (.slice (some ⟨gb, 0, none⟩) m.length cv)).drew).heap.size = w4.heap.size from World.size_setCell _ _ _)
    clear hb3 hb4 hw4 hx4 hmw4 hrow hcv ho
    go_upto_region 4 with fail
    rw [HW4.out]
    go_region_held3 (fun W => W.cell? ⟨w3.heap.size, 0, none⟩ = some (.slice (some ⟨gb, 0, none⟩) m.length cv) ∧ W.cell? ⟨w.heap.size + 1, 0, none⟩ = some (.int .i64 n) ∧ W.cell? ⟨w.heap.size + 1, 1, none⟩ = some (.int .i64 s) ∧ W.cell? ⟨w.heap.size + 1, 2, none⟩ = some (.int .i64 l) ∧ W.cell? ⟨w.heap.size + 1, 3, none⟩ = some (.int .i64 c))
      (first | (with_reducible exact ⟨x0, d0, d1, d2, d3⟩) | (with_reducible exact HA.out _ hc5) | (with_reducible exact HA2.out _ hc6) | exact HA2.out _ (Below.refl _ _) | exact HA0.out _ hc5 | exact ⟨x0, d0, d1, d2, d3⟩ | fail)
      (first | (go_at_call 120; refine (HSN.out _ (by first | (with_reducible exact HRD.out) | exact HSB.out) (by first | exact hgb4 | (simp; omega))).mono ?_; rintro e w5 ⟨⟨o, rfl, hoo⟩, hb5⟩; (first | ((with_reducible have hc5 : Below w4.heap.size w4 w5 := below_step (Below.refl _ _).drew hb5); have q0 := one_cell ((hc5.block _ hres4).trans HMW4.out.res); have qf := one_frozen ((hc5.block _ hres4).trans HMW4.out.res)) | (have hc6 : Below w4.heap.size ((w4.setCell ⟨w.heap.size + 1 + 1, 0, none⟩ (.slice (some ⟨gb, 0, none⟩) m.length cv)).drew) w5 := hb5.mono (by rw [HZ4.out]; exact Nat.le_refl _)))))
    · have HC5 := Lib.hid hc5
      have HQ5 := Lib.hid ((hc5.block _ hres4).trans HMW4.out.res)
      have HO5 := Lib.hid (HO4.out.below hc5)
      have HR5 := Lib.hid ((hc5.cell (p := ⟨gb, n, none⟩) hgb4).trans HRW4.out)
      have hs5 := hc5.size
      clear hb5 hc5 r0 rf d0 d1 d2 d3 x0
      have hlo : w.heap.size ≤ w2.heap.size := hl2
      go_wp2_with fail
      refine bodyPost_ret (v := .tuple #[.agg #[.slice (some ⟨gb, 0, none⟩) m.length cv], .slice (some ⟨g, o, none⟩) l c, .bool true]) (by simp [results, Try.results124, go_sem, q0]) rfl ⟨.inr ⟨n, s, l, c, gb, g, cv, cap, o, hnl, rfl, HM.out, hlc, hsc, h1, h64, h16, rfl, fun h => (hoo h).trans (Nat.zero_add _), ?_, ?_⟩, ?_⟩
      · show OwnM ((w5.setCell ⟨w.heap.size + 1 + 1, 0, none⟩ (.slice (some ⟨gb, 0, none⟩) m.length cv))) w.heap.size (w5.setCell ⟨w.heap.size + 1 + 1, 0, none⟩ (.slice (some ⟨gb, 0, none⟩) m.length cv)).heap.size (.slice (some ⟨gb, 0, none⟩) m.length cv) m
        rw [World.size_setCell]
        exact (own_setCell HO5.out (.inl (by omega))).mono hlo (by omega)
      · exact (World.cell?_setCell_other _ _ _ _ (by first | (simp; done) | (simp; omega))).trans HR5.out
      · exact ((HB2.out.trans (HB3.out.mono HB2.out.size)).trans ((HB4.out.mono (Nat.le_trans HB2.out.size HB3.out.size)).trans (HC5.out.mono (by omega)))).setCell (by simp; omega) _
  · have hd : decide (WinOK m x) = false := decide_eq_false hm
    have HM := Lib.hid hm
    clear hm
    have HR2 := Lib.hid HMW2.out.res
    have l0 := (Array.getElem?_eq_some_iff.1 HMW2.out.res).1
    have q0 := one_cell (alloc_old (.cells #[] 5) HR2.out)
    have qf := one_frozen (alloc_old (.cells #[] 5) HR2.out)
    have q1 := one_cell (alloc_old (.cells #[] 5) (one_set (v := .slice none 0 0) HR2.out))
    go_wp2_with fail
    refine bodyPost_ret (v := .tuple #[.agg #[.slice none 0 0], .slice (some ⟨w2.heap.size, 0, none⟩) 0 0, .bool false]) (by simp [results, Try.results124, go_sem, q1]) rfl ⟨.inl ⟨HM.out, _, rfl⟩, ?_⟩
    have hl := HB2.out.size
    (repeat (first | (with_reducible exact Below.refl _ _) | (with_reducible refine Below.drew ?_) | ((with_reducible refine Below.alloc ?_ ?hB _); case hB => (first | (with_reducible exact Nat.le_refl _) | omega | (simp; done) | (simp; omega))) | ((with_reducible refine Below.setCell ?_ ?hB _); case hB => (first | (with_reducible exact Nat.le_refl _) | omega | (simp; done) | (simp; omega)))))
    exact HB2.out
theorem small_set {m : List (List Int)} (h : MemOK m) {n : Nat} {ys : List Int} (hy : ys.length ≤ 64) : Small (m.set n ys) :=
  ⟨by rw [List.length_set]; exact h.1, fun r hr => by
    rcases List.mem_or_eq_of_mem_set hr with h1 | h1
    · exact (h.2 r h1).2
    · rw [h1]; exact hy⟩
end Go.Proofs.Ytkclpppnjfhbpaa
