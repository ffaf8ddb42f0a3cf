/-
  A byte of a memory of the call's own is written: l2Put of spec, WriteAt of spec.
-/
import Derived.Test.YtbdaaeffbhcflaaSpecO
import Derived.Test.YtbdaaeffbhcflaaWin2
namespace Go.Proofs.Ytbdaaeffbhcflaa
open Go.RowKit

/-- Row n of a memory of the call's own, where it lies. -/
theorem OwnM.row_at {w : World} {lo hi : Nat} {A : Option Addr} {c : Nat} {m : List (List Int)} (h : OwnM w lo hi (.slice A m.length c) m) {n : Nat} (hn : n < m.length) (h1 : 1 ≤ m[n].length) :
    ∃ gb g cap, A = some ⟨gb, 0, none⟩ ∧ gb ≠ g ∧ lo ≤ g ∧ g < hi ∧ gb < w.heap.size ∧ g < w.heap.size ∧ w.cell? ⟨gb, n, none⟩ = some (.slice (some ⟨g, 0, none⟩) m[n].length cap) ∧ m[n].length ≤ cap ∧ cap ≤ maxLen ∧
      (∀ j (hj : j < m[n].length), w.cell? ⟨g, j, none⟩ = some (.int .u8 m[n][j])) ∧ (∀ j, w.frozen? ⟨g, j, none⟩ = false) ∧ w.ownsRow lo 5 1 (.slice (some ⟨g, 0, none⟩) m[n].length cap) m[n].length (intV .u8 m[n]) ∧
      ∀ (w' : World) (ys : List Int), ys.length = m[n].length → w'.ownsRow lo 5 1 (.slice (some ⟨g, 0, none⟩) m[n].length cap) m[n].length (intV .u8 ys) → w.grownBy w' (some g) → OwnM w' lo hi (.slice A m.length c) (m.set n ys) := by
  obtain ⟨hs, hv, hr⟩ := h.rows
  have hl := hr.len
  obtain ⟨x, hx, ho⟩ := hr.row n hn
  have hv1 := hv.1
  rw [hl] at hv1
  rcases hv1.2 with ⟨_, h0⟩ | ⟨gb, cb, cur, e, hbg, hh, hnc, hcm, hcs, htk⟩
  · omega
  injection e with e1 _ e2
  subst e1; subst e2
  have ho1 := ho.1
  rw [intV_len] at ho1
  obtain ⟨Ai, ci, rfl⟩ := own_form ho1
  rcases ho1.2 with ⟨_, h0⟩ | ⟨g, cap, cur2, e, hbg2, hh2, hnc2, hcm2, hcs2, htk2⟩
  · omega
  injection e with e1 _ e2
  subst e1; subst e2
  have hne := own_ne hv.1 ho.1 (by decide)
  have hgb : gb ≠ g := fun e => by
    subst e
    rcases hne with h | h
    · simp [Value.ownBlock] at h
    · exact h rfl
  have hxn : hs[n]'(by omega) = .slice (some ⟨g, 0, none⟩) m[n].length ci := by
    rw [List.getElem?_eq_getElem (by omega)] at hx
    injection hx with hx
  refine ⟨gb, g, ci, rfl, hgb, hbg2, ho.2 g rfl, (Array.getElem?_eq_some_iff.1 hh).1, (Array.getElem?_eq_some_iff.1 hh2).1, ?_, hnc2, hcm2, fun j hj => ?_, fun j => ho1.frozenAt j, ho1, fun w' ys hy hw hg => ?_⟩
  · rw [hv1.cellAt n (by omega), List.getElem?_eq_getElem (by omega), hxn]
  · rw [ho1.cellAt j (by omega), List.getElem?_eq_getElem (by rw [intV_len]; exact hj), intV_get]
  · have hx2 : hs[n]? = some (.slice (some ⟨g, 0, none⟩) m[n].length ci) := by rw [List.getElem?_eq_getElem (by omega), hxn]
    have hor : OwnR w' lo hi 5 (.slice (some ⟨g, 0, none⟩) m[n].length ci) (intV .u8 ys) := ⟨by rw [intV_len, hy]; exact hw, fun q hq => ho.2 q hq⟩
    have hr2 := hr.set hx2 hor hg
    have hv2 : OwnR w' lo hi 22 (.slice (some ⟨gb, 0, none⟩) m.length c) hs := hv.kept hg (.inr (by simp [Value.ownBlock]; exact hgb))
    have := hr2.own hv2
    exact this
theorem intV_set (xs : List Int) (j : Nat) (b : Int) : (intV .u8 xs).set j (.int .u8 b) = intV .u8 (xs.set j b) := by unfold intV; rw [List.map_set]
/-- The memory in which one byte is another one. -/
def putM (m : List (List Int)) (n j : Nat) (b : Int) : List (List Int) := m.set n ((m.getD n []).set j b)
theorem putM_eq {m : List (List Int)} {n j : Nat} {b : Int} (hn : n < m.length) : putM m n j b = m.set n (m[n].set j b) := by rw [putM, getD_eq hn]
theorem putM_len {m : List (List Int)} {n j : Nat} {b : Int} : (putM m n j b).length = m.length := by rw [putM, List.length_set]

/-- A memory, a window and the answer's block, a memory, as a function has them. -/
structure MWM (W : World) (g : Nat) (A : Option Addr) (n c : Nat) (a s l k : Int) : Prop where
  mw : MW W g A n c a s l k
  res : W.heap[g + 1 + 1]? = some (.cells #[.slice none 0 0] 26)
theorem MWM.below {W W' : World} {g : Nat} {A : Option Addr} {n c : Nat} {a s l k : Int} (h : MWM W g A n c a s l k) (hb : Below W.heap.size W W') : MWM W' g A n c a s l k :=
  ⟨h.mw.below hb, (hb.block _ (Array.getElem?_eq_some_iff.1 h.res).1).trans h.res⟩
theorem enterMWM (A : Option Addr) (n c : Nat) (a s l k : Int) (w : World) :
    ∃ w0, ((w.alloc (.cells #[.slice A n c] 26)).alloc (.cells #[.int .i64 a, .int .i64 s, .int .i64 l, .int .i64 k] 28)).alloc (.cells #[.slice none 0 0] 26) = w0 ∧ Below w.heap.size w w0 ∧ w0.heap.size = w.heap.size + 3 ∧ MWM w0 w.heap.size A n c a s l k := by
  obtain ⟨h1, h2, h3, h4, h5⟩ := enter3 w (.cells #[.slice A n c] 26) (.cells #[.int .i64 a, .int .i64 s, .int .i64 l, .int .i64 k] 28) (.cells #[.slice none 0 0] 26)
  exact ⟨_, rfl, h1, h5, ⟨h2, h3⟩, h4⟩

set_option maxRecDepth 100000 in
set_option maxHeartbeats 1600000 in
theorem specPut_calls (A : Option Addr) (cm : Nat) (m : List (List Int)) (n s i : Nat) (l c b : Int) (w : World) (hr : Rd2 w w.heap.size A m) (hok : MemOK m) (hn : n < m.length) (hi : s + i < m[n].length) :
    Calls Try.prog 82 #[.agg #[.slice A m.length cm], .agg #[.int .i64 n, .int .i64 s, .int .i64 l, .int .i64 c], .int .i64 i, .int .u8 b] w fun e w' => ∃ v, e = .returned (.agg #[v]) ∧ OwnM w' w.heap.size w'.heap.size v (putM m n (s + i) b) ∧ Below w.heap.size w w' := by
  obtain ⟨w0, hw0, hb0, hz0, hmw⟩ := enterMWM A m.length cm n s l c w
  have HC := Lib.hid (specOwn_calls A cm m w0 ((hr.below hb0).more hb0.size) hok)
  have HB := Lib.hid hb0
  have HW := Lib.hid hw0
  have HMW := Lib.hid hmw
  have h16 := hok.1
  have h64 := (hok.2 m[n] (List.getElem_mem hn)).2
  have h1 := (hok.2 m[n] (List.getElem_mem hn)).1
  have hwi : IntKind.i64.wrap ((s : Int) + i) = s + i := by simp [IntKind.wrap, IntKind.bits, IntKind.signed]; omega
  have hi0 : (0 : Int) ≤ (s : Int) + i := by omega
  have hi1 : (s : Int) + i < m[n].length := by omega
  have hti : ((s : Int) + i).toNat = s + i := by omega
  clear hr hb0 hmw hw0 hok
  go_enter Try.func82, Try.ntmps82
  go_wp2_with fail
  rw [HW.out]
  refine HC.out.mono ?_
  rintro e w2 ⟨v, rfl, ho, hb2⟩
  obtain ⟨Av, cv, rfl, hcv⟩ := ho.form
  have HB2 := Lib.hid (HB.out.trans (hb2.mono HB.out.size))
  have hmw2 := HMW.out.below hb2
  have hb3 : Below w2.heap.size w2 (w2.alloc (.cells #[.slice Av m.length cv] 26)) := (Below.refl _ _).alloc (Nat.le_refl _) _
  obtain ⟨gb, g, cap, rfl, hgb, hg1, hg2, hg3, hg4, hrow, hcap1, hcap2, hcells, hfr, hro, hset⟩ := ho.row_at hn h1
  have hmw3 := (hmw2.below hb3)
  have HMW3 := Lib.hid hmw3
  obtain ⟨w3, hw3⟩ : ∃ w3, w2.alloc (.cells #[.slice (some ⟨gb, 0, none⟩) m.length cv] 26) = w3 := ⟨_, rfl⟩
  rw [hw3] at hb3 hmw3 HMW3
  have HX3 := Lib.hid (show w3.heap[w2.heap.size]? = some (.cells #[.slice (some ⟨gb, 0, none⟩) m.length cv] 26) by rw [← hw3]; exact heap_alloc_new _ _)
  have HO3 := Lib.hid (ho.below hb3)
  have HW3 := Lib.hid hw3
  have HB3 := Lib.hid (HB2.out.trans (hb3.mono HB2.out.size))
  obtain ⟨d0, d1, d2, d3⟩ := four_cells hmw3.mw.win
  have x0 := one_cell HX3.out
  have y0 : w3.cell? ⟨gb, n, none⟩ = some (.slice (some ⟨g, 0, none⟩) m[n].length cap) := (hb3.cell (p := ⟨gb, n, none⟩) hg3).trans hrow
  have z0 : w3.cell? ⟨g, s + i, none⟩ = some (.int .u8 m[n][s + i]) := (hb3.cell (p := ⟨g, s + i, none⟩) hg4).trans (hcells _ hi)
  have f0 : w3.frozen? ⟨g, s + i, none⟩ = false := (hb3.frozen (p := ⟨g, s + i, none⟩) hg4).trans (hfr _)
  have hsz := HB.out.size
  have hlo : w.heap.size ≤ w0.heap.size := hsz
  have hgne1 : w2.heap.size ≠ g := by omega
  have hgne2 : w.heap.size + 1 ≠ g := by omega
  have hst := (own_below hro hb3).stored (s + i) (.int .u8 b)
  rw [intV_set] at hst
  have HST := Lib.hid hst
  have HGR := Lib.hid ((grown_of_below hb3 (some g)).trans hst.2)
  have HO := Lib.hid (show ∀ (W' : World), W'.ownsRow w0.heap.size 5 1 (.slice (some ⟨g, 0, none⟩) m[n].length cap) m[n].length (intV .u8 (m[n].set (s + i) b)) → w2.grownBy W' (some g) → OwnM W' w0.heap.size w2.heap.size (.slice (some ⟨gb, 0, none⟩) m.length cv) (m.set n (m[n].set (s + i) b)) from fun W' h k => hset W' _ (by simp) h k)
  clear ho hb2 hb3 hmw2 hmw3 hw3 hrow hcells hfr hset hcv hro hst
  generalize m[n][s + i] = q at *
  have z1 : w3.drew.cell? ⟨g, s + i, none⟩ = some (.int .u8 q) := z0
  have f1 : w3.drew.frozen? ⟨g, s + i, none⟩ = false := f0
  go_wp2_with fail
  rw [HW3.out]
  go_region_held3 (fun W => W.cell? ⟨w2.heap.size, 0, none⟩ = some (.slice (some ⟨gb, 0, none⟩) m.length cv) ∧ W.cell? ⟨w.heap.size + 1, 0, none⟩ = some (.int .i64 n) ∧ W.cell? ⟨w.heap.size + 1, 1, none⟩ = some (.int .i64 s) ∧ W.cell? ⟨gb, n, none⟩ = some (.slice (some ⟨g, 0, none⟩) m[n].length cap))
    (first | exact ⟨x0, d0, d1, y0⟩ | exact ⟨(World.cell?_setCell_other _ _ _ _ (by first | (simp; done) | (simp; omega))).trans x0, (World.cell?_setCell_other _ _ _ _ (by first | (simp; done) | (simp; omega))).trans d0, (World.cell?_setCell_other _ _ _ _ (by first | (simp; done) | (simp; omega))).trans d1, (World.cell?_setCell_other _ _ _ _ (by first | (simp; done) | (simp; omega))).trans y0⟩) (fail)
  have HOM := Lib.hid (HO.out _ HST.out.1 HGR.out)
  have HB4 := Lib.hid (HB3.out.setCell (p := ⟨g, s + i, none⟩) (by simp; omega) (.int .u8 b))
  have HR4 := Lib.hid ((Below.heap_setCell w3 ⟨g, s + i, none⟩ (.int .u8 b) (w.heap.size + 1 + 1) (by simp; omega)).trans HMW3.out.res)
  have HV4 := Lib.hid ((Below.heap_setCell w3 ⟨g, s + i, none⟩ (.int .u8 b) w2.heap.size (by simp; omega)).trans HX3.out)
  have HSZ := Lib.hid (World.size_setCell w3 ⟨g, s + i, none⟩ (.int .u8 b))
  have HS3 := Lib.hid (show w2.heap.size + 1 = w3.heap.size by rw [← HW3.out]; simp)
  generalize w3.setCell ⟨g, s + i, none⟩ (.int .u8 b) = w4 at *
  have r0 : w4.drew.cell? ⟨w.heap.size + 1 + 1, 0, none⟩ = some (.slice none 0 0) := one_cell HR4.out
  have rf : w4.drew.frozen? ⟨w.heap.size + 1 + 1, 0, none⟩ = false := one_frozen HR4.out
  have v0 : w4.drew.cell? ⟨w2.heap.size, 0, none⟩ = some (.slice (some ⟨gb, 0, none⟩) m.length cv) := one_cell HV4.out
  have HOD := Lib.hid (show OwnM w4.drew w0.heap.size w2.heap.size (.slice (some ⟨gb, 0, none⟩) m.length cv) (m.set n (m[n].set (s + i) b)) from HOM.out)
  have HBD := Lib.hid (HB4.out.drew)
  have HZD := Lib.hid (show w2.heap.size ≤ w4.drew.heap.size from by have h1 := HSZ.out; have h2 := HS3.out; show w2.heap.size ≤ w4.heap.size; omega)
  generalize w4.drew = w5 at *
  clear z0 z1 f0 f1 x0 y0 d0 d1 d2 d3
  go_wp2_with fail
  refine bodyPost_ret (v := .agg #[.slice (some ⟨gb, 0, none⟩) m.length cv]) (by simp [results, Try.results82, go_sem, r0]) rfl ⟨_, rfl, ?_, by (repeat (first | (with_reducible exact Below.refl _ _) | (with_reducible refine Below.drew ?_) | ((with_reducible refine Below.alloc ?_ ?hB _); case hB => (first | (with_reducible exact Nat.le_refl _) | omega | (simp; done) | (simp; omega))) | ((with_reducible refine Below.setCell ?_ ?hB _); case hB => (first | (with_reducible exact Nat.le_refl _) | omega | (simp; done) | (simp; omega))))); exact HBD.out⟩
  rw [putM_eq hn, World.size_setCell]
  exact (own_setCell HOD.out (.inl (by omega))).mono (by omega) HZD.out
end Go.Proofs.Ytbdaaeffbhcflaa
