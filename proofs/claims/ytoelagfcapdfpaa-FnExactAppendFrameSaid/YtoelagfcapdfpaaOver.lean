/-
  Bytes written over a part of a row: l2Write of spec.
-/
import Derived.Test.YtoelagfcapdfpaaRowAt
namespace Go.Proofs.Ytoelagfcapdfpaa
open Go.RowKit

/-- The row r with the bytes ys from p on. -/
def over (r : List Int) (p : Nat) (ys : List Int) : List Int := r.take p ++ ys ++ r.drop (p + ys.length)
theorem over_len {r : List Int} {p : Nat} {ys : List Int} (h : p + ys.length ≤ r.length) : (over r p ys).length = r.length := by
  simp [over]; omega
theorem over_nil (r : List Int) (p : Nat) : over r p [] = r := by simp [over]
theorem over_step {r : List Int} {p : Nat} {ys : List Int} {z : Int} (h : p + ys.length < r.length) : (over r p ys).set (p + ys.length) z = over r p (ys ++ [z]) := by
  unfold over
  have h1 : (r.take p ++ ys).length = p + ys.length := by simp; omega
  rw [List.set_append_right _ _ (by omega), h1, Nat.sub_self, List.drop_eq_getElem_cons h, List.set_cons_zero]
  simp [Nat.add_assoc]
theorem over_get {r : List Int} {p : Nat} {ys : List Int} (h : p + ys.length < r.length) : (over r p ys)[p + ys.length]'(by rw [over_len (by omega)]; exact h) = r[p + ys.length] := by
  unfold over
  rw [List.getElem_append_right (by simp; omega)]
  simp
  congr 1
  omega
theorem grown_cell {w w' : World} {g : Nat} {p : Addr} {u : Value} (hg : w.grownBy w' (some g)) (h : w.cell? p = some u) (hn : p.block ≠ g) : w'.cell? p = some u :=
  (World.cell?_of_block (hg.block p.block (cell_lt h) (fun e => by injection e with e; exact hn e))).trans h
theorem grown_block {w w' : World} {g b : Nat} {o : Obj} (hg : w.grownBy w' (some g)) (h : w.heap[b]? = some o) (hn : b ≠ g) : w'.heap[b]? = some o :=
  (hg.block b (Array.getElem?_eq_some_iff.1 h).1 (fun e => by injection e with e; exact hn e)).trans h
theorem grown_below {w a w' : World} {g B : Nat} (hb : Below B a w) (hB : B ≤ w.heap.size) (hg : w.grownBy w' (some g)) (h : B ≤ g) : Below B a w' := hb.grown hg hB (fun q e => by injection e with e; omega)

theorem below_own2 {w w1 w2 : World} {base : Nat} {e : TypeId} {v : Value} {n : Nat} {xs : List Value} (hb : Below base w w1) (ho : w1.ownsRow base e 1 v n xs) (hg : w1.grownBy w2 v.ownBlock) (hB : base ≤ w1.heap.size) : Below base w w2 :=
  hb.grown hg hB fun k hk => (ho.lt k hk).1

set_option maxRecDepth 100000 in
set_option maxHeartbeats 3200000 in
theorem specWrite_calls (A : Option Addr) (cm : Nat) (m : List (List Int)) (n s a : Nat) (l c : Int) (LA : Option Addr) (lc : Nat) (xs : List Int) (w : World) (hr : Rd2 w w.heap.size A m) (hok : MemOK m) (hn : n < m.length) (hi : s + a + xs.length ≤ m[n].length) (hl : Rd w w.heap.size LA (intV .u8 xs)) :
    Calls Try.prog 116 #[.agg #[.slice A m.length cm], .agg #[.int .i64 n, .int .i64 s, .int .i64 l, .int .i64 c], .int .i64 a, .slice LA xs.length lc] w fun e w' => ∃ v, e = .returned (.agg #[v]) ∧ OwnM w' w.heap.size w'.heap.size v (m.set n (over m[n] (s + a) xs)) ∧ Below w.heap.size w w' := by
  obtain ⟨w0, hw0, hb0, hz0, hmw⟩ := enterMWM A m.length cm n s l c w
  have HC := Lib.hid (specOwn_calls A cm m w0 ((hr.below hb0).more hb0.size) hok)
  have HB := Lib.hid hb0
  have HW := Lib.hid hw0
  have HMW := Lib.hid hmw
  have HL := Lib.hid hl
  have h16 := hok.1
  have h64 := (hok.2 m[n] (List.getElem_mem hn)).2
  have h1 := (hok.2 m[n] (List.getElem_mem hn)).1
  have hwa : IntKind.i64.wrap ((s : Int) + a) = s + a := by simp [IntKind.wrap, IntKind.bits, IntKind.signed]; omega
  clear hr hb0 hmw hw0 hok hl
  go_enter Try.func116, Try.ntmps116
  go_wp2_with fail
  rw [HW.out]
  refine HC.out.mono ?_
  rintro e w2 ⟨v, rfl, ho, hb2⟩
  obtain ⟨Av, cv, rfl, hcv⟩ := ho.form
  have HB2 := Lib.hid (HB.out.trans (hb2.mono HB.out.size))
  have hmw2 := HMW.out.below hb2
  obtain ⟨gb, g, cap, rfl, hgb, hg1, hg2, hg3, hg4, hrow, hcap1, hcap2, hcells, hfr, hro, hset⟩ := ho.row_at hn h1
  obtain ⟨w3, hw3⟩ : ∃ w3, w2.alloc (.cells #[.slice (some ⟨gb, 0, none⟩) m.length cv] 31) = w3 := ⟨_, rfl⟩
  have hb3 : Below w2.heap.size w2 w3 := by rw [← hw3]; exact (Below.refl _ _).alloc (Nat.le_refl _) _
  have HX3 := Lib.hid (show w3.heap[w2.heap.size]? = some (.cells #[.slice (some ⟨gb, 0, none⟩) m.length cv] 31) by rw [← hw3]; exact heap_alloc_new _ _)
  have hmw3 := hmw2.below hb3
  have HMW3 := Lib.hid hmw3
  have HB3 := Lib.hid (HB2.out.trans (hb3.mono HB2.out.size))
  have HW3 := Lib.hid hw3
  have HG3 := Lib.hid (grown_of_below hb3 (some g))
  have HRO := Lib.hid (own_below hro hb3)
  have HRW := Lib.hid ((hb3.cell (p := ⟨gb, n, none⟩) hg3).trans hrow)
  have HSE := Lib.hid hset
  have HS3 := Lib.hid (show w2.heap.size + 1 = w3.heap.size by rw [← hw3]; simp)
  have hlo : w.heap.size + 3 ≤ g := by omega
  clear ho hb2 hmw2 hmw3 hw3 hb3 hrow hcells hfr hset hcv hro
  go_upto_region 2 with fail
  rw [HW3.out]
  go_wp2_with fail
  go_loopw [10] (fun i wr => ∃ k : Nat, k ≤ xs.length ∧ i = .int .i64 k ∧ wr.ownsRow w0.heap.size 5 1 (.slice (some ⟨g, 0, none⟩) m[n].length cap) m[n].length (intV .u8 (over m[n] (s + a) (xs.take k))) ∧ w3.grownBy wr (some g)) (fun i _ => xs.length - (intOf i).toNat)
  case atStart => exact ⟨0, Nat.zero_le _, rfl, by rw [List.take_zero, over_nil]; exact HRO.out, World.grownBy.refl _ _⟩
  case round =>
    obtain ⟨k, hk, rfl, hown, hg⟩ := hrel
    obtain ⟨d0, d1, d2, d3⟩ := four_cells (grown_block hg HMW3.out.mw.win (by omega))
    have x0 := one_cell (grown_block hg HX3.out (by omega))
    by_cases hlt : k < xs.length
    · have htl : (xs.take k).length = k := by simp; omega
      have hpk : s + a + k < m[n].length := by omega
      obtain ⟨bl, ol, rfl, hbl, hcl⟩ := HL.out.int hlt
      have e0 : wr.cell? ⟨bl, ol + k, none⟩ = some (.int .u8 xs[k]) := grown_cell hg ((HB3.out.cell (p := ⟨bl, ol + k, none⟩) hbl).trans hcl) (by simp; omega)
      have y0 : wr.cell? ⟨gb, n, none⟩ = some (.slice (some ⟨g, 0, none⟩) m[n].length cap) := grown_cell hg HRW.out hgb
      have hst := hown.stored (s + a + k) (.int .u8 xs[k])
      have hov := over_step (r := m[n]) (p := s + a) (ys := xs.take k) (z := xs[k]) (by rw [htl]; exact hpk)
      rw [htl, ← List.take_succ_eq_append_getElem hlt] at hov
      rw [intV_set, hov] at hst
      have HST := Lib.hid hst.1
      have HGT := Lib.hid (hg.trans hst.2)
      have hlo2 : s + a + k < (intV .u8 (over m[n] (s + a) (xs.take k))).length := by rw [intV_len, over_len (by rw [htl]; omega)]; exact hpk
      obtain ⟨u, z0⟩ : ∃ u, wr.drew.cell? ⟨g, s + a + k, none⟩ = some u := ⟨_, by rw [show wr.drew.cell? ⟨g, s + a + k, none⟩ = wr.cell? ⟨g, s + a + k, none⟩ from rfl, hown.cellAt (s + a + k) (by omega), List.getElem?_eq_getElem hlo2]⟩
      have f0 : wr.drew.frozen? ⟨g, s + a + k, none⟩ = false := hown.frozenAt _
      have hwk : IntKind.i64.wrap ((s : Int) + a + k) = s + a + k := by simp [IntKind.wrap, IntKind.bits, IntKind.signed]; omega
      have hi0 : (0 : Int) ≤ (s : Int) + a + k := by omega
      have hi1 : (s : Int) + a + k < m[n].length := by omega
      have hti : ((s : Int) + a + k).toNat = s + a + k := by omega
      have hk0 : (0 : Int) ≤ (k : Int) := by omega
      have hk1 : (k : Int) < xs.length := by omega
      have hblg : bl ≠ g := by omega
      have hgw : w2.heap.size ≠ g := by omega
      clear hown hg hst hov hcl hlo2
      generalize xs[k] = q at *
      go_wp2_with fail
      go_region_held3 (fun W => W.cell? ⟨w2.heap.size, 0, none⟩ = some (.slice (some ⟨gb, 0, none⟩) m.length cv) ∧ W.cell? ⟨w.heap.size + 1, 0, none⟩ = some (.int .i64 n) ∧ W.cell? ⟨w.heap.size + 1, 1, none⟩ = some (.int .i64 s) ∧ W.cell? ⟨gb, n, none⟩ = some (.slice (some ⟨g, 0, none⟩) m[n].length cap) ∧ W.cell? ⟨bl, ol + k, none⟩ = some (.int .u8 q))
        (first | exact ⟨x0, d0, d1, y0, e0⟩ | exact ⟨(World.cell?_setCell_other _ _ _ _ (by first | (simp; done) | (simp; omega))).trans x0, (World.cell?_setCell_other _ _ _ _ (by first | (simp; done) | (simp; omega))).trans d0, (World.cell?_setCell_other _ _ _ _ (by first | (simp; done) | (simp; omega))).trans d1, (World.cell?_setCell_other _ _ _ _ (by first | (simp; done) | (simp; omega))).trans y0, (World.cell?_setCell_other _ _ _ _ (by first | (simp; done) | (simp; omega))).trans e0⟩) (fail)
      go_wp2_with fail
      go_roundw
      case rel => exact ⟨k + 1, by omega, by go_num, HST.out, ⟨HGT.out.os, HGT.out.tape, HGT.out.output, HGT.out.size, HGT.out.block⟩⟩
      case measure => simp [intOf]; omega
    · obtain rfl : k = xs.length := by omega
      rw [List.take_length] at hown
      have HOM := Lib.hid (HSE.out wr _ (over_len (by omega)) hown (HG3.out.trans hg))
      have HBR := Lib.hid (grown_below HB3.out HB3.out.size hg (by omega))
      have hres := grown_block hg HMW3.out.res (by omega)
      have r0 := one_cell hres
      have rf := one_frozen hres
      have HSZ := Lib.hid hg.size
      clear hown hg hres
      go_wp2_with fail
      refine bodyPost_ret (v := .agg #[.slice (some ⟨gb, 0, none⟩) m.length cv]) (by simp [results, Try.results116, go_sem, r0]) rfl ⟨_, rfl, ?_, by (repeat (first | (with_reducible exact Below.refl _ _) | (with_reducible refine Below.drew ?_) | ((with_reducible refine Below.alloc ?_ ?hB _); case hB => (first | (with_reducible exact Nat.le_refl _) | omega | (simp; done) | (simp; omega))) | ((with_reducible refine Below.setCell ?_ ?hB _); case hB => (first | (with_reducible exact Nat.le_refl _) | omega | (simp; done) | (simp; omega))))); exact HBR.out⟩
      rw [World.size_setCell]
      refine (own_setCell HOM.out (.inl (by omega))).mono (by omega) ?_
      have h1 := HSZ.out
      have h2 := HS3.out
      omega
end Go.Proofs.Ytoelagfcapdfpaa
