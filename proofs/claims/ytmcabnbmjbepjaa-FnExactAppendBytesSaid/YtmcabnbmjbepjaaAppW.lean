/-
  AppendWindow of spec and impl.
-/
import Derived.Test.YtmcabnbmjbepjaaAppI
import Derived.Test.YtmcabnbmjbepjaaApart
namespace Go.Proofs.Ytmcabnbmjbepjaa
open Go.RowKit

/-- A memory, two windows and the answer's two blocks, as a function has them. -/
structure MW2MW (W : World) (g : Nat) (A : Option Addr) (n c : Nat) (x y : Win) : Prop where
  mw : MW2 W g A n c x y
  resM : W.heap[g + 1 + 1 + 1]? = some (.cells #[.slice none 0 0] 29)
  resW : W.heap[g + 1 + 1 + 1 + 1]? = some (.cells #[.int .i64 0, .int .i64 0, .int .i64 0, .int .i64 0] 30)
theorem MW2MW.below {W W' : World} {g : Nat} {A : Option Addr} {n c : Nat} {x y : Win} (h : MW2MW W g A n c x y) (hb : Below W.heap.size W W') : MW2MW W' g A n c x y :=
  ⟨h.mw.below hb, (hb.block _ (Array.getElem?_eq_some_iff.1 h.resM).1).trans h.resM, (hb.block _ (Array.getElem?_eq_some_iff.1 h.resW).1).trans h.resW⟩
theorem enterMW2MW (A : Option Addr) (n c : Nat) (x y : Win) (w : World) :
    ∃ w0, ((((w.alloc (.cells #[.slice A n c] 29)).alloc (.cells #[.int .i64 x.arr, .int .i64 x.start, .int .i64 x.len, .int .i64 x.cap] 30)).alloc (.cells #[.int .i64 y.arr, .int .i64 y.start, .int .i64 y.len, .int .i64 y.cap] 30)).alloc (.cells #[.slice none 0 0] 29)).alloc (.cells #[.int .i64 0, .int .i64 0, .int .i64 0, .int .i64 0] 30) = w0 ∧ Below w.heap.size w w0 ∧ w0.heap.size = w.heap.size + 5 ∧ MW2MW w0 w.heap.size A n c x y := by
  obtain ⟨w1, hw1, hb1, hz1, hmw⟩ := enterMW2 A n c x y w
  refine ⟨_, rfl, ?_, ?_, ?_⟩ <;> rw [hw1]
  · exact (hb1.alloc hb1.size _).alloc (Nat.le_trans hb1.size (by simp)) _
  · simp; omega
  · refine ⟨hmw.below (((Below.refl _ _).alloc (Nat.le_refl _) _).alloc (by simp) _), alloc_old _ (heap_alloc_at (by omega)), heap_alloc_at (by simp; omega)⟩

/-- What AppendWindow answers. -/
def appendWR (m : List (List Int)) (x y : Win) : List (List Int) × Win × Bool :=
  if WinOK m x ∧ WinOK m y then appR m x.arr.toNat x.start.toNat x.len.toNat x.cap.toNat (wb m y.arr.toNat y.start.toNat y.len.toNat) else ([], ⟨0, 0, 0, 0⟩, false)
theorem appendWR_small (m : List (List Int)) (x y : Win) : Small (appendWR m x y).1 := by
  unfold appendWR
  split
  · rename_i h
    obtain ⟨n, s, l, c, rfl, hnl, hlc, hsc, h1, h64, h16⟩ := h.1.nat
    simp only [Int.toNat_natCast]
    exact appR_small h.1.1 hnl hlc hsc
  · exact ⟨by simp, fun r hr => by simp at hr⟩

set_option maxRecDepth 100000 in
set_option maxHeartbeats 6400000 in
theorem implAppendWindow_calls (A : Option Addr) (cm : Nat) (m : List (List Int)) (x y : Win) (w : World) (hr : Rd2 w w.heap.size A m) (hn : m.length ≤ maxLen) (hx : WArg x) (hy : WArg y) :
    Calls Try.prog 62 #[.agg #[.slice A m.length cm], .agg #[.int .i64 x.arr, .int .i64 x.start, .int .i64 x.len, .int .i64 x.cap], .agg #[.int .i64 y.arr, .int .i64 y.start, .int .i64 y.len, .int .i64 y.cap]] w fun e w' => ∃ v, e = .returned (.tuple #[.agg #[v], .agg #[.int .i64 (appendWR m x y).2.1.arr, .int .i64 (appendWR m x y).2.1.start, .int .i64 (appendWR m x y).2.1.len, .int .i64 (appendWR m x y).2.1.cap], .bool (appendWR m x y).2.2]) ∧ OwnM w' w.heap.size w'.heap.size v (appendWR m x y).1 ∧ Below w.heap.size w w' := by
  obtain ⟨w0, hw0, hb0, hz0, hmw⟩ := enterMW2MW A m.length cm x y w
  have HC := Lib.hid (areTwo_calls A cm m x y w0 ((hr.below hb0).more hb0.size) hn hx hy (w.heap.size + 1 + 1 + 1 + 1 + 1) (by omega))
  have HB := Lib.hid hb0
  have HR := Lib.hid hr
  have HW := Lib.hid hw0
  have HMW := Lib.hid hmw
  have HX := Lib.hid hx
  have hrb := run_win2
  clear hr hb0 hmw hw0
  go_enter Try.func62, Try.ntmps62
  go_wp2_with fail
  rw [HW.out]
  clear hrb
  refine HC.out.mono ?_
  rintro e w2 ⟨rfl, hb2⟩
  have HB2 := Lib.hid (HB.out.trans (hb2.mono HB.out.size))
  have HMW2 := Lib.hid (HMW.out.below hb2)
  have hs02 := hb2.size
  have hs0 := HB.out.size
  clear hb2
  by_cases hm : WinOK m x ∧ WinOK m y
  · rw [show decide (WinOK m x ∧ WinOK m y) = true from decide_eq_true hm]
    have HOK := Lib.hid hm.1.1
    obtain ⟨n, s, l, c, rfl, hnl, hlc, hsc, h1, h64, h16⟩ := hm.1.nat
    obtain ⟨n2, s2, l2, c2, rfl, hnl2, hlc2, hsc2, h12, h642, h162⟩ := hm.2.nat
    have HLEN := Lib.hid (show (wb m n2 s2 l2).length = l2 from wb_len hnl2 (by omega))
    obtain ⟨R, p, b, hre⟩ : ∃ (R : List (List Int)) (p : Win) (b : Bool), appR m n s l c (wb m n2 s2 l2) = (R, p, b) := ⟨_, _, _, rfl⟩
    have HRE : Hid (appendR m ⟨n, s, l, c⟩ (wb m n2 s2 l2) = (R, p, b)) := Lib.hid (by rw [appendR, if_pos hm.1]; simp only [Int.toNat_natCast]; exact hre)
    have HRE2 := Lib.hid hre
    have HV : Hid (appendWR m ⟨n, s, l, c⟩ ⟨n2, s2, l2, c2⟩ = (R, p, b)) := Lib.hid (by rw [appendWR, if_pos hm]; simp only [Int.toNat_natCast]; exact hre)
    clear hm hre
    dsimp only at *
    have HS2 := Lib.hid (fun W (hb : Below w2.heap.size w2 W) => seenR_calls A cm m n2 s2 l2 c2 W ((HR.out.below (HB2.out.trans (hb.mono HB2.out.size))).more (Nat.le_trans HB2.out.size hb.size)) hnl2 h16 hlc2 hsc2 h12 h642)
    have HAB : Hid (∀ W, Below w2.heap.size w2 W → ∀ LA lc, Rd W W.heap.size LA (intV .u8 (wb m n2 s2 l2)) → Calls Try.prog 17 #[.agg #[.slice A m.length cm], .agg #[.int .i64 n, .int .i64 s, .int .i64 l, .int .i64 c], .slice LA l2 lc] W fun e w' => ∃ v, e = .returned (.tuple #[.agg #[v], .agg #[.int .i64 p.arr, .int .i64 p.start, .int .i64 p.len, .int .i64 p.cap], .bool b]) ∧ OwnM w' W.heap.size w'.heap.size v R ∧ Below W.heap.size W w') := Lib.hid fun W hb LA lc hrd => by
      have h := implAppendBytes_calls A cm m ⟨n, s, l, c⟩ LA lc (wb m n2 s2 l2) W ((HR.out.below (HB2.out.trans (hb.mono HB2.out.size))).more (Nat.le_trans HB2.out.size hb.size)) hn HX.out (by rw [HLEN.out]; omega) hrd
      rw [HLEN.out, HRE.out] at h
      exact h
    have HA2 : Hid (∀ W, Below w2.heap.size w2 W → W.cell? ⟨w.heap.size, 0, none⟩ = some (.slice A m.length cm) ∧ W.cell? ⟨w.heap.size + 1, 0, none⟩ = some (.int .i64 n) ∧ W.cell? ⟨w.heap.size + 1, 1, none⟩ = some (.int .i64 s) ∧ W.cell? ⟨w.heap.size + 1, 2, none⟩ = some (.int .i64 l) ∧ W.cell? ⟨w.heap.size + 1, 3, none⟩ = some (.int .i64 c) ∧ W.cell? ⟨w.heap.size + 1 + 1, 0, none⟩ = some (.int .i64 n2) ∧ W.cell? ⟨w.heap.size + 1 + 1, 1, none⟩ = some (.int .i64 s2) ∧ W.cell? ⟨w.heap.size + 1 + 1, 2, none⟩ = some (.int .i64 l2) ∧ W.cell? ⟨w.heap.size + 1 + 1, 3, none⟩ = some (.int .i64 c2)) := Lib.hid fun W hb => by
      have h := HMW2.out.below hb
      obtain ⟨d0, d1, d2, d3⟩ := four_cells h.mw.win
      obtain ⟨e0, e1, e2, e3⟩ := four_cells h.mw.win2
      exact ⟨one_cell h.mw.mem, d0, d1, d2, d3, e0, e1, e2, e3⟩
    have hc0 := (Below.refl w2.heap.size w2).drew
    go_upto_region 3 with fail
    obtain ⟨c1, d0, d1, d2, d3, e0, e1, e2, e3⟩ := HA2.out w2.drew hc0
    go_region_held3 (fun W => W.cell? ⟨w.heap.size, 0, none⟩ = some (.slice A m.length cm) ∧ W.cell? ⟨w.heap.size + 1, 0, none⟩ = some (.int .i64 n) ∧ W.cell? ⟨w.heap.size + 1, 1, none⟩ = some (.int .i64 s) ∧ W.cell? ⟨w.heap.size + 1, 2, none⟩ = some (.int .i64 l) ∧ W.cell? ⟨w.heap.size + 1, 3, none⟩ = some (.int .i64 c) ∧ W.cell? ⟨w.heap.size + 1 + 1, 0, none⟩ = some (.int .i64 n2) ∧ W.cell? ⟨w.heap.size + 1 + 1, 1, none⟩ = some (.int .i64 s2) ∧ W.cell? ⟨w.heap.size + 1 + 1, 2, none⟩ = some (.int .i64 l2) ∧ W.cell? ⟨w.heap.size + 1 + 1, 3, none⟩ = some (.int .i64 c2))
      (first | (with_reducible exact ⟨c1, d0, d1, d2, d3, e0, e1, e2, e3⟩) | (with_reducible exact HA2.out _ hc3) | (with_reducible exact HA2.out _ hc4) | (have h5 := HA2.out _ hc4; (with_reducible exact ⟨kd1 h5.1 (by omega), kd1 h5.2.1 (by omega), kd1 h5.2.2.1 (by omega), kd1 h5.2.2.2.1 (by omega), kd1 h5.2.2.2.2.1 (by omega), kd1 h5.2.2.2.2.2.1 (by omega), kd1 h5.2.2.2.2.2.2.1 (by omega), kd1 h5.2.2.2.2.2.2.2.1 (by omega), kd1 h5.2.2.2.2.2.2.2.2 (by omega)⟩)) | (have h5 := HA2.out _ hc4; (with_reducible exact ⟨kc1 h5.1 (by omega), kc1 h5.2.1 (by omega), kc1 h5.2.2.1 (by omega), kc1 h5.2.2.2.1 (by omega), kc1 h5.2.2.2.2.1 (by omega), kc1 h5.2.2.2.2.2.1 (by omega), kc1 h5.2.2.2.2.2.2.1 (by omega), kc1 h5.2.2.2.2.2.2.2.1 (by omega), kc1 h5.2.2.2.2.2.2.2.2 (by omega)⟩)) | (have h5 := HA2.out _ hc4; (with_reducible exact ⟨kc5 h5.1 (by omega) (by omega), kc5 h5.2.1 (by omega) (by omega), kc5 h5.2.2.1 (by omega) (by omega), kc5 h5.2.2.2.1 (by omega) (by omega), kc5 h5.2.2.2.2.1 (by omega) (by omega), kc5 h5.2.2.2.2.2.1 (by omega) (by omega), kc5 h5.2.2.2.2.2.2.1 (by omega) (by omega), kc5 h5.2.2.2.2.2.2.2.1 (by omega) (by omega), kc5 h5.2.2.2.2.2.2.2.2 (by omega) (by omega)⟩)))
      (first | (go_at_call 117; refine (HS2.out _ hc0).mono ?_; rintro e w3 ⟨⟨⟨b3, o3, p3⟩, _, hsp3, rfl, hrd⟩, hb3⟩; obtain rfl : p3 = none := hsp3; have hc3 := hc0.trans hb3; have hrd3 := (hrd.below hb3).more hb3.size) | (go_at_call 17; refine (HAB.out _ hc3 _ _ hrd3).mono ?_; rintro e w4 ⟨v, rfl, ho, hb4⟩; obtain ⟨Av, cv, rfl, hcv⟩ := ho.form; have hc4 := hc3.trans (hb4.mono hc3.size); have HO4 := Lib.hid (show OwnM w4 w3.heap.size w4.heap.size (.slice Av R.length cv) R from ho); have HMW4 := Lib.hid (HMW2.out.below hc4); have r0 := one_cell HMW4.out.resM; have rf := one_frozen HMW4.out.resM; have qq := four_cells HMW4.out.resW; obtain ⟨q0, q1, q2, q3⟩ := qq; have ff := oneM HMW4.out.resW; obtain ⟨f0, f1, f2, f3⟩ := ff))
    have HB4 := Lib.hid (HB2.out.trans (hc4.mono HB2.out.size))
    have hs3 : w2.heap.size ≤ w3.heap.size := hc3.size
    have hs4 : w2.heap.size ≤ w4.heap.size := hc4.size
    clear hb3 hb4 hc3 hc4 ho
    go_wp2_with fail
    refine bodyPost_ret (v := .tuple #[.agg #[.slice Av R.length cv], .agg #[.int .i64 p.arr, .int .i64 p.start, .int .i64 p.len, .int .i64 p.cap], .bool b]) (by simp [results, Try.results62, go_sem, r0, q0, q1, q2, q3]) rfl ⟨_, by rw [HV.out], ?_, by (repeat (first | (with_reducible exact Below.refl _ _) | (with_reducible refine Below.drew ?_) | ((with_reducible refine Below.alloc ?_ ?hB _); case hB => (first | (with_reducible exact Nat.le_refl _) | omega | (simp; done) | (simp; omega))) | ((with_reducible refine Below.setCell ?_ ?hB _); case hB => (first | (with_reducible exact Nat.le_refl _) | omega | (simp; done) | (simp; omega))))); exact HB4.out⟩
    rw [HV.out]
    with_reducible exact own_fin5c HO4.out (by omega) (by omega) (by omega)
  · rw [show decide (WinOK m x ∧ WinOK m y) = false from decide_eq_false hm]
    have HV : Hid (appendWR m x y = ([], ⟨0, 0, 0, 0⟩, false)) := Lib.hid (by rw [appendWR, if_neg hm])
    have c1 := one_cell HMW2.out.mw.mem
    have r0 := one_cell HMW2.out.resM
    have rf := one_frozen HMW2.out.resM
    obtain ⟨q0, q1, q2, q3⟩ := four_cells HMW2.out.resW
    obtain ⟨f0, f1, f2, f3⟩ := oneM HMW2.out.resW
    clear hm
    go_wp2_with fail
    refine bodyPost_ret (v := .tuple #[.agg #[.slice none 0 0], .agg #[.int .i64 0, .int .i64 0, .int .i64 0, .int .i64 0], .bool false]) (by simp [results, Try.results62, go_sem, r0, q0, q1, q2, q3]) rfl ⟨_, by rw [HV.out], by rw [HV.out]; exact own_none _ _ _, by (repeat (first | (with_reducible exact Below.refl _ _) | (with_reducible refine Below.drew ?_) | ((with_reducible refine Below.alloc ?_ ?hB _); case hB => (first | (with_reducible exact Nat.le_refl _) | omega | (simp; done) | (simp; omega))) | ((with_reducible refine Below.setCell ?_ ?hB _); case hB => (first | (with_reducible exact Nat.le_refl _) | omega | (simp; done) | (simp; omega))))); exact HB2.out⟩

set_option maxRecDepth 100000 in
set_option maxHeartbeats 6400000 in
theorem specAppendWindow_calls (A : Option Addr) (cm : Nat) (m : List (List Int)) (x y : Win) (w : World) (hr : Rd2 w w.heap.size A m) (hn : m.length ≤ maxLen) :
    Calls Try.prog 63 #[.agg #[.slice A m.length cm], .agg #[.int .i64 x.arr, .int .i64 x.start, .int .i64 x.len, .int .i64 x.cap], .agg #[.int .i64 y.arr, .int .i64 y.start, .int .i64 y.len, .int .i64 y.cap]] w fun e w' => ∃ v, e = .returned (.tuple #[.agg #[v], .agg #[.int .i64 (appendWR m x y).2.1.arr, .int .i64 (appendWR m x y).2.1.start, .int .i64 (appendWR m x y).2.1.len, .int .i64 (appendWR m x y).2.1.cap], .bool (appendWR m x y).2.2]) ∧ OwnM w' w.heap.size w'.heap.size v (appendWR m x y).1 ∧ Below w.heap.size w w' := by
  obtain ⟨w0, hw0, hb0, hz0, hmw⟩ := enterMW2MW A m.length cm x y w
  have HC := Lib.hid (specBoth_calls A cm m x y w0 ((hr.below hb0).more hb0.size) hn)
  have HB := Lib.hid hb0
  have HR := Lib.hid hr
  have HW := Lib.hid hw0
  have HMW := Lib.hid hmw
  clear hr hb0 hmw hw0
  go_enter Try.func63, Try.ntmps63
  go_wp2_with fail
  rw [HW.out]
  refine HC.out.mono ?_
  rintro e w2 ⟨rfl, hb2⟩
  have HB2 := Lib.hid (HB.out.trans (hb2.mono HB.out.size))
  have HMW2 := Lib.hid (HMW.out.below hb2)
  have hs02 := hb2.size
  have hs0 := HB.out.size
  clear hb2
  by_cases hm : WinOK m x ∧ WinOK m y
  · rw [show decide (WinOK m x ∧ WinOK m y) = true from decide_eq_true hm]
    have HOK := Lib.hid hm.1.1
    obtain ⟨n, s, l, c, rfl, hnl, hlc, hsc, h1, h64, h16⟩ := hm.1.nat
    obtain ⟨n2, s2, l2, c2, rfl, hnl2, hlc2, hsc2, h12, h642, h162⟩ := hm.2.nat
    have HLEN := Lib.hid (show (wb m n2 s2 l2).length = l2 from wb_len hnl2 (by omega))
    obtain ⟨R, p, b, hre⟩ : ∃ (R : List (List Int)) (p : Win) (b : Bool), appR m n s l c (wb m n2 s2 l2) = (R, p, b) := ⟨_, _, _, rfl⟩
    have HRE : Hid (appendR m ⟨n, s, l, c⟩ (wb m n2 s2 l2) = (R, p, b)) := Lib.hid (by rw [appendR, if_pos hm.1]; simp only [Int.toNat_natCast]; exact hre)
    have HRE2 := Lib.hid hre
    have HV : Hid (appendWR m ⟨n, s, l, c⟩ ⟨n2, s2, l2, c2⟩ = (R, p, b)) := Lib.hid (by rw [appendWR, if_pos hm]; simp only [Int.toNat_natCast]; exact hre)
    clear hm hre
    dsimp only at *
    have HS2 := Lib.hid (fun W (hb : Below w2.heap.size w2 W) => specBytes_calls A cm m n2 s2 l2 c2 W ((HR.out.below (HB2.out.trans (hb.mono HB2.out.size))).more (Nat.le_trans HB2.out.size hb.size)) hnl2 h16 (by omega) h642)
    have HAB : Hid (∀ W, Below w2.heap.size w2 W → ∀ LA lc, l2 ≤ lc → Rd W W.heap.size LA (intV .u8 (wb m n2 s2 l2)) → Calls Try.prog 113 #[.agg #[.slice A m.length cm], .agg #[.int .i64 n, .int .i64 s, .int .i64 l, .int .i64 c], .slice LA l2 lc] W fun e w' => ∃ v, e = .returned (.tuple #[.agg #[v], .agg #[.int .i64 p.arr, .int .i64 p.start, .int .i64 p.len, .int .i64 p.cap], .bool b]) ∧ OwnM w' W.heap.size w'.heap.size v R ∧ Below W.heap.size W w') := Lib.hid fun W hb LA lc hlc' hrd => by
      have h := specAppend_calls A cm m n s l c LA lc (wb m n2 s2 l2) W ((HR.out.below (HB2.out.trans (hb.mono HB2.out.size))).more (Nat.le_trans HB2.out.size hb.size)) HOK.out hnl hlc hsc (by rw [HLEN.out]; omega) (by rw [HLEN.out]; exact hlc') hrd
      rw [HLEN.out, HRE2.out] at h
      exact h
    have HA2 : Hid (∀ W, Below w2.heap.size w2 W → W.cell? ⟨w.heap.size, 0, none⟩ = some (.slice A m.length cm) ∧ W.cell? ⟨w.heap.size + 1, 0, none⟩ = some (.int .i64 n) ∧ W.cell? ⟨w.heap.size + 1, 1, none⟩ = some (.int .i64 s) ∧ W.cell? ⟨w.heap.size + 1, 2, none⟩ = some (.int .i64 l) ∧ W.cell? ⟨w.heap.size + 1, 3, none⟩ = some (.int .i64 c) ∧ W.cell? ⟨w.heap.size + 1 + 1, 0, none⟩ = some (.int .i64 n2) ∧ W.cell? ⟨w.heap.size + 1 + 1, 1, none⟩ = some (.int .i64 s2) ∧ W.cell? ⟨w.heap.size + 1 + 1, 2, none⟩ = some (.int .i64 l2) ∧ W.cell? ⟨w.heap.size + 1 + 1, 3, none⟩ = some (.int .i64 c2)) := Lib.hid fun W hb => by
      have h := HMW2.out.below hb
      obtain ⟨d0, d1, d2, d3⟩ := four_cells h.mw.win
      obtain ⟨e0, e1, e2, e3⟩ := four_cells h.mw.win2
      exact ⟨one_cell h.mw.mem, d0, d1, d2, d3, e0, e1, e2, e3⟩
    have hc0 := (Below.refl w2.heap.size w2).drew
    go_upto_region 3 with fail
    obtain ⟨c1, d0, d1, d2, d3, e0, e1, e2, e3⟩ := HA2.out w2.drew hc0
    go_region_held3 (fun W => W.cell? ⟨w.heap.size, 0, none⟩ = some (.slice A m.length cm) ∧ W.cell? ⟨w.heap.size + 1, 0, none⟩ = some (.int .i64 n) ∧ W.cell? ⟨w.heap.size + 1, 1, none⟩ = some (.int .i64 s) ∧ W.cell? ⟨w.heap.size + 1, 2, none⟩ = some (.int .i64 l) ∧ W.cell? ⟨w.heap.size + 1, 3, none⟩ = some (.int .i64 c) ∧ W.cell? ⟨w.heap.size + 1 + 1, 0, none⟩ = some (.int .i64 n2) ∧ W.cell? ⟨w.heap.size + 1 + 1, 1, none⟩ = some (.int .i64 s2) ∧ W.cell? ⟨w.heap.size + 1 + 1, 2, none⟩ = some (.int .i64 l2) ∧ W.cell? ⟨w.heap.size + 1 + 1, 3, none⟩ = some (.int .i64 c2))
      (first | (with_reducible exact ⟨c1, d0, d1, d2, d3, e0, e1, e2, e3⟩) | (with_reducible exact HA2.out _ hc3) | (with_reducible exact HA2.out _ hc4) | (have h5 := HA2.out _ hc4; (with_reducible exact ⟨kd1 h5.1 (by omega), kd1 h5.2.1 (by omega), kd1 h5.2.2.1 (by omega), kd1 h5.2.2.2.1 (by omega), kd1 h5.2.2.2.2.1 (by omega), kd1 h5.2.2.2.2.2.1 (by omega), kd1 h5.2.2.2.2.2.2.1 (by omega), kd1 h5.2.2.2.2.2.2.2.1 (by omega), kd1 h5.2.2.2.2.2.2.2.2 (by omega)⟩)) | (have h5 := HA2.out _ hc4; (with_reducible exact ⟨kc1 h5.1 (by omega), kc1 h5.2.1 (by omega), kc1 h5.2.2.1 (by omega), kc1 h5.2.2.2.1 (by omega), kc1 h5.2.2.2.2.1 (by omega), kc1 h5.2.2.2.2.2.1 (by omega), kc1 h5.2.2.2.2.2.2.1 (by omega), kc1 h5.2.2.2.2.2.2.2.1 (by omega), kc1 h5.2.2.2.2.2.2.2.2 (by omega)⟩)) | (have h5 := HA2.out _ hc4; (with_reducible exact ⟨kc5 h5.1 (by omega) (by omega), kc5 h5.2.1 (by omega) (by omega), kc5 h5.2.2.1 (by omega) (by omega), kc5 h5.2.2.2.1 (by omega) (by omega), kc5 h5.2.2.2.2.1 (by omega) (by omega), kc5 h5.2.2.2.2.2.1 (by omega) (by omega), kc5 h5.2.2.2.2.2.2.1 (by omega) (by omega), kc5 h5.2.2.2.2.2.2.2.1 (by omega) (by omega), kc5 h5.2.2.2.2.2.2.2.2 (by omega) (by omega)⟩)))
      (first | (go_at_call 145; refine (HS2.out _ hc0).mono ?_; rintro e w3 ⟨g3, k3, rfl, ho3, hb3⟩; have hc3 := hc0.trans hb3; have hrd3 := Rd.of_own ho3; have hkc3 := own_cap ho3) | (go_at_call 113; refine (HAB.out _ hc3 _ _ hkc3 hrd3).mono ?_; rintro e w4 ⟨v, rfl, ho, hb4⟩; obtain ⟨Av, cv, rfl, hcv⟩ := ho.form; have hc4 := hc3.trans (hb4.mono hc3.size); have HO4 := Lib.hid (show OwnM w4 w3.heap.size w4.heap.size (.slice Av R.length cv) R from ho); have HMW4 := Lib.hid (HMW2.out.below hc4); have r0 := one_cell HMW4.out.resM; have rf := one_frozen HMW4.out.resM; have qq := four_cells HMW4.out.resW; obtain ⟨q0, q1, q2, q3⟩ := qq; have ff := oneM HMW4.out.resW; obtain ⟨f0, f1, f2, f3⟩ := ff))
    have HB4 := Lib.hid (HB2.out.trans (hc4.mono HB2.out.size))
    have hs3 : w2.heap.size ≤ w3.heap.size := hc3.size
    have hs4 : w2.heap.size ≤ w4.heap.size := hc4.size
    clear hb3 hb4 hc3 hc4 ho
    go_wp2_with fail
    refine bodyPost_ret (v := .tuple #[.agg #[.slice Av R.length cv], .agg #[.int .i64 p.arr, .int .i64 p.start, .int .i64 p.len, .int .i64 p.cap], .bool b]) (by simp [results, Try.results63, go_sem, r0, q0, q1, q2, q3]) rfl ⟨_, by rw [HV.out], ?_, by (repeat (first | (with_reducible exact Below.refl _ _) | (with_reducible refine Below.drew ?_) | ((with_reducible refine Below.alloc ?_ ?hB _); case hB => (first | (with_reducible exact Nat.le_refl _) | omega | (simp; done) | (simp; omega))) | ((with_reducible refine Below.setCell ?_ ?hB _); case hB => (first | (with_reducible exact Nat.le_refl _) | omega | (simp; done) | (simp; omega))))); exact HB4.out⟩
    rw [HV.out]
    with_reducible exact own_fin5c HO4.out (by omega) (by omega) (by omega)
  · rw [show decide (WinOK m x ∧ WinOK m y) = false from decide_eq_false hm]
    have HV : Hid (appendWR m x y = ([], ⟨0, 0, 0, 0⟩, false)) := Lib.hid (by rw [appendWR, if_neg hm])
    have c1 := one_cell HMW2.out.mw.mem
    have r0 := one_cell HMW2.out.resM
    have rf := one_frozen HMW2.out.resM
    obtain ⟨q0, q1, q2, q3⟩ := four_cells HMW2.out.resW
    obtain ⟨f0, f1, f2, f3⟩ := oneM HMW2.out.resW
    clear hm
    go_wp2_with fail
    refine bodyPost_ret (v := .tuple #[.agg #[.slice none 0 0], .agg #[.int .i64 0, .int .i64 0, .int .i64 0, .int .i64 0], .bool false]) (by simp [results, Try.results63, go_sem, r0, q0, q1, q2, q3]) rfl ⟨_, by rw [HV.out], by rw [HV.out]; exact own_none _ _ _, by (repeat (first | (with_reducible exact Below.refl _ _) | (with_reducible refine Below.drew ?_) | ((with_reducible refine Below.alloc ?_ ?hB _); case hB => (first | (with_reducible exact Nat.le_refl _) | omega | (simp; done) | (simp; omega))) | ((with_reducible refine Below.setCell ?_ ?hB _); case hB => (first | (with_reducible exact Nat.le_refl _) | omega | (simp; done) | (simp; omega))))); exact HB2.out⟩
end Go.Proofs.Ytmcabnbmjbepjaa
