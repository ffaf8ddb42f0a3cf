/-
  l2Copy of spec, CopyInto of spec and impl.
-/
import Derived.Test.YtbdaaeffbhcflabCopyL
import Derived.Test.YtbdaaeffbhcflabApart
import Derived.Test.YtbdaaeffbhcflabBytes
import Derived.Test.YtbdaaeffbhcflabOpen
import Derived.Test.YtbdaaeffbhcflabBox2
namespace Go.Proofs.Ytbdaaeffbhcflab
open Go.RowKit

/-- A memory, two windows and the answer's block, a memory, as a function has them. -/
structure MW2M (W : World) (g : Nat) (A : Option Addr) (n c : Nat) (x y : Win) : Prop where
  mw : MW2 W g A n c x y
  res : W.heap[g + 1 + 1 + 1]? = some (.cells #[.slice none 0 0] 31)
theorem MW2M.below {W W' : World} {g : Nat} {A : Option Addr} {n c : Nat} {x y : Win} (h : MW2M W g A n c x y) (hb : Below W.heap.size W W') : MW2M W' g A n c x y :=
  ⟨h.mw.below hb, (hb.block _ (Array.getElem?_eq_some_iff.1 h.res).1).trans h.res⟩
theorem enterMW2M (A : Option Addr) (n c : Nat) (x y : Win) (w : World) :
    ∃ w0, (((w.alloc (.cells #[.slice A n c] 31)).alloc (.cells #[.int .i64 x.arr, .int .i64 x.start, .int .i64 x.len, .int .i64 x.cap] 28)).alloc (.cells #[.int .i64 y.arr, .int .i64 y.start, .int .i64 y.len, .int .i64 y.cap] 28)).alloc (.cells #[.slice none 0 0] 31) = w0 ∧ Below w.heap.size w w0 ∧ w0.heap.size = w.heap.size + 4 ∧ MW2M w0 w.heap.size A n c x y := by
  obtain ⟨w1, hw1, hb1, hz1, hmw⟩ := enterMW2 A n c x y w
  refine ⟨_, rfl, ?_, ?_, ?_⟩ <;> rw [hw1]
  · exact hb1.alloc hb1.size _
  · simp; omega
  · refine ⟨hmw.below ((Below.refl _ _).alloc (Nat.le_refl _) _), ?_⟩
    have := heap_alloc_new w1 (.cells #[.slice none 0 0] 31)
    rw [hz1] at this
    exact this

/-- How many bytes a copy brings. -/
def copyN (x y : Win) : Nat := min x.len.toNat y.len.toNat
/-- What CopyInto answers. -/
def copyR (m : List (List Int)) (x y : Win) : List (List Int) × Int × Bool :=
  if WinOK m x ∧ WinOK m y then (m.set x.arr.toNat (over (m.getD x.arr.toNat []) x.start.toNat (wb m y.arr.toNat y.start.toNat (copyN x y))), copyN x y, true) else ([], 0, false)
theorem copyR_small (m : List (List Int)) (x y : Win) : Small (copyR m x y).1 := by
  unfold copyR
  split
  · rename_i h
    obtain ⟨n, s, l, c, rfl, hnl, hlc, hsc, h1, h64, h16⟩ := h.1.nat
    obtain ⟨n2, s2, l2, c2, rfl, hnl2, hlc2, hsc2, h12, h642, h162⟩ := h.2.nat
    simp only [Int.toNat_natCast, getD_eq hnl, copyN]
    exact small_set h.1.1 (by rw [over_len (by rw [wb_len hnl2 (by omega)]; omega)]; exact h64)
  · exact ⟨by simp, fun r hr => by simp at hr⟩

set_option maxRecDepth 100000 in
set_option maxHeartbeats 1600000 in
theorem specCopy_calls (A : Option Addr) (cm : Nat) (m : List (List Int)) (n s l c n2 s2 l2 c2 : Nat) (w : World) (hr : Rd2 w w.heap.size A m) (hok : MemOK m) (hn : n < m.length) (hn2 : n2 < m.length) (hsl : s + l ≤ m[n].length) (hsl2 : s2 + l2 ≤ m[n2].length) :
    Calls Try.prog 54 #[.agg #[.slice A m.length cm], .agg #[.int .i64 n, .int .i64 s, .int .i64 l, .int .i64 c], .agg #[.int .i64 n2, .int .i64 s2, .int .i64 l2, .int .i64 c2]] w fun e w' => ∃ v, e = .returned (.tuple #[.agg #[v], .int .i64 (min l l2 : Nat)]) ∧ OwnM w' w.heap.size w'.heap.size v (m.set n (over m[n] s (wb m n2 s2 (min l l2)))) ∧ Below w.heap.size w w' := by
  obtain ⟨w0, hw0, hb0, hz0, hmw⟩ := enterMW2M A m.length cm ⟨n, s, l, c⟩ ⟨n2, s2, l2, c2⟩ w
  obtain ⟨k, hk⟩ : ∃ k, min l l2 = k := ⟨_, rfl⟩
  have hk1 : k ≤ l := by omega
  have hk2 : k ≤ l2 := by omega
  have HL : Hid (∀ W, Calls Try.prog 73 #[.int .i64 l, .int .i64 l2] W fun e w' => e = .returned (.int .i64 k) ∧ W = w') := Lib.hid fun W => by
    have h := specLeast_calls l l2 W
    rw [show (if (l : Int) < l2 then (l : Int) else l2) = k by split <;> omega] at h
    exact h
  rw [hk]
  have h16 := hok.1
  have h64 := (hok.2 m[n2] (List.getElem_mem hn2)).2
  have h64n := (hok.2 m[n] (List.getElem_mem hn)).2
  have HBY := Lib.hid (fun W (hb : Below w0.heap.size w0 W) => specBytes_calls A cm m n2 s2 l2 c2 W ((hr.below (hb0.trans (hb.mono hb0.size))).more (Nat.le_trans hb0.size hb.size)) hn2 h16 hsl2 h64)
  have HWR : Hid (∀ W (hb : Below w0.heap.size w0 W) P lc, Rd W W.heap.size P (intV .u8 (wb m n2 s2 k)) → Calls Try.prog 62 #[.agg #[.slice A m.length cm], .agg #[.int .i64 n, .int .i64 s, .int .i64 l, .int .i64 c], .int .i64 0, .slice P k lc] W fun e w' => ∃ v, e = .returned (.agg #[v]) ∧ OwnM w' W.heap.size w'.heap.size v (m.set n (over m[n] s (wb m n2 s2 k))) ∧ Below W.heap.size W w') := Lib.hid fun W hb P lc hp => by
    have hlk : (wb m n2 s2 k).length = k := wb_len hn2 (by omega)
    have h := specWrite_calls A cm m n s 0 l c P lc (wb m n2 s2 k) W ((hr.below (hb0.trans (hb.mono hb0.size))).more (Nat.le_trans hb0.size hb.size)) hok hn (by rw [hlk]; omega) hp
    rw [hlk, Nat.add_zero] at h
    exact h
  have HB := Lib.hid hb0
  have HW := Lib.hid hw0
  have HMW := Lib.hid hmw
  have d2 := (four_cells hmw.mw.win).2.2.1
  have e2 := (four_cells hmw.mw.win2).2.2.1
  have HA : Hid (∀ W, Below w0.heap.size w0 W → W.cell? ⟨w.heap.size, 0, none⟩ = some (.slice A m.length cm) ∧ W.cell? ⟨w.heap.size + 1, 0, none⟩ = some (.int .i64 n) ∧ W.cell? ⟨w.heap.size + 1, 1, none⟩ = some (.int .i64 s) ∧ W.cell? ⟨w.heap.size + 1, 2, none⟩ = some (.int .i64 l) ∧ W.cell? ⟨w.heap.size + 1, 3, none⟩ = some (.int .i64 c) ∧ W.cell? ⟨w.heap.size + 1 + 1, 0, none⟩ = some (.int .i64 n2) ∧ W.cell? ⟨w.heap.size + 1 + 1, 1, none⟩ = some (.int .i64 s2) ∧ W.cell? ⟨w.heap.size + 1 + 1, 2, none⟩ = some (.int .i64 l2) ∧ W.cell? ⟨w.heap.size + 1 + 1, 3, none⟩ = some (.int .i64 c2)) := Lib.hid fun W hb => by
    have h := HMW.out.below hb
    obtain ⟨d0, d1, d2, d3⟩ := four_cells h.mw.win
    obtain ⟨e0, e1, e2, e3⟩ := four_cells h.mw.win2
    exact ⟨one_cell h.mw.mem, d0, d1, d2, d3, e0, e1, e2, e3⟩
  have HRS : Hid (∀ W, Below w0.heap.size w0 W → W.cell? ⟨w.heap.size + 1 + 1 + 1, 0, none⟩ = some (.slice none 0 0) ∧ W.frozen? ⟨w.heap.size + 1 + 1 + 1, 0, none⟩ = false) := Lib.hid fun W hb => by
    have h := HMW.out.below hb
    exact ⟨one_cell h.res, one_frozen h.res⟩
  have HD0 := Lib.hid ((Below.refl w0.heap.size w0).drew)
  have HKL := Lib.hid (show (wb m n2 s2 l2).take k = wb m n2 s2 k from wb_take hk2)
  clear hr hb0 hmw hw0 hok hk hsl hsl2
  dsimp only at *
  go_enter Try.func54, Try.ntmps54
  go_wp2_with fail
  rw [HW.out]
  refine (HL.out _).mono ?_
  rintro e w1 ⟨rfl, rfl⟩
  clear d2 e2
  go_upto_region 2 with fail
  obtain ⟨c1, d0, d1, d2, d3, e0, e1, e2, e3⟩ := HA.out w0.drew HD0.out
  go_region_held3 (fun W => W.cell? ⟨w.heap.size, 0, none⟩ = some (.slice A m.length cm) ∧ W.cell? ⟨w.heap.size + 1, 0, none⟩ = some (.int .i64 n) ∧ W.cell? ⟨w.heap.size + 1, 1, none⟩ = some (.int .i64 s) ∧ W.cell? ⟨w.heap.size + 1, 2, none⟩ = some (.int .i64 l) ∧ W.cell? ⟨w.heap.size + 1, 3, none⟩ = some (.int .i64 c) ∧ W.cell? ⟨w.heap.size + 1 + 1, 0, none⟩ = some (.int .i64 n2) ∧ W.cell? ⟨w.heap.size + 1 + 1, 1, none⟩ = some (.int .i64 s2) ∧ W.cell? ⟨w.heap.size + 1 + 1, 2, none⟩ = some (.int .i64 l2) ∧ W.cell? ⟨w.heap.size + 1 + 1, 3, none⟩ = some (.int .i64 c2))
    (first | exact ⟨c1, d0, d1, d2, d3, e0, e1, e2, e3⟩ | exact HA.out _ hc3 | exact HA.out _ hc4 | (obtain ⟨c1, d0, d1, d2, d3, e0, e1, e2, e3⟩ := HA.out _ hc4; exact ⟨(World.cell?_setCell_other _ _ _ _ (by simp)).trans c1, (World.cell?_setCell_other _ _ _ _ (by simp)).trans d0, (World.cell?_setCell_other _ _ _ _ (by simp)).trans d1, (World.cell?_setCell_other _ _ _ _ (by simp)).trans d2, (World.cell?_setCell_other _ _ _ _ (by simp)).trans d3, (World.cell?_setCell_other _ _ _ _ (by simp)).trans e0, (World.cell?_setCell_other _ _ _ _ (by simp)).trans e1, (World.cell?_setCell_other _ _ _ _ (by simp)).trans e2, (World.cell?_setCell_other _ _ _ _ (by simp)).trans e3⟩))
    (first
      | (go_at_call 61; refine (HBY.out _ HD0.out).mono ?_; rintro e w3 ⟨g3, k3, rfl, ho3, hb3⟩; have hc3 := HD0.out.trans hb3; have hkc := own_cap ho3; have hk0 : (0 : Int) ≤ (k : Int) := Int.natCast_nonneg k; have hki : (k : Int) ≤ (k3 : Int) := Int.ofNat_le.2 (Nat.le_trans hk2 hkc); have hr3 := rd_take (Rd.of_own ho3) k; rw [HKL.out] at hr3; clear ho3)
      | (go_at_call 62; refine (HWR.out _ hc3 _ _ hr3).mono ?_; rintro e w4 ⟨v, rfl, ho, hb4⟩; obtain ⟨Av, cv, rfl, hcv⟩ := ho.form; have hc4 := hc3.trans (hb4.mono hc3.size); obtain ⟨r0, rf⟩ := HRS.out _ hc4))
  have HO := Lib.hid ho
  have hs3 := hc3.size
  have hs4 := hb4.size
  have HC4 := Lib.hid hc4
  clear hc3 hb3 hb4 hc4 ho
  go_wp2_with fail
  refine bodyPost_ret (v := .tuple #[.agg #[.slice Av (m.set n (over m[n] s (wb m n2 s2 k))).length cv], .int .i64 k]) (by simp [results, Try.results54, go_sem, r0]) rfl ⟨_, rfl, ?_, by (repeat (first | (with_reducible exact Below.refl _ _) | (with_reducible refine Below.drew ?_) | ((with_reducible refine Below.alloc ?_ ?hB _); case hB => (first | (with_reducible exact Nat.le_refl _) | omega | (simp; done) | (simp; omega))) | ((with_reducible refine Below.setCell ?_ ?hB _); case hB => (first | (with_reducible exact Nat.le_refl _) | omega | (simp; done) | (simp; omega))))); exact HB.out.trans (HC4.out.mono HB.out.size)⟩
  rw [World.size_setCell]
  have hs0 := HB.out.size
  exact (own_setCell HO.out (.inl (by omega))).mono (by omega) (Nat.le_refl _)

set_option maxRecDepth 100000 in
set_option maxHeartbeats 1600000 in
theorem specCopyInto_calls (A : Option Addr) (cm : Nat) (m : List (List Int)) (x y : Win) (w : World) (hr : Rd2 w w.heap.size A m) (hn : m.length ≤ maxLen) :
    Calls Try.prog 23 #[.agg #[.slice A m.length cm], .agg #[.int .i64 x.arr, .int .i64 x.start, .int .i64 x.len, .int .i64 x.cap], .agg #[.int .i64 y.arr, .int .i64 y.start, .int .i64 y.len, .int .i64 y.cap]] w fun e w' => ∃ v, e = .returned (.tuple #[.agg #[v], .int .i64 (copyR m x y).2.1, .bool (copyR m x y).2.2]) ∧ OwnM w' w.heap.size w'.heap.size v (copyR m x y).1 ∧ Below w.heap.size w w' := by
  obtain ⟨w0, hw0, hb0, hz0, hmw⟩ := enterMW2M A m.length cm x y w
  have HC := Lib.hid (specBoth_calls A cm m x y w0 ((hr.below hb0).more hb0.size) hn)
  have HB := Lib.hid hb0
  have HR := Lib.hid hr
  have HW := Lib.hid hw0
  have HMW := Lib.hid hmw
  clear hr hb0 hmw hw0
  go_enter Try.func23, Try.ntmps23
  go_wp2_with fail
  rw [HW.out]
  refine HC.out.mono ?_
  rintro e w2 ⟨rfl, hb2⟩
  have HB2 := Lib.hid (HB.out.trans (hb2.mono HB.out.size))
  have hl02 := hb2.size
  have HMW2 := Lib.hid (HMW.out.below hb2)
  have hmw2 := HMW2.out
  have c1 := one_cell hmw2.mw.mem
  obtain ⟨d0, d1, d2, d3⟩ := four_cells hmw2.mw.win
  obtain ⟨e0, e1, e2, e3⟩ := four_cells hmw2.mw.win2
  have r0 := one_cell hmw2.res
  have rf := one_frozen hmw2.res
  clear hb2 hmw2
  by_cases hm : WinOK m x ∧ WinOK m y
  · have hd : decide (WinOK m x ∧ WinOK m y) = true := decide_eq_true hm
    have HM := Lib.hid hm
    obtain ⟨n, s, l, c, rfl, hnl, hlc, hsc, h1, h64, h16⟩ := hm.1.nat
    obtain ⟨n2, s2, l2, c2, rfl, hnl2, hlc2, hsc2, h12, h642, h162⟩ := hm.2.nat
    have HV : Hid (copyR m ⟨n, s, l, c⟩ ⟨n2, s2, l2, c2⟩ = (m.set n (over m[n] s (wb m n2 s2 (min l l2))), ((min l l2 : Nat) : Int), true)) := Lib.hid (by rw [copyR, if_pos hm]; simp only [Int.toNat_natCast, getD_eq hnl, copyN])
    have HCP := Lib.hid (specCopy_calls A cm m n s l c n2 s2 l2 c2 w2 ((HR.out.below HB2.out).more HB2.out.size) hm.1.1 hnl hnl2 (by omega) (by omega))
    clear hm
    dsimp only at *
    generalize hk : min l l2 = k at *
    clear hk
    go_wp2_with fail
    refine HCP.out.mono ?_
    rintro e w3 ⟨v, rfl, ho, hb3⟩
    obtain ⟨Av, cv, rfl, hcv⟩ := ho.form
    obtain ⟨w4, hw4⟩ : ∃ w4, w3.alloc (.cells #[.slice Av (m.set n (over m[n] s (wb m n2 s2 k))).length cv] 31) = w4 := ⟨_, rfl⟩
    have hb4 : Below w3.heap.size w3 w4 := by rw [← hw4]; exact (Below.refl _ _).alloc (Nat.le_refl _) _
    have x0 := one_cell (show w4.heap[w3.heap.size]? = some (.cells #[.slice Av (m.set n (over m[n] s (wb m n2 s2 k))).length cv] 31) by rw [← hw4]; exact heap_alloc_new _ _)
    rw [List.length_set] at hw4 x0
    have HW4 := Lib.hid hw4
    have HB4 := Lib.hid ((HB2.out.trans (hb3.mono HB2.out.size)).trans (hb4.mono (Nat.le_trans HB2.out.size hb3.size)))
    have HO4 := Lib.hid (ho.below hb4)
    have hmw4 := (HMW2.out.below hb3).below hb4
    have hs3 := hb3.size
    have hs4 := hb4.size
    have r0 := one_cell hmw4.res
    have rf := one_frozen hmw4.res
    clear ho hb3 hb4 hw4 hmw4 hcv c1 d0 d1 d2 d3 e0 e1 e2 e3
    go_upto_region 4 with fail
    rw [HW4.out]
    go_wp2_with fail
    refine bodyPost_ret (v := .tuple #[.agg #[.slice Av (m.set n (over m[n] s (wb m n2 s2 k))).length cv], .int .i64 k, .bool true]) (by simp [results, Try.results23, go_sem, r0]) rfl ⟨_, by rw [HV.out], ?_, by (repeat (first | (with_reducible exact Below.refl _ _) | (with_reducible refine Below.drew ?_) | ((with_reducible refine Below.alloc ?_ ?hB _); case hB => (first | (with_reducible exact Nat.le_refl _) | omega | (simp; done) | (simp; omega))) | ((with_reducible refine Below.setCell ?_ ?hB _); case hB => (first | (with_reducible exact Nat.le_refl _) | omega | (simp; done) | (simp; omega))))); exact HB4.out⟩
    rw [HV.out, World.size_setCell]
    have hs0 := HB.out.size
    exact (own_setC HO4.out (.inl (by omega))).mono (by omega) hs4
  · have hd : decide (WinOK m x ∧ WinOK m y) = false := decide_eq_false hm
    have HV : Hid (copyR m x y = ([], 0, false)) := Lib.hid (by rw [copyR, if_neg hm])
    clear hm
    go_wp2_with fail
    refine bodyPost_ret (v := .tuple #[.agg #[.slice none 0 0], .int .i64 0, .bool false]) (by simp [results, Try.results23, go_sem, r0]) rfl ⟨_, by rw [HV.out], by rw [HV.out]; exact own_none _ _ _, by (repeat (first | (with_reducible exact Below.refl _ _) | (with_reducible refine Below.drew ?_) | ((with_reducible refine Below.alloc ?_ ?hB _); case hB => (first | (with_reducible exact Nat.le_refl _) | omega | (simp; done) | (simp; omega))) | ((with_reducible refine Below.setCell ?_ ?hB _); case hB => (first | (with_reducible exact Nat.le_refl _) | omega | (simp; done) | (simp; omega))))); exact HB2.out⟩

set_option maxRecDepth 100000 in
set_option maxHeartbeats 3200000 in
theorem implCopyInto_calls (A : Option Addr) (cm : Nat) (m : List (List Int)) (x y : Win) (w : World) (hr : Rd2 w w.heap.size A m) (hn : m.length ≤ maxLen) (hx : WArg x) (hy : WArg y) :
    Calls Try.prog 24 #[.agg #[.slice A m.length cm], .agg #[.int .i64 x.arr, .int .i64 x.start, .int .i64 x.len, .int .i64 x.cap], .agg #[.int .i64 y.arr, .int .i64 y.start, .int .i64 y.len, .int .i64 y.cap]] w fun e w' => ∃ v, e = .returned (.tuple #[.agg #[v], .int .i64 (copyR m x y).2.1, .bool (copyR m x y).2.2]) ∧ OwnM w' w.heap.size w'.heap.size v (copyR m x y).1 ∧ Below w.heap.size w w' := by
  obtain ⟨w0, hw0, hb0, hz0, hmw⟩ := enterMW2M A m.length cm x y w
  have HC := Lib.hid (openWindow_calls A cm m x w0 ((hr.below hb0).more hb0.size) hn hx)
  have HB := Lib.hid hb0
  have HR := Lib.hid hr
  have HW := Lib.hid hw0
  have HMW := Lib.hid hmw
  obtain ⟨i0, hi0, hz, hz1, hz2⟩ := info_parts info_u8
  have hszu : (Try.prog.info? 5).map (·.size) = some 1 := by rw [hi0]; simp [hz1]
  clear hr hb0 hmw hw0
  go_enter Try.func24, Try.ntmps24
  go_wp2_with fail
  rw [HW.out]
  refine HC.out.mono ?_
  rintro e w2 ⟨hop, hb2⟩
  have HB2 := Lib.hid (HB.out.trans (hb2.mono HB.out.size))
  have HMW2 := Lib.hid (HMW.out.below hb2)
  have hl2 := HB2.out.size
  have hl02 := hb2.size
  clear hb2
  rcases hop with ⟨hm, A2, rfl⟩ | ⟨n, s, l, c, gb, g, cv, cap, o, hnl, rfl, hm, hlc, hsc, h1, h64, h16, rfl, hoo, ho, hrow⟩
  · have HV : Hid (copyR m x y = ([], 0, false)) := Lib.hid (by rw [copyR, if_neg (fun h => hm h.1)])
    clear hm
    obtain ⟨w3, hw3⟩ : ∃ w3, w2.alloc (.cells #[.slice none 0 0] 31) = w3 := ⟨_, rfl⟩
    have hb3 : Below w2.heap.size w2 w3 := by rw [← hw3]; exact (Below.refl _ _).alloc (Nat.le_refl _) _
    have hmw3 := HMW2.out.below hb3
    have r0 := one_cell hmw3.res
    have rf := one_frozen hmw3.res
    have HB3 := Lib.hid (HB2.out.trans (hb3.mono HB2.out.size))
    have HW3 := Lib.hid hw3
    clear hb3 hmw3 hw3
    go_upto_region 2 with fail
    rw [HW3.out]
    go_wp2_with fail
    refine bodyPost_ret (v := .tuple #[.agg #[.slice none 0 0], .int .i64 0, .bool false]) (by simp [results, Try.results24, go_sem, r0]) rfl ⟨_, by rw [HV.out], by rw [HV.out]; exact own_none _ _ _, by (repeat (first | (with_reducible exact Below.refl _ _) | (with_reducible refine Below.drew ?_) | ((with_reducible refine Below.alloc ?_ ?hB _); case hB => (first | (with_reducible exact Nat.le_refl _) | omega | (simp; done) | (simp; omega))) | ((with_reducible refine Below.setCell ?_ ?hB _); case hB => (first | (with_reducible exact Nat.le_refl _) | omega | (simp; done) | (simp; omega))))); exact HB3.out⟩
  · have HM := Lib.hid hm
    have HOO := Lib.hid hoo
    clear hm hoo
    obtain ⟨gb2, g2, cap2, he, hgb, hg1, hg2, hg3, hg4, hrow2, hcap1, hcap2, hcells, hfr, hro, hset⟩ := ho.row_at hnl h1
    injection he with he; injection he with he; subst he
    rw [hrow] at hrow2
    injection hrow2 with hrow2; injection hrow2 with hrow2 _ hcp; injection hrow2 with hrow2; injection hrow2 with hrow2
    subst hrow2; subst hcp
    have HSE := Lib.hid hset
    obtain ⟨w3, hw3⟩ : ∃ w3, w2.alloc (.cells #[.slice (some ⟨gb, 0, none⟩) m.length cv] 31) = w3 := ⟨_, rfl⟩
    have hb3 : Below w2.heap.size w2 w3 := by rw [← hw3]; exact (Below.refl _ _).alloc (Nat.le_refl _) _
    have HX3 := Lib.hid (show w3.heap[w2.heap.size]? = some (.cells #[.slice (some ⟨gb, 0, none⟩) m.length cv] 31) by rw [← hw3]; exact heap_alloc_new _ _)
    have HMW3 := Lib.hid (HMW2.out.below hb3)
    have HB3 := Lib.hid (HB2.out.trans (hb3.mono HB2.out.size))
    have HW3 := Lib.hid hw3
    have HSW := Lib.hid (show w2.heap.size + 1 = w3.heap.size by rw [← hw3]; simp)
    have HO3 := Lib.hid (ho.below hb3)
    have HRO3 := Lib.hid (own_below hro hb3)
    have HB23 := Lib.hid hb3
    have HAR := Lib.hid (areOne_calls A cm m y w3 ((HR.out.below HB3.out).more HB3.out.size) hn hy w3.heap.size rfl)
    have hmw3 := HMW3.out
    have c1 := one_cell hmw3.mw.mem
    obtain ⟨e0, e1, e2, e3⟩ := four_cells hmw3.mw.win2
    have hrb := run_win1
    clear hb3 hw3 hmw3 ho hrow hcells hfr hro hset
    go_upto_region 2 with fail
    rw [HW3.out]
    go_wp2_with fail
    clear hrb
    refine HAR.out.mono ?_
    rintro e w4 ⟨rfl, hb4⟩
    have HB4 := Lib.hid (HB3.out.trans (hb4.mono HB3.out.size))
    have HMW4 := Lib.hid (HMW3.out.below hb4)
    have HX4 := Lib.hid ((hb4.block _ (by have := HSW.out; omega)).trans HX3.out)
    have HO4 := Lib.hid (HO3.out.below hb4)
    have HB34 := Lib.hid hb4
    have hs4 := hb4.size
    have hs34 := HSW.out
    clear hb4 c1 e0 e1 e2 e3
    by_cases hmy : WinOK m y
    · have hd : decide (WinOK m y) = true := decide_eq_true hmy
      have HMY := Lib.hid hmy
      obtain ⟨n2, s2, l2, c2, rfl, hnl2, hlc2, hsc2, h12, h642, h162⟩ := hmy.nat
      have HV : Hid (copyR m ⟨n, s, l, c⟩ ⟨n2, s2, l2, c2⟩ = (m.set n (over m[n] s (wb m n2 s2 (min l l2))), ((min l l2 : Nat) : Int), true)) := Lib.hid (by rw [copyR, if_pos ⟨HM.out, HMY.out⟩]; simp only [Int.toNat_natCast, getD_eq hnl, copyN])
      clear hmy
      dsimp only at *
      have HSN := Lib.hid (seenR_calls (some ⟨gb, 0, none⟩) cv m n2 s2 l2 c2 w4 HO4.out.reads hnl2 h16 hlc2 hsc2 h12 h642)
      have x0 := one_cell HX4.out
      obtain ⟨e0, e1, e2, e3⟩ := four_cells HMW4.out.mw.win2
      have HRO4 := Lib.hid (own_below HRO3.out (HB34.out))
      obtain ⟨k, hk⟩ : ∃ k, min l l2 = k := ⟨_, rfl⟩
      rw [hk] at HV
      have hk1 : k ≤ l := by omega
      have hk2 : k ≤ l2 := by omega
      have HKM := Lib.hid (show k = Nat.min l2 l by rw [← hk]; exact Nat.min_comm _ _)
      have HYL := Lib.hid (show (wb m n2 s2 k).length = k from wb_len hnl2 (by omega))
      have HKL := Lib.hid (show (wb m n2 s2 l2).take k = wb m n2 s2 k from wb_take hk2)
      clear hk
      rw [hd]
      clear hd
      go_upto_region 4 with fail
      go_wp2_with fail
      refine HSN.out.mono ?_
      rintro e w5 ⟨⟨⟨b5, o5, p5⟩, hbb5, hsp5, rfl, hrd5⟩, hb5⟩
      obtain rfl : p5 = none := hsp5
      have HB5 := Lib.hid (HB4.out.trans (hb5.mono HB4.out.size))
      have HMW5 := Lib.hid (HMW4.out.below hb5)
      have HX5 := Lib.hid ((hb5.block _ (by omega)).trans HX4.out)
      have HRO5 := Lib.hid (own_below HRO4.out hb5)
      have HG5 := Lib.hid (grown_of_below ((HB23.out.trans (HB34.out.mono HB23.out.size)).trans (hb5.mono (Nat.le_trans HB23.out.size HB34.out.size))) (some g))
      have hr5 := rd_take (hrd5.below hb5) k
      rw [HKL.out] at hr5
      have HR5 := Lib.hid (fun h0 => rd_src hr5 h0)
      have hs5 := hb5.size
      clear hb5 hrd5 hr5 x0 e0 e1 e2 e3
      go_wp2_with (refine wpList_copy_row rfl _ _ 43 43 rfl Try.underlying43 hszu _ _ l c l2 c2 rfl rfl g w0.heap.size cap m[n] HRO5.out h1 s (wb m n2 s2 k) k HYL.out HKM.out (fun h0 => by rw [HYL.out] at h0; rw [HOO.out (by omega)]) (by rw [HYL.out]; omega) HR5.out ?_; intro w6 hown6 hg6; have HOM := Lib.hid (HSE.out w6 _ (over_len (by rw [HYL.out]; omega)) hown6 (HG5.out.trans hg6)); have HBR := Lib.hid (grown_below HB5.out HB5.out.size hg6 (by omega)); have hres := grown_block hg6 HMW5.out.res (by omega); have r0 := one_cell hres; have rf := one_frozen hres; have x0 := one_cell (grown_block hg6 HX5.out (by omega)); have HSZ := Lib.hid hg6.size; clear hown6 hg6 hres)
      refine bodyPost_ret (v := .tuple #[.agg #[.slice (some ⟨gb, 0, none⟩) m.length cv], .int .i64 k, .bool true]) (by simp [results, Try.results24, go_sem, r0]) rfl ⟨_, by rw [HV.out], ?_, by (repeat (first | (with_reducible exact Below.refl _ _) | (with_reducible refine Below.drew ?_) | ((with_reducible refine Below.alloc ?_ ?hB _); case hB => (first | (with_reducible exact Nat.le_refl _) | omega | (simp; done) | (simp; omega))) | ((with_reducible refine Below.setCell ?_ ?hB _); case hB => (first | (with_reducible exact Nat.le_refl _) | omega | (simp; done) | (simp; omega))))); exact HBR.out⟩
      rw [HV.out, World.size_setCell]
      refine (own_setCell HOM.out (.inl (by omega))).mono (by omega) ?_
      have h1 := HSZ.out
      omega
    · have hd : decide (WinOK m y) = false := decide_eq_false hmy
      have HV : Hid (copyR m ⟨n, s, l, c⟩ y = ([], 0, false)) := Lib.hid (by rw [copyR, if_neg (fun h => hmy h.2)])
      clear hmy
      have r0 := one_cell HMW4.out.res
      have rf := one_frozen HMW4.out.res
      go_wp2_with fail
      refine bodyPost_ret (v := .tuple #[.agg #[.slice none 0 0], .int .i64 0, .bool false]) (by simp [results, Try.results24, go_sem, r0]) rfl ⟨_, by rw [HV.out], by rw [HV.out]; exact own_none _ _ _, by (repeat (first | (with_reducible exact Below.refl _ _) | (with_reducible refine Below.drew ?_) | ((with_reducible refine Below.alloc ?_ ?hB _); case hB => (first | (with_reducible exact Nat.le_refl _) | omega | (simp; done) | (simp; omega))) | ((with_reducible refine Below.setCell ?_ ?hB _); case hB => (first | (with_reducible exact Nat.le_refl _) | omega | (simp; done) | (simp; omega))))); exact HB4.out⟩
end Go.Proofs.Ytbdaaeffbhcflab
