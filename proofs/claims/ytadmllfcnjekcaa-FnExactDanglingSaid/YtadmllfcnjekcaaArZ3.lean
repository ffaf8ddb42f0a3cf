/-
  Dangling of spec.
-/
import Derived.Test.YtadmllfcnjekcaaArZ2
import Derived.Deep.DeepCutAuto
namespace Go.Proofs.Ytadmllfcnjekcaa
open Go.RowKit

theorem take_one {L : List Win} {k : Nat} (h : k < L.length) {P : Win → Prop} (h1 : ∀ x ∈ L.take k, P x) (h2 : P L[k]) : ∀ x ∈ L.take (k + 1), P x := by
  rw [List.take_succ_eq_append_getElem h]
  intro y hy
  rcases List.mem_append.1 hy with hy | hy
  · exact h1 y hy
  · rw [List.mem_singleton.1 hy]; exact h2
set_option maxRecDepth 100000 in
set_option maxHeartbeats 6400000 in
theorem specDangling_calls (A B : Option Addr) (cm d : Nat) (m : List (List Int)) (g : An) (Z : Option Addr) (kz : Nat) (L : List Win) (w : World) (hr : RdA w w.heap.size A B m g.ms) (hn : m.length ≤ maxLen) (hkl : g.ms.length ≤ maxLen) (hy : RdW w w.heap.size Z L) (hll : L.length ≤ 1048576) :
    Calls Try.prog 61 #[.agg #[.slice A m.length cm, .int .i64 g.w.arr, .int .i64 g.w.start, .int .i64 g.w.len, .int .i64 g.w.cap, .int .i64 g.us, .slice B g.ms.length d], .slice Z L.length kz] w fun e w' => ∃ v, e = .returned (.tuple #[v, .bool (dangR m g L).2]) ∧ w'.ownsRow w.heap.size 3 1 v (dangR m g L).1.length (intV .i64 (dangR m g L).1) ∧ Below w.heap.size w w' := by
  obtain ⟨i0, hi0, hz, hz1, hz2⟩ := info_parts info_int
  obtain ⟨w0, hw0, hb0, hz0, hg0⟩ := enterA A B m.length cm g.ms.length d g w
  obtain ⟨w1, hw1⟩ : ∃ w1, w0.alloc (.cells #[] 3) = w1 := ⟨_, rfl⟩
  have hb1 : Below w0.heap.size w0 w1 := by rw [← hw1]; exact (Below.refl _ _).alloc (Nat.le_refl _) _
  have HO1 : Hid (w1.ownsRow w0.heap.size 3 1 (.slice (some ⟨w.heap.size + 1, 0, none⟩) 0 0) 0 []) := Lib.hid (by rw [← hw1, ← hz0]; exact World.ownsRow_made (base := w0.heap.size) (e := 3) (size := 1) w0 #[] 0 (Nat.le_refl _) (Nat.zero_le _) rfl)
  have HC := Lib.hid (specArena_calls A B cm d m g w1 (hr.on (hb0.trans (hb1.mono hb0.size))) hn hkl)
  have HR := Lib.hid hr
  have HY := Lib.hid hy
  have HB := Lib.hid hb0
  have HB1 := Lib.hid hb1
  have HW := Lib.hid hw0
  have HW1 := Lib.hid hw1
  have HG := Lib.hid hg0
  have hg1 := (hb1.block _ (Array.getElem?_eq_some_iff.1 hg0).1).trans hg0
  obtain ⟨c0, d0, d1, d2, d3, d4, d5⟩ := ar_cells hg1
  clear hr hy hb0 hw0 hg0 hz0 hb1 hw1 hg1
  go_enter Try.func61, Try.ntmps61
  go_upto_region 2 with fail
  rw [HW.out, HW1.out]
  go_wp2_with fail
  refine HC.out.mono ?_
  rintro e w2 ⟨rfl, hb2⟩
  have HO2 := Lib.hid (own_below HO1.out hb2)
  have HB2 := Lib.hid (HB1.out.trans (hb2.mono HB1.out.size))
  clear hb2 c0 d0 d1 d2 d3 d4 d5
  by_cases hok : ArOK m g
  · have hd : decide (ArOK m g) = true := decide_eq_true hok
    have HOK := Lib.hid hok
    have HV1 := Lib.hid (fun (h : ∀ x ∈ L, WinOK m x) => dangR_yes (L := L) (g := g) (m := m) ⟨hok, hok.1.1, h⟩)
    have HV0 := Lib.hid (fun (h : ¬ ∀ x ∈ L, WinOK m x) => dangR_no (L := L) (g := g) (m := m) (fun h2 => h h2.2.2))
    have HFT := Lib.hid (free_tame hok)
    have HF := Lib.hid (fun W => specFree_calls A B cm d m g W hok)
    generalize hfe : freeW g = y at *
    clear hok hfe
    go_wp2_with fail
    go_loopw [6, 7] (fun v i wr => ∃ k : Nat, k ≤ L.length ∧ i = .int .i64 k ∧ (∀ x ∈ L.take k, WinOK m x) ∧ wr.ownsRow w0.heap.size 3 1 v (idxsTo (dangB L y) k).length (intV .i64 (idxsTo (dangB L y) k)) ∧ Below w0.heap.size w0 wr ∧ ∃ g cap, v = .slice (some ⟨g, 0, none⟩) (idxsTo (dangB L y) k).length cap) (fun _ i _ => L.length - (intOf i).toNat)
    case atStart => exact ⟨0, Nat.zero_le _, rfl, by simp, by simpa [idxsTo, intV] using HO2.out, HB2.out, _, _, rfl⟩
    case round =>
      obtain ⟨k, hk, rfl, ht, hown, hbr, gv, cv, rfl⟩ := hrel
      have HT := Lib.hid ht
      have HO := Lib.hid hown
      have HBR := Lib.hid hbr
      have HBX := Lib.hid (HB.out.trans (hbr.mono HB.out.size))
      have hbs := hbr.size
      have hgr := (hbr.block _ (Array.getElem?_eq_some_iff.1 HG.out).1).trans HG.out
      have hlen := idxsTo_len (dangB L y) k
      obtain ⟨c0, d0, d1, d2, d3, d4, d5⟩ := ar_cells hgr
      clear ht hown hbr hgr
      by_cases hlt : k < L.length
      · obtain ⟨b, off, rfl, hbb, e0, e1, e2, e3⟩ := (HY.out.on HBX.out).at_ hlt
        have HTK := Lib.hid (fun h => take_one hlt HT.out h)
        have HMEM := Lib.hid (List.getElem_mem hlt)
        have hdb : dangB L y k = decide (0 < ovl L[k] y) := by rw [dangB, winAt_eq hlt]
        generalize L[k] = x at *
        have HA := Lib.hid (fun W (h : Below wr.heap.size wr W) => show W.cell? ⟨w.heap.size, 0, none⟩ = some (.slice A m.length cm) ∧ W.cell? ⟨w.heap.size, 1, none⟩ = some (.int .i64 g.w.arr) ∧ W.cell? ⟨w.heap.size, 2, none⟩ = some (.int .i64 g.w.start) ∧ W.cell? ⟨w.heap.size, 3, none⟩ = some (.int .i64 g.w.len) ∧ W.cell? ⟨w.heap.size, 4, none⟩ = some (.int .i64 g.w.cap) ∧ W.cell? ⟨w.heap.size, 5, none⟩ = some (.int .i64 g.us) ∧ W.cell? ⟨w.heap.size, 6, none⟩ = some (.slice B g.ms.length d) ∧ W.cell? ⟨b, off + k * 4, none⟩ = some (.int .i64 x.arr) ∧ W.cell? ⟨b, off + k * 4 + 1, none⟩ = some (.int .i64 x.start) ∧ W.cell? ⟨b, off + k * 4 + 2, none⟩ = some (.int .i64 x.len) ∧ W.cell? ⟨b, off + k * 4 + 3, none⟩ = some (.int .i64 x.cap) from ⟨(h.cell (cell_lt c0)).trans c0, (h.cell (cell_lt d0)).trans d0, (h.cell (cell_lt d1)).trans d1, (h.cell (cell_lt d2)).trans d2, (h.cell (cell_lt d3)).trans d3, (h.cell (cell_lt d4)).trans d4, (h.cell (cell_lt d5)).trans d5, (h.cell (cell_lt e0)).trans e0, (h.cell (cell_lt e1)).trans e1, (h.cell (cell_lt e2)).trans e2, (h.cell (cell_lt e3)).trans e3⟩)
        have HCW := Lib.hid (fun W (hb : Below wr.heap.size wr W) => specWindow_calls A cm m x W (HR.out.on (HBX.out.trans (hb.mono HBX.out.size))).1 hn)
        by_cases hwo : WinOK m x
        · rw [show decide (WinOK m x) = true from decide_eq_true hwo] at HCW
          have HT1 := Lib.hid (HTK.out hwo)
          have HV := Lib.hid (fun W => specOvl_calls x y W hwo.tame HFT.out)
          clear hwo
          go_wp2_with fail
          go_region_held3 (fun W => W.cell? ⟨w.heap.size, 0, none⟩ = some (.slice A m.length cm) ∧ W.cell? ⟨w.heap.size, 1, none⟩ = some (.int .i64 g.w.arr) ∧ W.cell? ⟨w.heap.size, 2, none⟩ = some (.int .i64 g.w.start) ∧ W.cell? ⟨w.heap.size, 3, none⟩ = some (.int .i64 g.w.len) ∧ W.cell? ⟨w.heap.size, 4, none⟩ = some (.int .i64 g.w.cap) ∧ W.cell? ⟨w.heap.size, 5, none⟩ = some (.int .i64 g.us) ∧ W.cell? ⟨w.heap.size, 6, none⟩ = some (.slice B g.ms.length d) ∧ W.cell? ⟨b, off + k * 4, none⟩ = some (.int .i64 x.arr) ∧ W.cell? ⟨b, off + k * 4 + 1, none⟩ = some (.int .i64 x.start) ∧ W.cell? ⟨b, off + k * 4 + 2, none⟩ = some (.int .i64 x.len) ∧ W.cell? ⟨b, off + k * 4 + 3, none⟩ = some (.int .i64 x.cap))
            (first | exact ⟨c0, d0, d1, d2, d3, d4, d5, e0, e1, e2, e3⟩ | exact HA.out _ hc5)
            ((go_at_call 83; refine (HCW.out _ (by (repeat (first | (with_reducible exact Below.refl _ _) | (with_reducible refine Below.drew ?_) | ((with_reducible refine Below.alloc ?_ ?hB _); case hB => (first | (with_reducible exact Nat.le_refl _) | omega | (simp; done) | (simp; omega))) | ((with_reducible refine Below.setCell ?_ ?hB _); case hB => (first | (with_reducible exact Nat.le_refl _) | omega | (simp; done) | (simp; omega))))))).mono ?_; rintro e w5 ⟨rfl, hb5⟩; have hc5 : Below wr.heap.size wr w5 := ⟨hb5.os, hb5.tape, hb5.output, hb5.size, hb5.block⟩))
          have HC5 := Lib.hid hc5
          obtain ⟨c0', d0', d1', d2', d3', d4', d5', e0', e1', e2', e3'⟩ := HA.out _ hc5
          clear hb5 hc5 c0 d0 d1 d2 d3 d4 d5 e0 e1 e2 e3
          go_wp2_with fail
          go_region_held3 (fun W => W.cell? ⟨w.heap.size, 0, none⟩ = some (.slice A m.length cm) ∧ W.cell? ⟨w.heap.size, 1, none⟩ = some (.int .i64 g.w.arr) ∧ W.cell? ⟨w.heap.size, 2, none⟩ = some (.int .i64 g.w.start) ∧ W.cell? ⟨w.heap.size, 3, none⟩ = some (.int .i64 g.w.len) ∧ W.cell? ⟨w.heap.size, 4, none⟩ = some (.int .i64 g.w.cap) ∧ W.cell? ⟨w.heap.size, 5, none⟩ = some (.int .i64 g.us) ∧ W.cell? ⟨w.heap.size, 6, none⟩ = some (.slice B g.ms.length d) ∧ W.cell? ⟨b, off + k * 4, none⟩ = some (.int .i64 x.arr) ∧ W.cell? ⟨b, off + k * 4 + 1, none⟩ = some (.int .i64 x.start) ∧ W.cell? ⟨b, off + k * 4 + 2, none⟩ = some (.int .i64 x.len) ∧ W.cell? ⟨b, off + k * 4 + 3, none⟩ = some (.int .i64 x.cap))
            (first | exact ⟨c0', d0', d1', d2', d3', d4', d5', e0', e1', e2', e3'⟩ | exact HA.out _ (HC5.out.trans (hc7.mono HC5.out.size)) | exact HA.out _ (HC5.out.trans (hc6.mono HC5.out.size)))
            (first | (go_at_call 108; refine (HF.out _).mono ?_; rintro e w6 ⟨rfl, hb6⟩; have hc6 : Below w5.heap.size w5 w6 := ⟨hb6.os, hb6.tape, hb6.output, hb6.size, hb6.block⟩) | (go_at_call 107; refine (HV.out _).mono ?_; rintro e w7 ⟨rfl, hb7⟩; have hc7 : Below w5.heap.size w5 w7 := hc6.trans (hb7.mono hc6.size)))
          have HB7 := Lib.hid (HBR.out.trans ((HC5.out.trans (hc7.mono HC5.out.size)).mono HBR.out.size))
          have HO7 := Lib.hid (own_below HO.out (HC5.out.trans (hc7.mono HC5.out.size)))
          clear hb6 hb7 hc6 hc7 c0' d0' d1' d2' d3' d4' d5' e0' e1' e2' e3'
          have hbs7 := HB7.out.size
          by_cases hpos : 0 < ovl x y
          · have HSN := Lib.hid (idxsTo_yes (p := dangB L y) (k := k) (by rw [hdb]; exact decide_eq_true hpos))
            clear hdb
            go_wp2_with ((at_builtin; refine wpList_append_own _ rfl _ _ 27 rfl w0.heap.size 3 i0 _ 1 8 Try.underlying27 hi0 hz hz1 hz2 rfl (by decide) _ _ _ rfl (HO7.out.alloc _) ⟨w7.heap.size, 0, none⟩ 1 1 [.int .i64 k] rfl rfl (cell_one_new _ _ _) (by simp [Value.oneCell']) (by simp only [maxLen]; omega) (by omega) (by simp; omega) ?_; intro v' w8 hown8 hgrow _))
            have HB8 : Hid (Below w0.heap.size w0 w8) := below_own0 (HB7.out.alloc hbs7 _) (HO7.out.alloc _) hgrow (by simp; omega)
            have HL8 := Lib.hid (show (idxsTo (dangB L y) (k + 1)).length = (idxsTo (dangB L y) k).length + 1 by rw [HSN.out]; simp)
            have HO8 : Hid (w8.ownsRow w0.heap.size 3 1 v' (idxsTo (dangB L y) (k + 1)).length (intV .i64 (idxsTo (dangB L y) (k + 1)))) := Lib.hid (by
              rw [HL8.out, show intV .i64 (idxsTo (dangB L y) (k + 1)) = intV .i64 (idxsTo (dangB L y) k) ++ [.int .i64 k] by rw [HSN.out]; simp [intV]]; exact hown8)
            have HF8 := Lib.hid (own_some0 HO8.out (by rw [HL8.out]; omega))
            clear hown8 hgrow
            go_roundw
            case rel => exact ⟨k + 1, by omega, by go_num, HT1.out, HO8.out, HB8.out, HF8.out⟩
            case measure => simp [intOf]; omega
          · have HSN := Lib.hid (idxsTo_no (p := dangB L y) (k := k) (by rw [hdb]; exact decide_eq_false hpos))
            clear hdb
            go_wp2_with fail
            go_roundw
            case rel => exact ⟨k + 1, by omega, by go_num, HT1.out, by rw [HSN.out]; exact HO7.out, HB7.out, by rw [HSN.out]; exact ⟨_, _, rfl⟩⟩
            case measure => simp [intOf]; omega
        · rw [show decide (WinOK m x) = false from decide_eq_false hwo] at HCW
          have HV := Lib.hid (HV0.out (fun h => hwo (h x HMEM.out)))
          clear hwo hdb
          go_wp2_with fail
          go_region_held3 (fun W => W.cell? ⟨w.heap.size, 0, none⟩ = some (.slice A m.length cm) ∧ W.cell? ⟨w.heap.size, 1, none⟩ = some (.int .i64 g.w.arr) ∧ W.cell? ⟨w.heap.size, 2, none⟩ = some (.int .i64 g.w.start) ∧ W.cell? ⟨w.heap.size, 3, none⟩ = some (.int .i64 g.w.len) ∧ W.cell? ⟨w.heap.size, 4, none⟩ = some (.int .i64 g.w.cap) ∧ W.cell? ⟨w.heap.size, 5, none⟩ = some (.int .i64 g.us) ∧ W.cell? ⟨w.heap.size, 6, none⟩ = some (.slice B g.ms.length d) ∧ W.cell? ⟨b, off + k * 4, none⟩ = some (.int .i64 x.arr) ∧ W.cell? ⟨b, off + k * 4 + 1, none⟩ = some (.int .i64 x.start) ∧ W.cell? ⟨b, off + k * 4 + 2, none⟩ = some (.int .i64 x.len) ∧ W.cell? ⟨b, off + k * 4 + 3, none⟩ = some (.int .i64 x.cap))
            (first | exact ⟨c0, d0, d1, d2, d3, d4, d5, e0, e1, e2, e3⟩ | exact HA.out _ hc5)
            ((go_at_call 83; refine (HCW.out _ (by (repeat (first | (with_reducible exact Below.refl _ _) | (with_reducible refine Below.drew ?_) | ((with_reducible refine Below.alloc ?_ ?hB _); case hB => (first | (with_reducible exact Nat.le_refl _) | omega | (simp; done) | (simp; omega))) | ((with_reducible refine Below.setCell ?_ ?hB _); case hB => (first | (with_reducible exact Nat.le_refl _) | omega | (simp; done) | (simp; omega))))))).mono ?_; rintro e w5 ⟨rfl, hb5⟩; have hc5 : Below wr.heap.size wr w5 := ⟨hb5.os, hb5.tape, hb5.output, hb5.size, hb5.block⟩))
          have HB5 := Lib.hid (HBX.out.trans (hc5.mono HBX.out.size))
          clear hb5 hc5 c0 d0 d1 d2 d3 d4 d5 e0 e1 e2 e3
          go_wp2_with fail
          have hs5 := HB5.out.size
          refine bodyPost_ret (v := .tuple #[.slice (some ⟨w5.heap.size, 0, none⟩) 0 0, .bool false]) (by simp [results, Try.results61, go_sem]) rfl ⟨.slice (some ⟨w5.heap.size, 0, none⟩) 0 0, by rw [HV.out], by rw [HV.out]; exact World.ownsRow_made w5 #[] 0 HB5.out.size (Nat.zero_le _) rfl, by (repeat (first | (with_reducible exact Below.refl _ _) | (with_reducible refine Below.drew ?_) | ((with_reducible refine Below.alloc ?_ ?hB _); case hB => (first | (with_reducible exact Nat.le_refl _) | omega | (simp; done) | (simp; omega))) | ((with_reducible refine Below.setCell ?_ ?hB _); case hB => (first | (with_reducible exact Nat.le_refl _) | omega | (simp; done) | (simp; omega))))); exact HB5.out⟩
      · obtain rfl : k = L.length := by omega
        have HV := Lib.hid (HV1.out (by have := HT.out; rwa [List.take_length] at this))
        go_wp2_with fail
        refine bodyPost_ret (v := .tuple #[.slice (some ⟨gv, 0, none⟩) (idxsTo (dangB L y) L.length).length cv, .bool true]) (by simp [results, Try.results61, go_sem]) rfl ⟨.slice (some ⟨gv, 0, none⟩) (idxsTo (dangB L y) L.length).length cv, by rw [HV.out], by rw [HV.out]; exact own_low HO.out HB.out.size, HBX.out⟩
  · have hd : decide (ArOK m g) = false := decide_eq_false hok
    have HV := Lib.hid (dangR_no (m := m) (g := g) (L := L) (fun h => hok h.1))
    clear hok
    go_wp2_with fail
    refine bodyPost_ret (v := .tuple #[.slice (some ⟨w.heap.size + 1, 0, none⟩) 0 0, .bool false]) (by simp [results, Try.results61, go_sem]) rfl ⟨.slice (some ⟨w.heap.size + 1, 0, none⟩) 0 0, by rw [HV.out], by rw [HV.out]; exact own_low HO2.out HB.out.size, HB.out.trans (HB2.out.mono HB.out.size)⟩
end Go.Proofs.Ytadmllfcnjekcaa
