/-
  Dangling of impl and spec.
-/
import Derived.Test.YtadmllfcnjekcaaArZ
namespace Go.Proofs.Ytadmllfcnjekcaa
open Go.RowKit

theorem ovl_comm (x y : Win) : ovl x y = ovl y x := by
  unfold ovl
  by_cases h : x.arr = y.arr
  · rw [if_pos h, if_pos h.symm]; omega
  · rw [if_neg h, if_neg (fun e => h e.symm)]
theorem dangR_no {m : List (List Int)} {g : An} {L : List Win} (h : ¬ (ArOK m g ∧ AllOK m L)) : dangR m g L = ([], false) := by rw [dangR, if_neg h]
theorem dangR_yes {m : List (List Int)} {g : An} {L : List Win} (h : ArOK m g ∧ AllOK m L) : dangR m g L = (idxsTo (dangB L (freeW g)) L.length, true) := by rw [dangR, if_pos h]
theorem own_low {w : World} {base base' : Nat} {e : TypeId} {sz : Nat} {v : Value} {n : Nat} {xs : List Value} (h : w.ownsRow base e sz v n xs) (hb : base' ≤ base) : w.ownsRow base' e sz v n xs := by
  refine ⟨h.1, ?_⟩
  rcases h.2 with h0 | ⟨g', cap, cur, rfl, hg, hc, r1, r2, r3, r4⟩
  · exact .inl h0
  · exact .inr ⟨g', cap, cur, rfl, Nat.le_trans hb hg, hc, r1, r2, r3, r4⟩
theorem RdW.on {w w' : World} {A : Option Addr} {xs : List Win} (h : RdW w w.heap.size A xs) (hb : Below w.heap.size w w') : RdW w' w'.heap.size A xs := (h.below hb).more hb.size

set_option maxRecDepth 100000 in
set_option maxHeartbeats 3200000 in
theorem implDangling_calls (A B : Option Addr) (cm d : Nat) (m : List (List Int)) (g : An) (Z : Option Addr) (kz : Nat) (L : List Win) (w : World) (hr : RdA w w.heap.size A B m g.ms) (hn : m.length ≤ maxLen) (hkl : g.ms.length ≤ maxLen) (hx : AArgW g) (hy : RdW w w.heap.size Z L) (hll : L.length ≤ 1048576) (hwa : ∀ x ∈ L, WArg x) :
    Calls Try.prog 63 #[.agg #[.slice A m.length cm, .int .i64 g.w.arr, .int .i64 g.w.start, .int .i64 g.w.len, .int .i64 g.w.cap, .int .i64 g.us, .slice B g.ms.length d], .slice Z L.length kz] w fun e w' => ∃ v, e = .returned (.tuple #[v, .bool (dangR m g L).2]) ∧ w'.ownsRow w.heap.size 3 1 v (dangR m g L).1.length (intV .i64 (dangR m g L).1) ∧ Below w.heap.size w w' := by
  obtain ⟨w0, hw0, hb0, hz0, hg0⟩ := enterA A B m.length cm g.ms.length d g w
  have HC := Lib.hid (implIsArena_calls A B cm d m g w0 (hr.on hb0) hn hkl hx)
  have HR := Lib.hid hr
  have HY := Lib.hid hy
  have HB := Lib.hid hb0
  have HW := Lib.hid hw0
  have HG := Lib.hid hg0
  have HWA := Lib.hid hwa
  have HXW := Lib.hid hx.1
  obtain ⟨c0, d0, d1, d2, d3, d4, d5⟩ := ar_cells hg0
  clear hr hy hb0 hw0 hg0 hz0 hwa
  go_enter Try.func63, Try.ntmps63
  go_wp2_with fail
  rw [HW.out]
  refine HC.out.mono ?_
  rintro e w2 ⟨rfl, hb2⟩
  have HB2 := Lib.hid (HB.out.trans (hb2.mono HB.out.size))
  have HG2 := Lib.hid ((hb2.block _ (Array.getElem?_eq_some_iff.1 HG.out).1).trans HG.out)
  clear hb2 c0 d0 d1 d2 d3 d4 d5
  by_cases hok : ArOK m g
  · have hd : isArenaR m g = true := decide_eq_true hok
    obtain ⟨c0, d0, d1, d2, d3, d4, d5⟩ := ar_cells HG2.out
    have HN := Lib.hid (areAll_calls A cm m Z kz L w2 (HR.out.on HB2.out).1 hn (HY.out.on HB2.out) HWA.out hll)
    have HOK := Lib.hid hok
    clear hok
    go_wp2_with fail
    refine HN.out.mono ?_
    rintro e w3 ⟨rfl, hb3⟩
    have HB3 := Lib.hid (HB2.out.trans (hb3.mono HB2.out.size))
    have HG3 := Lib.hid ((hb3.block _ (Array.getElem?_eq_some_iff.1 HG2.out).1).trans HG2.out)
    clear hb3 c0 d0 d1 d2 d3 d4 d5
    by_cases hal : AllOK m L
    · have hd2 : decide (AllOK m L) = true := decide_eq_true hal
      have HV := Lib.hid (dangR_yes (g := g) ⟨HOK.out, hal⟩)
      have HF := Lib.hid (freeIn_calls w.heap.size A B cm d m g w3 HG3.out (HR.out.on HB3.out).1 hn HXW.out HOK.out)
      have HNM := Lib.hid (fun W (hb : Below w.heap.size w W) => numbersAll_calls Z kz L (freeW g) (dangB L (freeW g)) W (HY.out.on hb) hll (fun k hk W' => by
        have h := shares_calls (freeW g) L[k] W' (free_tame HOK.out) (hal.2 _ (List.getElem_mem hk)).tame
        rw [ovl_comm] at h
        rw [dangB, winAt_eq hk]
        exact h))
      clear hal
      generalize freeW g = y at *
      go_wp2_with fail
      refine HF.out.mono ?_
      rintro e w4 ⟨rfl, hb4⟩
      have HB4 := Lib.hid (HB3.out.trans (hb4.mono HB3.out.size))
      clear hb4
      go_wp2_with fail
      refine (HNM.out w4 HB4.out).mono ?_
      rintro e w5 ⟨gv, cv, rfl, hown, hb5⟩
      have HB5 := Lib.hid (HB4.out.trans (hb5.mono HB4.out.size))
      have HO := Lib.hid hown
      clear hown hb5
      go_wp2_with fail
      refine bodyPost_ret (v := .tuple #[.slice (some ⟨gv, 0, none⟩) (idxsTo (dangB L y) L.length).length cv, .bool true]) (by simp [results, Try.results63, go_sem]) rfl ⟨.slice (some ⟨gv, 0, none⟩) (idxsTo (dangB L y) L.length).length cv, by rw [HV.out], by rw [HV.out]; exact own_low HO.out HB4.out.size, HB5.out⟩
    · have hd2 : decide (AllOK m L) = false := decide_eq_false hal
      have HV := Lib.hid (dangR_no (m := m) (g := g) (L := L) (fun h => hal h.2))
      clear hal
      go_wp2_with fail
      have hs3 := HB3.out.size
      refine bodyPost_ret (v := .tuple #[.slice (some ⟨w3.heap.size, 0, none⟩) 0 0, .bool false]) (by simp [results, Try.results63, go_sem]) rfl ⟨.slice (some ⟨w3.heap.size, 0, none⟩) 0 0, by rw [HV.out], by rw [HV.out]; exact World.ownsRow_made w3 #[] 0 HB3.out.size (Nat.zero_le _) rfl, by (repeat (first | (with_reducible exact Below.refl _ _) | (with_reducible refine Below.drew ?_) | ((with_reducible refine Below.alloc ?_ ?hB _); case hB => (first | (with_reducible exact Nat.le_refl _) | omega | (simp; done) | (simp; omega))) | ((with_reducible refine Below.setCell ?_ ?hB _); case hB => (first | (with_reducible exact Nat.le_refl _) | omega | (simp; done) | (simp; omega))))); exact HB3.out⟩
  · have hd : isArenaR m g = false := decide_eq_false hok
    have HV := Lib.hid (dangR_no (m := m) (g := g) (L := L) (fun h => hok h.1))
    clear hok
    go_wp2_with fail
    have hs2 := HB2.out.size
    refine bodyPost_ret (v := .tuple #[.slice (some ⟨w2.heap.size, 0, none⟩) 0 0, .bool false]) (by simp [results, Try.results63, go_sem]) rfl ⟨.slice (some ⟨w2.heap.size, 0, none⟩) 0 0, by rw [HV.out], by rw [HV.out]; exact World.ownsRow_made w2 #[] 0 HB2.out.size (Nat.zero_le _) rfl, by (repeat (first | (with_reducible exact Below.refl _ _) | (with_reducible refine Below.drew ?_) | ((with_reducible refine Below.alloc ?_ ?hB _); case hB => (first | (with_reducible exact Nat.le_refl _) | omega | (simp; done) | (simp; omega))) | ((with_reducible refine Below.setCell ?_ ?hB _); case hB => (first | (with_reducible exact Nat.le_refl _) | omega | (simp; done) | (simp; omega))))); exact HB2.out⟩
end Go.Proofs.Ytadmllfcnjekcaa
