/-
  FnExactRopeText: the walk.
-/
import Derived.Test.YtomebbapjolnlaaBox2
import Derived.Test.YtomebbapjolnlaaRpH
import Derived.Deep.DeepCutAuto
import Derived.Test.YtomebbapjolnlaaRpY
namespace Go.Proofs.Ytomebbapjolnlaa
open Go.RowKit

set_option maxRecDepth 100000 in
set_option maxHeartbeats 6400000 in
theorem fnExactRopeText_walk (A : Option Addr) (len cap : Nat) (m : List (List Int)) (AL : Option Addr) (lenL capL : Nat) (L : List Win) (w : World) (h : MArg w A len cap m) (hL : WsArg w AL lenL capL L) :
    Calls Try.prog 4 #[.agg #[.slice A len cap], .agg #[.slice AL lenL capL]] w fun e w' => e = .returned (.bool true) ∧ Below w.heap.size w w' := by
  obtain ⟨rfl, h1, h2, hr, hzz⟩ := h
  obtain ⟨rfl, g1L, g2L, hrL, hwaL⟩ := hL
  have hsm := textR_small m L
  obtain ⟨R, p1, hform⟩ : ∃ (R : List Int) (p1 : Bool), textR m L = (R, p1) := ⟨_, _, rfl⟩
  rw [hform] at hsm
  have hR1 : R.length ≤ 2097152 := hsm
  clear hsm
  obtain ⟨w0, hw0⟩ : ∃ w0, ((w.alloc (.cells #[.slice A m.length cap] 24)).alloc (.cells #[.slice AL L.length capL] 27)) = w0 := ⟨_, rfl⟩
  have hb0 : Below w.heap.size w w0 := by rw [← hw0]; (repeat (first | (with_reducible exact Below.refl _ _) | (with_reducible refine Below.drew ?_) | ((with_reducible refine Below.alloc ?_ ?hB _); case hB => (first | (with_reducible exact Nat.le_refl _) | omega | (simp; done) | (simp; omega))) | ((with_reducible refine Below.setCell ?_ ?hB _); case hB => (first | (with_reducible exact Nat.le_refl _) | omega | (simp; done) | (simp; omega)))))
  have hg0 : w0.heap[w.heap.size]? = some (.cells #[.slice A m.length cap] 24) := by rw [← hw0]; exact alloc_old _ ((by simpa using heap_alloc_new w (.cells #[.slice A m.length cap] 24)))
  have hg1 : w0.heap[w.heap.size + 1]? = some (.cells #[.slice AL L.length capL] 27) := by rw [← hw0]; exact (by simpa using heap_alloc_new (w.alloc (.cells #[.slice A m.length cap] 24)) (.cells #[.slice AL L.length capL] 27))
  have hlen : m.length ≤ maxLen := by omega
  have HS := Lib.hid (szMemory_calls A cap m w0 1048576 ((hr.below hb0).more hb0.size) hlen (by omega) (by omega))
  have HB := Lib.hid hb0
  have HW := Lib.hid hw0
  have HR := Lib.hid hr
  have HRL := Lib.hid hrL
  have HWAL := Lib.hid hwaL
  have hlenL : L.length ≤ maxLen := by omega
  have HA : Hid (∀ W, Below w0.heap.size w0 W → W.cell? ⟨w.heap.size, 0, none⟩ = some (.slice A m.length cap) ∧ W.cell? ⟨w.heap.size + 1, 0, none⟩ = some (.slice AL L.length capL)) := Lib.hid fun W hb => ⟨one_cell ((hb.block _ (Array.getElem?_eq_some_iff.1 hg0).1).trans hg0), one_cell ((hb.block _ (Array.getElem?_eq_some_iff.1 hg1).1).trans hg1)⟩
  obtain ⟨c0, c1⟩ := HA.out w0 (Below.refl _ _)
  clear hr hzz hb0 hw0 hrL hwaL hg0 hg1 
  go_enter Try.func4, Try.ntmps4
  go_wp2_with fail
  rw [HW.out]
  refine HS.out.mono ?_
  rintro e w1 ⟨⟨r, rfl, hr⟩, hb1⟩
  have HR1 := Lib.hid hr
  have HBw := Lib.hid hb1
  clear hb1 c0 c1
  by_cases hneg : r < 0
  · clear hr
    go_wp2_with fail
    go_ret
    exact ⟨rfl, HB.out.trans (HBw.out.mono HB.out.size)⟩
  have hsz : m.length ≤ 1048576 ∧ total m ≤ 1048576 ∧ 0 ≤ r ∧ r ≤ 1048576 := by omega
  have hr0 := hsz.2.2.1
  have hr1 := hsz.2.2.2
  have HSL := Lib.hid (szRope_calls AL L.length capL w1 (r) hlenL (by omega) (by omega))
  have d0 := (HA.out w1 HBw.out).2
  clear hr
  by_cases hneg2 : r < L.length
  · rw [if_pos hneg2] at HSL
    clear hneg2
    go_wp2_with fail
    refine HSL.out.mono ?_
    rintro e w2 ⟨rfl, hbn⟩
    replace HBw := Lib.hid (HBw.out.trans (hbn.mono HBw.out.size))
    clear hbn
    go_wp2_with fail
    go_ret
    exact ⟨rfl, HB.out.trans (HBw.out.mono HB.out.size)⟩
  rw [if_neg hneg2] at HSL
  have hl20L : L.length ≤ 1048576 := by omega
  have hrl0 : ¬ (r - (L.length : Int)) < 0 := by omega
  clear hneg2
  go_wp2_with fail
  refine HSL.out.mono ?_
  rintro e w2 ⟨rfl, hbn⟩
  replace HBw := Lib.hid (HBw.out.trans (hbn.mono HBw.out.size))
  clear hbn d0 HSL
  have hro : ∀ q ∈ m, q.length ≤ 1048576 := fun q hq => Nat.le_trans (row_le m q hq) hsz.2.1
  have HMS := Lib.hid (show m.length ≤ 2097152 ∧ total m ≤ 2097152 by omega)
  have HT := Lib.hid (fun W (hb : Below w0.heap.size w0 W) => toMemory_calls A cap m W ((HR.out.below (HB.out.trans (hb.mono HB.out.size))).more (Nat.le_trans HB.out.size hb.size)) hsz.1 hro)
  have HTL := Lib.hid (fun W (hb : Below w0.heap.size w0 W) => toRope_calls AL capL L W ((HRL.out.below (HB.out.trans (hb.mono HB.out.size))).more (Nat.le_trans HB.out.size hb.size)) hl20L)
  have HSP : Hid (∀ W X k YL kL, Rd2 W W.heap.size X m → RdW W W.heap.size YL L → Calls Try.prog 26 #[.agg #[.slice X m.length k], .agg #[.slice YL L.length kL]] W (fun e w' => ∃ vB, e = .returned (.tuple #[vB, .bool p1]) ∧ w'.ownsRow W.heap.size 5 1 vB R.length (intV .u8 R) ∧ Below W.heap.size W w')) := Lib.hid (fun W X k YL kL (hx : Rd2 W W.heap.size X m) (hyL : RdW W W.heap.size YL L) => by have hq := specRopeText_calls X k m YL kL L W hx hlen hyL hlenL; rw [hform] at hq; exact hq)
  have HIP : Hid (∀ W X k YL kL, Rd2 W W.heap.size X m → RdW W W.heap.size YL L → Calls Try.prog 27 #[.agg #[.slice X m.length k], .agg #[.slice YL L.length kL]] W (fun e w' => ∃ vB, e = .returned (.tuple #[vB, .bool p1]) ∧ w'.ownsRow W.heap.size 5 1 vB R.length (intV .u8 R) ∧ Below W.heap.size W w')) := Lib.hid (fun W X k YL kL (hx : Rd2 W W.heap.size X m) (hyL : RdW W W.heap.size YL L) => by have hq := implRopeText_calls X k m YL kL L W hx hlen hyL hlenL HWAL.out; rw [hform] at hq; exact hq)
  have HE := Lib.hid (fun W X Y cx cy (hx : Rd2 W W.heap.size X m) (hy : Rd2 W W.heap.size Y m) => eqSame_calls X Y cx cy m W hx hy hlen)
  have HEL := Lib.hid (fun W X Y cx cy (hx : RdW W W.heap.size X L) (hy : RdW W W.heap.size Y L) => eqRope_calls X Y cx cy L W hx hy hl20L)
  have HER := Lib.hid (fun W X Y cx cy (hx : Rd W W.heap.size X (intV .u8 R)) (hy : Rd W W.heap.size Y (intV .u8 R)) => eqB_calls X Y cx cy W hx hy hR1)
  have hself1 : (p1 != p1) = false := by simp
  clear hsz hro hform HR1 HRL HWAL HR
  go_upto_region 8 with fail
  have pc0 : Below w2.heap.size w2 w2.drew := (Below.refl w2.heap.size w2).drew
  have pq0 := pc0.size
  obtain ⟨pa0, pa1⟩ := HA.out _ (HBw.out.trans (pc0.mono HBw.out.size))
  have pS : Hid (∀ W, Below w2.heap.size w2 W → W.cell? ⟨w.heap.size, 0, none⟩ = some (.slice A m.length cap) ∧ W.cell? ⟨w.heap.size + 1, 0, none⟩ = some (.slice AL L.length capL)) := Lib.hid fun W hb => HA.out _ (HBw.out.trans (hb.mono HBw.out.size))
  go_cut [6, 7] (fun s6 s7 wx => ∃ (lo hi : Nat) (v : Value), s6 = v ∧ w2.heap.size ≤ lo ∧ lo ≤ wx.heap.size ∧ hi ≤ wx.heap.size ∧ OwnR wx lo hi 5 v (intV .u8 R) ∧ s7 = .bool p1 ∧ Below w2.heap.size w2 wx)
  case first =>
    go_region_held3 (fun W => W.cell? ⟨w.heap.size, 0, none⟩ = some (.slice A m.length cap) ∧ W.cell? ⟨w.heap.size + 1, 0, none⟩ = some (.slice AL L.length capL))
      (first | (with_reducible exact ⟨pa0, pa1⟩) | exact pS.out _ (by (repeat (first | (with_reducible exact Below.refl _ _) | (with_reducible refine Below.drew ?_) | ((with_reducible refine Below.alloc ?_ ?hB _); case hB => (first | (with_reducible exact Nat.le_refl _) | omega | (simp; done) | (simp; omega))) | ((with_reducible refine Below.setCell ?_ ?hB _); case hB => (first | (with_reducible exact Nat.le_refl _) | omega | (simp; done) | (simp; omega))))); (first | done | exact pc3)) | exact pS.out _ (by (repeat (first | (with_reducible exact Below.refl _ _) | (with_reducible refine Below.drew ?_) | ((with_reducible refine Below.alloc ?_ ?hB _); case hB => (first | (with_reducible exact Nat.le_refl _) | omega | (simp; done) | (simp; omega))) | ((with_reducible refine Below.setCell ?_ ?hB _); case hB => (first | (with_reducible exact Nat.le_refl _) | omega | (simp; done) | (simp; omega))))); (first | done | exact pc2)) | exact pS.out _ (by (repeat (first | (with_reducible exact Below.refl _ _) | (with_reducible refine Below.drew ?_) | ((with_reducible refine Below.alloc ?_ ?hB _); case hB => (first | (with_reducible exact Nat.le_refl _) | omega | (simp; done) | (simp; omega))) | ((with_reducible refine Below.setCell ?_ ?hB _); case hB => (first | (with_reducible exact Nat.le_refl _) | omega | (simp; done) | (simp; omega))))); (first | done | exact pc1)) | exact pS.out _ (by (repeat (first | (with_reducible exact Below.refl _ _) | (with_reducible refine Below.drew ?_) | ((with_reducible refine Below.alloc ?_ ?hB _); case hB => (first | (with_reducible exact Nat.le_refl _) | omega | (simp; done) | (simp; omega))) | ((with_reducible refine Below.setCell ?_ ?hB _); case hB => (first | (with_reducible exact Nat.le_refl _) | omega | (simp; done) | (simp; omega))))); (first | done | exact pc0)) | fail)
      (first | (go_at_call 21; refine (HT.out _ (HBw.out.trans ((show Below w2.heap.size w2 _ by (repeat (first | (with_reducible exact Below.refl _ _) | (with_reducible refine Below.drew ?_) | ((with_reducible refine Below.alloc ?_ ?hB _); case hB => (first | (with_reducible exact Nat.le_refl _) | omega | (simp; done) | (simp; omega))) | ((with_reducible refine Below.setCell ?_ ?hB _); case hB => (first | (with_reducible exact Nat.le_refl _) | omega | (simp; done) | (simp; omega))))); (first | done | exact pc0)).mono HBw.out.size))).mono ?_; rintro e pw1 ⟨pv, rfl, po, pb1⟩; have pc1 : Below w2.heap.size w2 pw1 := below_step (by (repeat (first | (with_reducible exact Below.refl _ _) | (with_reducible refine Below.drew ?_) | ((with_reducible refine Below.alloc ?_ ?hB _); case hB => (first | (with_reducible exact Nat.le_refl _) | omega | (simp; done) | (simp; omega))) | ((with_reducible refine Below.setCell ?_ ?hB _); case hB => (first | (with_reducible exact Nat.le_refl _) | omega | (simp; done) | (simp; omega))))); (first | done | exact pc0)) pb1; have pq1 := pc1.size; obtain ⟨pA, pk, rfl, phk⟩ := po.form; have pr := Lib.hid po.reads; clear po phk; clear pb1) | (go_at_call 22; refine (HTL.out _ (HBw.out.trans ((show Below w2.heap.size w2 _ by (repeat (first | (with_reducible exact Below.refl _ _) | (with_reducible refine Below.drew ?_) | ((with_reducible refine Below.alloc ?_ ?hB _); case hB => (first | (with_reducible exact Nat.le_refl _) | omega | (simp; done) | (simp; omega))) | ((with_reducible refine Below.setCell ?_ ?hB _); case hB => (first | (with_reducible exact Nat.le_refl _) | omega | (simp; done) | (simp; omega))))); (first | done | exact pc1)).mono HBw.out.size))).mono ?_; rintro e pw2 ⟨pvL, rfl, poL, pb2⟩; have pc2 : Below w2.heap.size w2 pw2 := below_step (by (repeat (first | (with_reducible exact Below.refl _ _) | (with_reducible refine Below.drew ?_) | ((with_reducible refine Below.alloc ?_ ?hB _); case hB => (first | (with_reducible exact Nat.le_refl _) | omega | (simp; done) | (simp; omega))) | ((with_reducible refine Below.setCell ?_ ?hB _); case hB => (first | (with_reducible exact Nat.le_refl _) | omega | (simp; done) | (simp; omega))))); (first | done | exact pc1)) pb2; have pq2 := pc2.size; replace pr := Lib.hid ((pr.out.below (show Below pw1.heap.size pw1 pw2 from below_step (by (repeat (first | (with_reducible exact Below.refl _ _) | (with_reducible refine Below.drew ?_) | ((with_reducible refine Below.alloc ?_ ?hB _); case hB => (first | (with_reducible exact Nat.le_refl _) | omega | (simp; done) | (simp; omega))) | ((with_reducible refine Below.setCell ?_ ?hB _); case hB => (first | (with_reducible exact Nat.le_refl _) | omega | (simp; done) | (simp; omega)))))) pb2)).more (show Below pw1.heap.size pw1 pw2 from below_step (by (repeat (first | (with_reducible exact Below.refl _ _) | (with_reducible refine Below.drew ?_) | ((with_reducible refine Below.alloc ?_ ?hB _); case hB => (first | (with_reducible exact Nat.le_refl _) | omega | (simp; done) | (simp; omega))) | ((with_reducible refine Below.setCell ?_ ?hB _); case hB => (first | (with_reducible exact Nat.le_refl _) | omega | (simp; done) | (simp; omega)))))) pb2).size); obtain ⟨pAL, pkL, rfl⟩ := poL.form; have prL := Lib.hid poL.rd; clear poL; clear pb2) | (go_at_call 26; refine (HSP.out _ pA pk pAL pkL ((pr.out.below (show Below pw2.heap.size pw2 _ by (repeat (first | (with_reducible exact Below.refl _ _) | (with_reducible refine Below.drew ?_) | ((with_reducible refine Below.alloc ?_ ?hB _); case hB => (first | (with_reducible exact Nat.le_refl _) | omega | (simp; done) | (simp; omega))) | ((with_reducible refine Below.setCell ?_ ?hB _); case hB => (first | (with_reducible exact Nat.le_refl _) | omega | (simp; done) | (simp; omega))))))).more (show Below pw2.heap.size pw2 _ by (repeat (first | (with_reducible exact Below.refl _ _) | (with_reducible refine Below.drew ?_) | ((with_reducible refine Below.alloc ?_ ?hB _); case hB => (first | (with_reducible exact Nat.le_refl _) | omega | (simp; done) | (simp; omega))) | ((with_reducible refine Below.setCell ?_ ?hB _); case hB => (first | (with_reducible exact Nat.le_refl _) | omega | (simp; done) | (simp; omega)))))).size) ((prL.out.below (show Below pw2.heap.size pw2 _ by (repeat (first | (with_reducible exact Below.refl _ _) | (with_reducible refine Below.drew ?_) | ((with_reducible refine Below.alloc ?_ ?hB _); case hB => (first | (with_reducible exact Nat.le_refl _) | omega | (simp; done) | (simp; omega))) | ((with_reducible refine Below.setCell ?_ ?hB _); case hB => (first | (with_reducible exact Nat.le_refl _) | omega | (simp; done) | (simp; omega))))))).more (show Below pw2.heap.size pw2 _ by (repeat (first | (with_reducible exact Below.refl _ _) | (with_reducible refine Below.drew ?_) | ((with_reducible refine Below.alloc ?_ ?hB _); case hB => (first | (with_reducible exact Nat.le_refl _) | omega | (simp; done) | (simp; omega))) | ((with_reducible refine Below.setCell ?_ ?hB _); case hB => (first | (with_reducible exact Nat.le_refl _) | omega | (simp; done) | (simp; omega)))))).size)).mono ?_; rintro e pw3 ⟨pV, rfl, po, pb3⟩; have pc3 : Below w2.heap.size w2 pw3 := below_step (by (repeat (first | (with_reducible exact Below.refl _ _) | (with_reducible refine Below.drew ?_) | ((with_reducible refine Below.alloc ?_ ?hB _); case hB => (first | (with_reducible exact Nat.le_refl _) | omega | (simp; done) | (simp; omega))) | ((with_reducible refine Below.setCell ?_ ?hB _); case hB => (first | (with_reducible exact Nat.le_refl _) | omega | (simp; done) | (simp; omega))))); (first | done | exact pc2)) pb3; have pq3 := pc3.size; have pt : pw2.heap.size ≤ pw3.heap.size := pb3.size; have pO : OwnR pw3 pw2.heap.size pw3.heap.size 5 pV (intV .u8 R) := OwnR.new (by rw [intV_len]; exact po); obtain ⟨pVA, pVk, rfl⟩ := own_form po; clear po; clear pb3))
    all_goals (go_wp2_with fail)
    all_goals go_meet
    all_goals (first | exact ⟨_, _, _, rfl, pq2, pt, Nat.le_refl _, pO, rfl, by (repeat (first | (with_reducible exact Below.refl _ _) | (with_reducible refine Below.drew ?_) | ((with_reducible refine Below.alloc ?_ ?hB _); case hB => (first | (with_reducible exact Nat.le_refl _) | omega | (simp; done) | (simp; omega))) | ((with_reducible refine Below.setCell ?_ ?hB _); case hB => (first | (with_reducible exact Nat.le_refl _) | omega | (simp; done) | (simp; omega))))); (first | done | exact pc3)⟩)
  case rest =>
    obtain ⟨loP, hiP, vP, rfl, hloP, hleP, hhiP, hmP, rfl, hbn⟩ := hcut
    obtain ⟨w3, hww3⟩ : ∃ w3, w3 = wc := ⟨_, rfl⟩
    subst hww3
    obtain ⟨AP, cP, rfl⟩ := hmP.form
    have HMP := Lib.hid hmP
    clear hmP
    replace HBw := Lib.hid (HBw.out.trans (hbn.mono HBw.out.size))
    clear hbn
    have lo_P := HBw.out.size
    have d0 := (HA.out w3 HBw.out).1
    go_wp2_with fail
    refine (HT.out _ HBw.out).mono ?_
    rintro e w4 ⟨v5, rfl, ho5, hb5⟩
    obtain ⟨AX, kX, rfl, hk5⟩ := ho5.form
    obtain ⟨w5, hw6⟩ : ∃ w5, w4.alloc (.cells #[.slice AX m.length kX] 32) = w5 := ⟨_, rfl⟩
    have hb6 : Below w4.heap.size w4 w5 := by rw [← hw6]; exact (Below.refl _ _).alloc (Nat.le_refl _) _
    have hx6 : w5.heap[w4.heap.size]? = some (.cells #[.slice AX m.length kX] 32) := by rw [← hw6]; exact heap_alloc_new _ _
    have HX := Lib.hid (MBox.mk' (b := w3.heap.size) hx6 (ho5.below hb6) hb5.size (Nat.le_refl _) hb6.size (Nat.le_trans hb5.size hb6.size) (.inr (Nat.le_refl _)))
    have loX : w3.heap.size ≤ w4.heap.size := hb5.size
    have upX : w4.heap.size + 1 ≤ w5.heap.size := (Array.getElem?_eq_some_iff.1 hx6).1
    replace HMP := Lib.hid (HMP.out.below hb5)
    replace HBw := Lib.hid (HBw.out.trans (hb5.mono HBw.out.size))
    replace HMP := Lib.hid (HMP.out.below hb6)
    replace HBw := Lib.hid (HBw.out.trans (hb6.mono HBw.out.size))
    have HW6 := Lib.hid hw6
    clear hb5 hb6 hx6 ho5 hw6 d0 hk5
    go_upto_region 10 with fail
    rw [HW6.out]
    clear HW6
    have d0 := (HA.out w5 HBw.out).2
    go_wp2_with fail
    refine (HTL.out _ HBw.out).mono ?_
    rintro e w6 ⟨v5, rfl, ho5, hb5⟩
    obtain ⟨AXL, kXL, rfl⟩ := ho5.form
    obtain ⟨w7, hw6⟩ : ∃ w7, w6.alloc (.cells #[.slice AXL L.length kXL] 36) = w7 := ⟨_, rfl⟩
    have hb6 : Below w6.heap.size w6 w7 := by rw [← hw6]; exact (Below.refl _ _).alloc (Nat.le_refl _) _
    have hx6 : w7.heap[w6.heap.size]? = some (.cells #[.slice AXL L.length kXL] 36) := by rw [← hw6]; exact heap_alloc_new _ _
    have HXL := Lib.hid (LBox.mk' (b := w5.heap.size) hx6 (ho5.below hb6) hb5.size (Nat.le_refl _) hb6.size (Nat.le_trans hb5.size hb6.size) (.inr (Nat.le_refl _)))
    have loXL : w5.heap.size ≤ w6.heap.size := hb5.size
    have upXL : w6.heap.size + 1 ≤ w7.heap.size := (Array.getElem?_eq_some_iff.1 hx6).1
    replace HMP := Lib.hid (HMP.out.below hb5)
    replace HX := Lib.hid (HX.out.below hb5)
    replace HBw := Lib.hid (HBw.out.trans (hb5.mono HBw.out.size))
    replace HMP := Lib.hid (HMP.out.below hb6)
    replace HX := Lib.hid (HX.out.below hb6)
    replace HBw := Lib.hid (HBw.out.trans (hb6.mono HBw.out.size))
    have HW6 := Lib.hid hw6
    clear hb5 hb6 hx6 ho5 hw6 d0 
    go_upto_region 11 with fail
    rw [HW6.out]
    clear HW6
    have x0 := HX.out.cell
    have x1 := HXL.out.cell
    go_wp2_with fail
    refine (HIP.out w7 AX kX AXL kXL HX.out.own.reads HXL.out.own.rd).mono ?_
    rintro e w8 ⟨vQ, rfl, hoQ, hbn⟩
    obtain ⟨AQ, cQ, rfl⟩ := own_form hoQ
    have HMQ : Hid (OwnR w8 w7.heap.size w8.heap.size 5 (.slice AQ R.length cQ) (intV .u8 R)) := Lib.hid (OwnR.new (by rw [intV_len]; exact hoQ))
    have hleQ : w7.heap.size ≤ w8.heap.size := hbn.size
    replace HMP := Lib.hid (HMP.out.below hbn)
    replace HX := Lib.hid (HX.out.below hbn)
    replace HXL := Lib.hid (HXL.out.below hbn)
    replace HBw := Lib.hid (HBw.out.trans (hbn.mono HBw.out.size))
    clear hbn x0 x1 hoQ
    go_wp2_with fail
    refine (HER.out w8 AQ AP cQ cP HMQ.out.rd HMP.out.rd).mono ?_
    rintro e w9 ⟨rfl, hbn⟩
    replace HMP := Lib.hid (HMP.out.below hbn)
    replace HX := Lib.hid (HX.out.below hbn)
    replace HXL := Lib.hid (HXL.out.below hbn)
    replace HMQ := Lib.hid (HMQ.out.below hbn)
    replace hleQ := Nat.le_trans hleQ hbn.size
    replace HBw := Lib.hid (HBw.out.trans (hbn.mono HBw.out.size))
    clear hbn
    go_wp2_with fail
    have yD := Lib.hid ((Below.refl w9.heap.size w9).drew)
    have y0 := (HA.out w9 HBw.out).1
    have y1 := HX.out.cell
    have y2 : w9.drew.cell? ⟨w.heap.size, 0, none⟩ = some (.slice A m.length cap) := y0
    have y3 : w9.drew.cell? ⟨w4.heap.size, 0, none⟩ = some (.slice AX m.length kX) := y1
    go_region_held3 (fun W => W.cell? ⟨w.heap.size, 0, none⟩ = some (.slice A m.length cap) ∧ W.cell? ⟨w4.heap.size, 0, none⟩ = some (.slice AX m.length kX))
      (first | exact ⟨y2, y3⟩ | exact ⟨(HA.out _ (HBw.out.trans (yc1.mono HBw.out.size))).1, (HX.out.below yc1).cell⟩ | exact ⟨(HA.out _ (HBw.out.trans (yc2.mono HBw.out.size))).1, (HX.out.below yc2).cell⟩)
      (first | (go_at_call 21; refine (HT.out _ HBw.out.drew).mono ?_; rintro e yw1 ⟨yv, rfl, yo, yb1⟩; obtain ⟨yA, yk, rfl, yhk⟩ := yo.form; have yc1 := yD.out.trans yb1) | (go_at_call 24; refine (HE.out yw1 AX yA kX yk (HX.out.below yc1).own.reads yo.reads).mono ?_; rintro e yw2 ⟨rfl, yb2⟩; have yc2 := yc1.trans (yb2.mono yc1.size)))
    replace HMP := Lib.hid (HMP.out.below yc2)
    replace HX := Lib.hid (HX.out.below yc2)
    replace HXL := Lib.hid (HXL.out.below yc2)
    replace HMQ := Lib.hid (HMQ.out.below yc2)
    replace hleQ := Nat.le_trans hleQ yc2.size
    replace HBw := Lib.hid (HBw.out.trans (yc2.mono HBw.out.size))
    clear yb1 yb2 yc1 yc2 y0 y1 y2 y3 yo yhk yD
    go_wp2_with fail
    have zLD := Lib.hid ((Below.refl yw2.heap.size yw2).drew)
    have zL0 := (HA.out yw2 HBw.out).2
    have zL1 := HXL.out.cell
    have zL2 : yw2.drew.cell? ⟨w.heap.size + 1, 0, none⟩ = some (.slice AL L.length capL) := zL0
    have zL3 : yw2.drew.cell? ⟨w6.heap.size, 0, none⟩ = some (.slice AXL L.length kXL) := zL1
    go_region_held3 (fun W => W.cell? ⟨w.heap.size + 1, 0, none⟩ = some (.slice AL L.length capL) ∧ W.cell? ⟨w6.heap.size, 0, none⟩ = some (.slice AXL L.length kXL))
      (first | exact ⟨zL2, zL3⟩ | exact ⟨(HA.out _ (HBw.out.trans (zLc1.mono HBw.out.size))).2, (HXL.out.below zLc1).cell⟩ | exact ⟨(HA.out _ (HBw.out.trans (zLc2.mono HBw.out.size))).2, (HXL.out.below zLc2).cell⟩)
      (first | (go_at_call 22; refine (HTL.out _ HBw.out.drew).mono ?_; rintro e zLw1 ⟨zLv, rfl, zLo, zLb1⟩; obtain ⟨zLA, zLk, rfl⟩ := zLo.form; have zLc1 := zLD.out.trans zLb1) | (go_at_call 25; refine (HEL.out zLw1 AXL zLA kXL zLk (HXL.out.below zLc1).own.rd zLo.rd).mono ?_; rintro e zLw2 ⟨rfl, zLb2⟩; have zLc2 := zLc1.trans (zLb2.mono zLc1.size)))
    replace HMP := Lib.hid (HMP.out.below zLc2)
    replace HX := Lib.hid (HX.out.below zLc2)
    replace HXL := Lib.hid (HXL.out.below zLc2)
    replace HMQ := Lib.hid (HMQ.out.below zLc2)
    replace hleQ := Nat.le_trans hleQ zLc2.size
    replace HBw := Lib.hid (HBw.out.trans (zLc2.mono HBw.out.size))
    clear zLb1 zLb2 zLc1 zLc2 zL0 zL1 zL2 zL3 zLo zLD
    -- marks
    have hXlo := HX.out.loW
    have hXhi := HX.out.hiW
    have HK := Lib.hid (mark1_calls AX kX _ _ m zLw2 HX.out.own HMS.out.1 HMS.out.2 hXlo hXhi)
    have x0 := HX.out.cell
    go_wp2_with fail
    refine HK.out.mono ?_
    rintro e w10 ⟨rfl, ho12, hs12⟩
    replace HMP := Lib.hid (HMP.out.span hs12 (.inl (by omega)))
    replace HMQ := Lib.hid (HMQ.out.span hs12 (.inr (by omega)))
    replace hleQ := Nat.le_trans hleQ hs12.size
    replace HXL := Lib.hid (HXL.out.span hs12 (.inr (by omega)) (.inr (by omega)))
    replace HBw := Lib.hid (HBw.out.trans ((hs12.below hXlo).mono (by have := lo_P; omega)))
    clear ho12 hs12 x0 hXlo hXhi HX HK
    have hXlo := HXL.out.loW
    have HK : Hid (Calls Try.prog 30 #[.agg #[.slice AXL L.length kXL], .int .i64 (1 + (total m : Nat))] w10 fun e w' => e = .returned (.int .i64 (1 + (total m : Nat) + 4 * (L.length : Nat))) ∧ Span w5.heap.size w6.heap.size w10 w') := Lib.hid (by
      have hq := markRope_calls AXL kXL w5.heap.size w6.heap.size L (1 + total m) w10 HXL.out.own (by omega) (by have := HMS.out.2; omega)
      rw [show (((1 + total m : Nat) : Int)) = 1 + (total m : Nat) by omega] at hq
      exact hq)
    have x0 := HXL.out.cell
    go_wp2_with fail
    refine HK.out.mono ?_
    rintro e w11 ⟨rfl, hs12⟩
    replace HMP := Lib.hid (HMP.out.span hs12 (.inl (by omega)))
    replace HMQ := Lib.hid (HMQ.out.span hs12 (.inr (by omega)))
    replace hleQ := Nat.le_trans hleQ hs12.size
    replace HBw := Lib.hid (HBw.out.trans ((hs12.below hXlo).mono (by have := lo_P; omega)))
    clear hs12 x0 hXlo HXL HK
    have hpos : ¬ ((1 : Int) + (total m : Nat) + 4 * (L.length : Nat)) < 0 := by omega
    go_wp2_with fail
    refine (HER.out w11 AQ AP cQ cP HMQ.out.rd HMP.out.rd).mono ?_
    rintro e w12 ⟨rfl, hbn⟩
    replace HMP := Lib.hid (HMP.out.below hbn)
    replace HMQ := Lib.hid (HMQ.out.below hbn)
    replace hleQ := Nat.le_trans hleQ hbn.size
    replace HBw := Lib.hid (HBw.out.trans (hbn.mono HBw.out.size))
    clear hbn
    clear hpos
    have hlohi := hleQ
    have HK2 := Lib.hid (markB1_calls w12 HMQ.out hR1 hlohi)
    go_wp2_with fail
    refine HK2.out.mono ?_
    rintro e w13 ⟨rfl, ho14, hs14⟩
    replace HMQ := Lib.hid ho14
    replace HMP := Lib.hid (HMP.out.span hs14 (.inl (by omega)))
    replace HBw := Lib.hid (HBw.out.trans ((hs14.below hlohi).mono (by have := lo_P; omega)))
    clear ho14 hs14 HK2
    have hposR : ¬ ((1 : Int) + (R.length : Nat)) < 0 := by omega
    have HH := Lib.hid (heldB1_calls w13 HMQ.out hR1)
    go_wp2_with fail
    refine HH.out.mono ?_
    rintro e w14 ⟨rfl, hbn⟩
    replace HMP := Lib.hid (HMP.out.below hbn)
    replace HMQ := Lib.hid (HMQ.out.below hbn)
    replace HBw := Lib.hid (HBw.out.trans (hbn.mono HBw.out.size))
    clear hbn HH
    have hselfR : (((1 : Int) + (R.length : Nat)) != 1 + (R.length : Nat)) = false := by simp
    go_upto_region 31 with fail
    have rc0 : Below w14.heap.size w14 w14.drew := (Below.refl w14.heap.size w14).drew
    have rq0 := rc0.size
    obtain ⟨ra0, ra1⟩ := HA.out _ (HBw.out.trans (rc0.mono HBw.out.size))
    have rS : Hid (∀ W, Below w14.heap.size w14 W → W.cell? ⟨w.heap.size, 0, none⟩ = some (.slice A m.length cap) ∧ W.cell? ⟨w.heap.size + 1, 0, none⟩ = some (.slice AL L.length capL)) := Lib.hid fun W hb => HA.out _ (HBw.out.trans (hb.mono HBw.out.size))
    go_cut [15, 16] (fun s15 s16 wx => ∃ (lo hi : Nat) (v : Value), s15 = v ∧ w14.heap.size ≤ lo ∧ lo ≤ wx.heap.size ∧ hi ≤ wx.heap.size ∧ OwnR wx lo hi 5 v (intV .u8 R) ∧ s16 = .bool p1 ∧ Below w14.heap.size w14 wx)
    case first =>
      go_region_held3 (fun W => W.cell? ⟨w.heap.size, 0, none⟩ = some (.slice A m.length cap) ∧ W.cell? ⟨w.heap.size + 1, 0, none⟩ = some (.slice AL L.length capL))
        (first | (with_reducible exact ⟨ra0, ra1⟩) | exact rS.out _ (by (repeat (first | (with_reducible exact Below.refl _ _) | (with_reducible refine Below.drew ?_) | ((with_reducible refine Below.alloc ?_ ?hB _); case hB => (first | (with_reducible exact Nat.le_refl _) | omega | (simp; done) | (simp; omega))) | ((with_reducible refine Below.setCell ?_ ?hB _); case hB => (first | (with_reducible exact Nat.le_refl _) | omega | (simp; done) | (simp; omega))))); (first | done | exact rc3)) | exact rS.out _ (by (repeat (first | (with_reducible exact Below.refl _ _) | (with_reducible refine Below.drew ?_) | ((with_reducible refine Below.alloc ?_ ?hB _); case hB => (first | (with_reducible exact Nat.le_refl _) | omega | (simp; done) | (simp; omega))) | ((with_reducible refine Below.setCell ?_ ?hB _); case hB => (first | (with_reducible exact Nat.le_refl _) | omega | (simp; done) | (simp; omega))))); (first | done | exact rc2)) | exact rS.out _ (by (repeat (first | (with_reducible exact Below.refl _ _) | (with_reducible refine Below.drew ?_) | ((with_reducible refine Below.alloc ?_ ?hB _); case hB => (first | (with_reducible exact Nat.le_refl _) | omega | (simp; done) | (simp; omega))) | ((with_reducible refine Below.setCell ?_ ?hB _); case hB => (first | (with_reducible exact Nat.le_refl _) | omega | (simp; done) | (simp; omega))))); (first | done | exact rc1)) | exact rS.out _ (by (repeat (first | (with_reducible exact Below.refl _ _) | (with_reducible refine Below.drew ?_) | ((with_reducible refine Below.alloc ?_ ?hB _); case hB => (first | (with_reducible exact Nat.le_refl _) | omega | (simp; done) | (simp; omega))) | ((with_reducible refine Below.setCell ?_ ?hB _); case hB => (first | (with_reducible exact Nat.le_refl _) | omega | (simp; done) | (simp; omega))))); (first | done | exact rc0)) | fail)
        (first | (go_at_call 21; refine (HT.out _ (HBw.out.trans ((show Below w14.heap.size w14 _ by (repeat (first | (with_reducible exact Below.refl _ _) | (with_reducible refine Below.drew ?_) | ((with_reducible refine Below.alloc ?_ ?hB _); case hB => (first | (with_reducible exact Nat.le_refl _) | omega | (simp; done) | (simp; omega))) | ((with_reducible refine Below.setCell ?_ ?hB _); case hB => (first | (with_reducible exact Nat.le_refl _) | omega | (simp; done) | (simp; omega))))); (first | done | exact rc0)).mono HBw.out.size))).mono ?_; rintro e rw1 ⟨rv, rfl, ro, rb1⟩; have rc1 : Below w14.heap.size w14 rw1 := below_step (by (repeat (first | (with_reducible exact Below.refl _ _) | (with_reducible refine Below.drew ?_) | ((with_reducible refine Below.alloc ?_ ?hB _); case hB => (first | (with_reducible exact Nat.le_refl _) | omega | (simp; done) | (simp; omega))) | ((with_reducible refine Below.setCell ?_ ?hB _); case hB => (first | (with_reducible exact Nat.le_refl _) | omega | (simp; done) | (simp; omega))))); (first | done | exact rc0)) rb1; have rq1 := rc1.size; obtain ⟨rA, rk, rfl, rhk⟩ := ro.form; have rr := Lib.hid ro.reads; clear ro rhk; clear rb1) | (go_at_call 22; refine (HTL.out _ (HBw.out.trans ((show Below w14.heap.size w14 _ by (repeat (first | (with_reducible exact Below.refl _ _) | (with_reducible refine Below.drew ?_) | ((with_reducible refine Below.alloc ?_ ?hB _); case hB => (first | (with_reducible exact Nat.le_refl _) | omega | (simp; done) | (simp; omega))) | ((with_reducible refine Below.setCell ?_ ?hB _); case hB => (first | (with_reducible exact Nat.le_refl _) | omega | (simp; done) | (simp; omega))))); (first | done | exact rc1)).mono HBw.out.size))).mono ?_; rintro e rw2 ⟨rvL, rfl, roL, rb2⟩; have rc2 : Below w14.heap.size w14 rw2 := below_step (by (repeat (first | (with_reducible exact Below.refl _ _) | (with_reducible refine Below.drew ?_) | ((with_reducible refine Below.alloc ?_ ?hB _); case hB => (first | (with_reducible exact Nat.le_refl _) | omega | (simp; done) | (simp; omega))) | ((with_reducible refine Below.setCell ?_ ?hB _); case hB => (first | (with_reducible exact Nat.le_refl _) | omega | (simp; done) | (simp; omega))))); (first | done | exact rc1)) rb2; have rq2 := rc2.size; replace rr := Lib.hid ((rr.out.below (show Below rw1.heap.size rw1 rw2 from below_step (by (repeat (first | (with_reducible exact Below.refl _ _) | (with_reducible refine Below.drew ?_) | ((with_reducible refine Below.alloc ?_ ?hB _); case hB => (first | (with_reducible exact Nat.le_refl _) | omega | (simp; done) | (simp; omega))) | ((with_reducible refine Below.setCell ?_ ?hB _); case hB => (first | (with_reducible exact Nat.le_refl _) | omega | (simp; done) | (simp; omega)))))) rb2)).more (show Below rw1.heap.size rw1 rw2 from below_step (by (repeat (first | (with_reducible exact Below.refl _ _) | (with_reducible refine Below.drew ?_) | ((with_reducible refine Below.alloc ?_ ?hB _); case hB => (first | (with_reducible exact Nat.le_refl _) | omega | (simp; done) | (simp; omega))) | ((with_reducible refine Below.setCell ?_ ?hB _); case hB => (first | (with_reducible exact Nat.le_refl _) | omega | (simp; done) | (simp; omega)))))) rb2).size); obtain ⟨rAL, rkL, rfl⟩ := roL.form; have rrL := Lib.hid roL.rd; clear roL; clear rb2) | (go_at_call 27; refine (HIP.out _ rA rk rAL rkL ((rr.out.below (show Below rw2.heap.size rw2 _ by (repeat (first | (with_reducible exact Below.refl _ _) | (with_reducible refine Below.drew ?_) | ((with_reducible refine Below.alloc ?_ ?hB _); case hB => (first | (with_reducible exact Nat.le_refl _) | omega | (simp; done) | (simp; omega))) | ((with_reducible refine Below.setCell ?_ ?hB _); case hB => (first | (with_reducible exact Nat.le_refl _) | omega | (simp; done) | (simp; omega))))))).more (show Below rw2.heap.size rw2 _ by (repeat (first | (with_reducible exact Below.refl _ _) | (with_reducible refine Below.drew ?_) | ((with_reducible refine Below.alloc ?_ ?hB _); case hB => (first | (with_reducible exact Nat.le_refl _) | omega | (simp; done) | (simp; omega))) | ((with_reducible refine Below.setCell ?_ ?hB _); case hB => (first | (with_reducible exact Nat.le_refl _) | omega | (simp; done) | (simp; omega)))))).size) ((rrL.out.below (show Below rw2.heap.size rw2 _ by (repeat (first | (with_reducible exact Below.refl _ _) | (with_reducible refine Below.drew ?_) | ((with_reducible refine Below.alloc ?_ ?hB _); case hB => (first | (with_reducible exact Nat.le_refl _) | omega | (simp; done) | (simp; omega))) | ((with_reducible refine Below.setCell ?_ ?hB _); case hB => (first | (with_reducible exact Nat.le_refl _) | omega | (simp; done) | (simp; omega))))))).more (show Below rw2.heap.size rw2 _ by (repeat (first | (with_reducible exact Below.refl _ _) | (with_reducible refine Below.drew ?_) | ((with_reducible refine Below.alloc ?_ ?hB _); case hB => (first | (with_reducible exact Nat.le_refl _) | omega | (simp; done) | (simp; omega))) | ((with_reducible refine Below.setCell ?_ ?hB _); case hB => (first | (with_reducible exact Nat.le_refl _) | omega | (simp; done) | (simp; omega)))))).size)).mono ?_; rintro e rw3 ⟨rV, rfl, ro, rb3⟩; have rc3 : Below w14.heap.size w14 rw3 := below_step (by (repeat (first | (with_reducible exact Below.refl _ _) | (with_reducible refine Below.drew ?_) | ((with_reducible refine Below.alloc ?_ ?hB _); case hB => (first | (with_reducible exact Nat.le_refl _) | omega | (simp; done) | (simp; omega))) | ((with_reducible refine Below.setCell ?_ ?hB _); case hB => (first | (with_reducible exact Nat.le_refl _) | omega | (simp; done) | (simp; omega))))); (first | done | exact rc2)) rb3; have rq3 := rc3.size; have rt : rw2.heap.size ≤ rw3.heap.size := rb3.size; have rO : OwnR rw3 rw2.heap.size rw3.heap.size 5 rV (intV .u8 R) := OwnR.new (by rw [intV_len]; exact ro); obtain ⟨rVA, rVk, rfl⟩ := own_form ro; clear ro; clear rb3))
      all_goals (go_wp2_with fail)
      all_goals go_meet
      all_goals (first | exact ⟨_, _, _, rfl, rq2, rt, Nat.le_refl _, rO, rfl, by (repeat (first | (with_reducible exact Below.refl _ _) | (with_reducible refine Below.drew ?_) | ((with_reducible refine Below.alloc ?_ ?hB _); case hB => (first | (with_reducible exact Nat.le_refl _) | omega | (simp; done) | (simp; omega))) | ((with_reducible refine Below.setCell ?_ ?hB _); case hB => (first | (with_reducible exact Nat.le_refl _) | omega | (simp; done) | (simp; omega))))); (first | done | exact rc3)⟩)
    case rest =>
      obtain ⟨loT, hiT, vT, rfl, hloT, hleT, hhiT, hmT, rfl, hbn⟩ := hcut
      obtain ⟨w15, hww15⟩ : ∃ w15, w15 = wc := ⟨_, rfl⟩
      subst hww15
      obtain ⟨AT, cT, rfl⟩ := hmT.form
      have HMT := Lib.hid hmT
      clear hmT
      replace HMP := Lib.hid (HMP.out.below hbn)
      replace HMQ := Lib.hid (HMQ.out.below hbn)
      replace HBw := Lib.hid (HBw.out.trans (hbn.mono HBw.out.size))
      clear hbn
      go_wp2_with fail
      refine (HER.out w15 AT AP cT cP HMT.out.rd HMP.out.rd).mono ?_
      rintro e w16 ⟨rfl, hbn⟩
      replace HMP := Lib.hid (HMP.out.below hbn)
      replace HMQ := Lib.hid (HMQ.out.below hbn)
      replace HMT := Lib.hid (HMT.out.below hbn)
      replace HBw := Lib.hid (HBw.out.trans (hbn.mono HBw.out.size))
      clear hbn
      have HH := Lib.hid (heldB1_calls w16 HMQ.out hR1)
      go_wp2_with fail
      refine HH.out.mono ?_
      rintro e w17 ⟨rfl, hbn⟩
      replace HMP := Lib.hid (HMP.out.below hbn)
      replace HMQ := Lib.hid (HMQ.out.below hbn)
      replace HMT := Lib.hid (HMT.out.below hbn)
      replace HBw := Lib.hid (HBw.out.trans (hbn.mono HBw.out.size))
      clear hbn HH
      go_wp2_with fail
      go_ret
      exact ⟨rfl, HB.out.trans (HBw.out.mono HB.out.size)⟩

end Go.Proofs.Ytomebbapjolnlaa
