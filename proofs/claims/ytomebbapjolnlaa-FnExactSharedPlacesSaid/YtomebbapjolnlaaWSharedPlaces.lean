/-
  FnExactSharedPlaces: the walk.
-/
import Derived.Test.YtomebbapjolnlaaBox2
import Derived.Test.YtomebbapjolnlaaRpH
import Derived.Deep.DeepCutAuto
import Derived.Test.YtomebbapjolnlaaRpR
namespace Go.Proofs.Ytomebbapjolnlaa
open Go.RowKit

set_option maxRecDepth 100000 in
set_option maxHeartbeats 6400000 in
theorem fnExactSharedPlaces_walk (A : Option Addr) (len cap : Nat) (m : List (List Int)) (AL : Option Addr) (lenL capL : Nat) (L : List Win) (AQ : Option Addr) (lenQ capQ : Nat) (Q : List Win) (w : World) (h : MArg w A len cap m) (hL : WsArg w AL lenL capL L) (hQ : WsArg w AQ lenQ capQ Q) :
    Calls Try.prog 15 #[.agg #[.slice A len cap], .agg #[.slice AL lenL capL], .agg #[.slice AQ lenQ capQ]] w fun e w' => e = .returned (.bool true) ∧ Below w.heap.size w w' := by
  obtain ⟨rfl, h1, h2, hr, hzz⟩ := h
  obtain ⟨rfl, g1L, g2L, hrL, hwaL⟩ := hL
  obtain ⟨rfl, g1Q, g2Q, hrQ, hwaQ⟩ := hQ
  obtain ⟨y0, p1, hform⟩ : ∃ (y0 : Int) (p1 : Bool), sharedR m L Q = (y0, p1) := ⟨_, _, rfl⟩
  obtain ⟨w0, hw0⟩ : ∃ w0, (((w.alloc (.cells #[.slice A m.length cap] 24)).alloc (.cells #[.slice AL L.length capL] 27)).alloc (.cells #[.slice AQ Q.length capQ] 27)) = w0 := ⟨_, rfl⟩
  have hb0 : Below w.heap.size w w0 := by rw [← hw0]; (repeat (first | (with_reducible exact Below.refl _ _) | (with_reducible refine Below.drew ?_) | ((with_reducible refine Below.alloc ?_ ?hB _); case hB => (first | (with_reducible exact Nat.le_refl _) | omega | (simp; done) | (simp; omega))) | ((with_reducible refine Below.setCell ?_ ?hB _); case hB => (first | (with_reducible exact Nat.le_refl _) | omega | (simp; done) | (simp; omega)))))
  have hg0 : w0.heap[w.heap.size]? = some (.cells #[.slice A m.length cap] 24) := by rw [← hw0]; exact alloc_old _ (alloc_old _ ((by simpa using heap_alloc_new w (.cells #[.slice A m.length cap] 24))))
  have hg1 : w0.heap[w.heap.size + 1]? = some (.cells #[.slice AL L.length capL] 27) := by rw [← hw0]; exact alloc_old _ ((by simpa using heap_alloc_new (w.alloc (.cells #[.slice A m.length cap] 24)) (.cells #[.slice AL L.length capL] 27)))
  have hg2 : w0.heap[w.heap.size + 1 + 1]? = some (.cells #[.slice AQ Q.length capQ] 27) := by rw [← hw0]; exact (by simpa using heap_alloc_new ((w.alloc (.cells #[.slice A m.length cap] 24)).alloc (.cells #[.slice AL L.length capL] 27)) (.cells #[.slice AQ Q.length capQ] 27))
  have hlen : m.length ≤ maxLen := by omega
  have HS := Lib.hid (szMemory_calls A cap m w0 1048576 ((hr.below hb0).more hb0.size) hlen (by omega) (by omega))
  have HB := Lib.hid hb0
  have HW := Lib.hid hw0
  have HR := Lib.hid hr
  have HRL := Lib.hid hrL
  have HWAL := Lib.hid hwaL
  have hlenL : L.length ≤ maxLen := by omega
  have HRQ := Lib.hid hrQ
  have HWAQ := Lib.hid hwaQ
  have hlenQ : Q.length ≤ maxLen := by omega
  have HA : Hid (∀ W, Below w0.heap.size w0 W → W.cell? ⟨w.heap.size, 0, none⟩ = some (.slice A m.length cap) ∧ W.cell? ⟨w.heap.size + 1, 0, none⟩ = some (.slice AL L.length capL) ∧ W.cell? ⟨w.heap.size + 1 + 1, 0, none⟩ = some (.slice AQ Q.length capQ)) := Lib.hid fun W hb => ⟨one_cell ((hb.block _ (Array.getElem?_eq_some_iff.1 hg0).1).trans hg0), one_cell ((hb.block _ (Array.getElem?_eq_some_iff.1 hg1).1).trans hg1), one_cell ((hb.block _ (Array.getElem?_eq_some_iff.1 hg2).1).trans hg2)⟩
  obtain ⟨c0, c1, c2⟩ := HA.out w0 (Below.refl _ _)
  clear hr hzz hb0 hw0 hrL hwaL hrQ hwaQ hg0 hg1 hg2 
  go_enter Try.func15, Try.ntmps15
  go_wp2_with fail
  rw [HW.out]
  refine HS.out.mono ?_
  rintro e w1 ⟨⟨r, rfl, hr⟩, hb1⟩
  have HR1 := Lib.hid hr
  have HBw := Lib.hid hb1
  clear hb1 c0 c1 c2
  by_cases hneg : r < 0
  · clear hr
    go_wp2_with fail
    go_ret
    exact ⟨rfl, HB.out.trans (HBw.out.mono HB.out.size)⟩
  have hsz : m.length ≤ 1048576 ∧ total m ≤ 1048576 ∧ 0 ≤ r ∧ r ≤ 1048576 := by omega
  have hr0 := hsz.2.2.1
  have hr1 := hsz.2.2.2
  have HSL := Lib.hid (szRope_calls AL L.length capL w1 (r) hlenL (by omega) (by omega))
  have d0 := (HA.out w1 HBw.out).2.1
  clear hr
  by_cases hneg2 : r < L.length
  · rw [if_pos hneg2] at HSL
    clear hneg2
    go_wp2_with fail
    refine HSL.out.mono ?_
    rintro e w2 ⟨rfl, hbn⟩
    replace HBw := Lib.hid (HBw.out.trans (hbn.mono HBw.out.size))
    clear hbn
    go_wp2_with fail
    go_ret
    exact ⟨rfl, HB.out.trans (HBw.out.mono HB.out.size)⟩
  rw [if_neg hneg2] at HSL
  have hl20L : L.length ≤ 1048576 := by omega
  have hrl0 : ¬ (r - (L.length : Int)) < 0 := by omega
  clear hneg2
  go_wp2_with fail
  refine HSL.out.mono ?_
  rintro e w2 ⟨rfl, hbn⟩
  replace HBw := Lib.hid (HBw.out.trans (hbn.mono HBw.out.size))
  clear hbn d0 HSL
  have HSL := Lib.hid (szRope_calls AQ Q.length capQ w2 (r - (L.length : Int)) hlenQ (by omega) (by omega))
  have d0 := (HA.out w2 HBw.out).2.2
  by_cases hneg3 : r - (L.length : Int) < Q.length
  · rw [if_pos hneg3] at HSL
    clear hneg3
    go_wp2_with fail
    refine HSL.out.mono ?_
    rintro e w3 ⟨rfl, hbn⟩
    replace HBw := Lib.hid (HBw.out.trans (hbn.mono HBw.out.size))
    clear hbn
    go_wp2_with fail
    go_ret
    exact ⟨rfl, HB.out.trans (HBw.out.mono HB.out.size)⟩
  rw [if_neg hneg3] at HSL
  have hl20Q : Q.length ≤ 1048576 := by omega
  have hrl1 : ¬ (r - (L.length : Int) - (Q.length : Int)) < 0 := by omega
  clear hneg3
  go_wp2_with fail
  refine HSL.out.mono ?_
  rintro e w3 ⟨rfl, hbn⟩
  replace HBw := Lib.hid (HBw.out.trans (hbn.mono HBw.out.size))
  clear hbn d0 HSL
  have hro : ∀ q ∈ m, q.length ≤ 1048576 := fun q hq => Nat.le_trans (row_le m q hq) hsz.2.1
  have HMS := Lib.hid (show m.length ≤ 2097152 ∧ total m ≤ 2097152 by omega)
  have HT := Lib.hid (fun W (hb : Below w0.heap.size w0 W) => toMemory_calls A cap m W ((HR.out.below (HB.out.trans (hb.mono HB.out.size))).more (Nat.le_trans HB.out.size hb.size)) hsz.1 hro)
  have HTL := Lib.hid (fun W (hb : Below w0.heap.size w0 W) => toRope_calls AL capL L W ((HRL.out.below (HB.out.trans (hb.mono HB.out.size))).more (Nat.le_trans HB.out.size hb.size)) hl20L)
  have HTQ := Lib.hid (fun W (hb : Below w0.heap.size w0 W) => toRope_calls AQ capQ Q W ((HRQ.out.below (HB.out.trans (hb.mono HB.out.size))).more (Nat.le_trans HB.out.size hb.size)) hl20Q)
  have HSP : Hid (∀ W X k YL kL YQ kQ, Rd2 W W.heap.size X m → RdW W W.heap.size YL L → RdW W W.heap.size YQ Q → Calls Try.prog 56 #[.agg #[.slice X m.length k], .agg #[.slice YL L.length kL], .agg #[.slice YQ Q.length kQ]] W (fun e w' => e = .returned (.tuple #[.int .i64 y0, .bool p1]) ∧ Below W.heap.size W w')) := Lib.hid (fun W X k YL kL YQ kQ (hx : Rd2 W W.heap.size X m) (hyL : RdW W W.heap.size YL L) (hyQ : RdW W W.heap.size YQ Q) => by have hq := specSharedPlaces_calls X k m YL kL L YQ kQ Q W hx hlen hyL hlenL hyQ hlenQ; rw [hform] at hq; exact hq)
  have HIP : Hid (∀ W X k YL kL YQ kQ, Rd2 W W.heap.size X m → RdW W W.heap.size YL L → RdW W W.heap.size YQ Q → Calls Try.prog 57 #[.agg #[.slice X m.length k], .agg #[.slice YL L.length kL], .agg #[.slice YQ Q.length kQ]] W (fun e w' => e = .returned (.tuple #[.int .i64 y0, .bool p1]) ∧ Below W.heap.size W w')) := Lib.hid (fun W X k YL kL YQ kQ (hx : Rd2 W W.heap.size X m) (hyL : RdW W W.heap.size YL L) (hyQ : RdW W W.heap.size YQ Q) => by have hq := implSharedPlaces_calls X k m YL kL L YQ kQ Q W hx hlen hyL hlenL hyQ hlenQ HWAL.out HWAQ.out; rw [hform] at hq; exact hq)
  have HE := Lib.hid (fun W X Y cx cy (hx : Rd2 W W.heap.size X m) (hy : Rd2 W W.heap.size Y m) => eqSame_calls X Y cx cy m W hx hy hlen)
  have HEL := Lib.hid (fun W X Y cx cy (hx : RdW W W.heap.size X L) (hy : RdW W W.heap.size Y L) => eqRope_calls X Y cx cy L W hx hy hl20L)
  have HEQ := Lib.hid (fun W X Y cx cy (hx : RdW W W.heap.size X Q) (hy : RdW W W.heap.size Y Q) => eqRope_calls X Y cx cy Q W hx hy hl20Q)
  have hself0 : (y0 != y0) = false := by simp
  have hself1 : (p1 != p1) = false := by simp
  clear hsz hro hform HR1 HRL HWAL HRQ HWAQ HR
  go_upto_region 11 with fail
  have pc0 : Below w3.heap.size w3 w3.drew := (Below.refl w3.heap.size w3).drew
  have pq0 := pc0.size
  obtain ⟨pa0, pa1, pa2⟩ := HA.out _ (HBw.out.trans (pc0.mono HBw.out.size))
  have pS : Hid (∀ W, Below w3.heap.size w3 W → W.cell? ⟨w.heap.size, 0, none⟩ = some (.slice A m.length cap) ∧ W.cell? ⟨w.heap.size + 1, 0, none⟩ = some (.slice AL L.length capL) ∧ W.cell? ⟨w.heap.size + 1 + 1, 0, none⟩ = some (.slice AQ Q.length capQ)) := Lib.hid fun W hb => HA.out _ (HBw.out.trans (hb.mono HBw.out.size))
  go_cut [8, 9] (fun s8 s9 wx => s8 = .int .i64 y0 ∧ s9 = .bool p1 ∧ Below w3.heap.size w3 wx)
  case first =>
    go_region_held3 (fun W => W.cell? ⟨w.heap.size, 0, none⟩ = some (.slice A m.length cap) ∧ W.cell? ⟨w.heap.size + 1, 0, none⟩ = some (.slice AL L.length capL) ∧ W.cell? ⟨w.heap.size + 1 + 1, 0, none⟩ = some (.slice AQ Q.length capQ))
      (first | (with_reducible exact ⟨pa0, pa1, pa2⟩) | exact pS.out _ (by (repeat (first | (with_reducible exact Below.refl _ _) | (with_reducible refine Below.drew ?_) | ((with_reducible refine Below.alloc ?_ ?hB _); case hB => (first | (with_reducible exact Nat.le_refl _) | omega | (simp; done) | (simp; omega))) | ((with_reducible refine Below.setCell ?_ ?hB _); case hB => (first | (with_reducible exact Nat.le_refl _) | omega | (simp; done) | (simp; omega))))); (first | done | exact pc4)) | exact pS.out _ (by (repeat (first | (with_reducible exact Below.refl _ _) | (with_reducible refine Below.drew ?_) | ((with_reducible refine Below.alloc ?_ ?hB _); case hB => (first | (with_reducible exact Nat.le_refl _) | omega | (simp; done) | (simp; omega))) | ((with_reducible refine Below.setCell ?_ ?hB _); case hB => (first | (with_reducible exact Nat.le_refl _) | omega | (simp; done) | (simp; omega))))); (first | done | exact pc3)) | exact pS.out _ (by (repeat (first | (with_reducible exact Below.refl _ _) | (with_reducible refine Below.drew ?_) | ((with_reducible refine Below.alloc ?_ ?hB _); case hB => (first | (with_reducible exact Nat.le_refl _) | omega | (simp; done) | (simp; omega))) | ((with_reducible refine Below.setCell ?_ ?hB _); case hB => (first | (with_reducible exact Nat.le_refl _) | omega | (simp; done) | (simp; omega))))); (first | done | exact pc2)) | exact pS.out _ (by (repeat (first | (with_reducible exact Below.refl _ _) | (with_reducible refine Below.drew ?_) | ((with_reducible refine Below.alloc ?_ ?hB _); case hB => (first | (with_reducible exact Nat.le_refl _) | omega | (simp; done) | (simp; omega))) | ((with_reducible refine Below.setCell ?_ ?hB _); case hB => (first | (with_reducible exact Nat.le_refl _) | omega | (simp; done) | (simp; omega))))); (first | done | exact pc1)) | exact pS.out _ (by (repeat (first | (with_reducible exact Below.refl _ _) | (with_reducible refine Below.drew ?_) | ((with_reducible refine Below.alloc ?_ ?hB _); case hB => (first | (with_reducible exact Nat.le_refl _) | omega | (simp; done) | (simp; omega))) | ((with_reducible refine Below.setCell ?_ ?hB _); case hB => (first | (with_reducible exact Nat.le_refl _) | omega | (simp; done) | (simp; omega))))); (first | done | exact pc0)) | fail)
      (first | (go_at_call 56; refine (HSP.out _ pA pk pAL pkL pAQ pkQ ((pr.out.below (show Below pw3.heap.size pw3 _ by (repeat (first | (with_reducible exact Below.refl _ _) | (with_reducible refine Below.drew ?_) | ((with_reducible refine Below.alloc ?_ ?hB _); case hB => (first | (with_reducible exact Nat.le_refl _) | omega | (simp; done) | (simp; omega))) | ((with_reducible refine Below.setCell ?_ ?hB _); case hB => (first | (with_reducible exact Nat.le_refl _) | omega | (simp; done) | (simp; omega))))))).more (show Below pw3.heap.size pw3 _ by (repeat (first | (with_reducible exact Below.refl _ _) | (with_reducible refine Below.drew ?_) | ((with_reducible refine Below.alloc ?_ ?hB _); case hB => (first | (with_reducible exact Nat.le_refl _) | omega | (simp; done) | (simp; omega))) | ((with_reducible refine Below.setCell ?_ ?hB _); case hB => (first | (with_reducible exact Nat.le_refl _) | omega | (simp; done) | (simp; omega)))))).size) ((prL.out.below (show Below pw3.heap.size pw3 _ by (repeat (first | (with_reducible exact Below.refl _ _) | (with_reducible refine Below.drew ?_) | ((with_reducible refine Below.alloc ?_ ?hB _); case hB => (first | (with_reducible exact Nat.le_refl _) | omega | (simp; done) | (simp; omega))) | ((with_reducible refine Below.setCell ?_ ?hB _); case hB => (first | (with_reducible exact Nat.le_refl _) | omega | (simp; done) | (simp; omega))))))).more (show Below pw3.heap.size pw3 _ by (repeat (first | (with_reducible exact Below.refl _ _) | (with_reducible refine Below.drew ?_) | ((with_reducible refine Below.alloc ?_ ?hB _); case hB => (first | (with_reducible exact Nat.le_refl _) | omega | (simp; done) | (simp; omega))) | ((with_reducible refine Below.setCell ?_ ?hB _); case hB => (first | (with_reducible exact Nat.le_refl _) | omega | (simp; done) | (simp; omega)))))).size) ((prQ.out.below (show Below pw3.heap.size pw3 _ by (repeat (first | (with_reducible exact Below.refl _ _) | (with_reducible refine Below.drew ?_) | ((with_reducible refine Below.alloc ?_ ?hB _); case hB => (first | (with_reducible exact Nat.le_refl _) | omega | (simp; done) | (simp; omega))) | ((with_reducible refine Below.setCell ?_ ?hB _); case hB => (first | (with_reducible exact Nat.le_refl _) | omega | (simp; done) | (simp; omega))))))).more (show Below pw3.heap.size pw3 _ by (repeat (first | (with_reducible exact Below.refl _ _) | (with_reducible refine Below.drew ?_) | ((with_reducible refine Below.alloc ?_ ?hB _); case hB => (first | (with_reducible exact Nat.le_refl _) | omega | (simp; done) | (simp; omega))) | ((with_reducible refine Below.setCell ?_ ?hB _); case hB => (first | (with_reducible exact Nat.le_refl _) | omega | (simp; done) | (simp; omega)))))).size)).mono ?_; rintro e pw4 ⟨rfl, pb4⟩; have pc4 : Below w3.heap.size w3 pw4 := below_step (by (repeat (first | (with_reducible exact Below.refl _ _) | (with_reducible refine Below.drew ?_) | ((with_reducible refine Below.alloc ?_ ?hB _); case hB => (first | (with_reducible exact Nat.le_refl _) | omega | (simp; done) | (simp; omega))) | ((with_reducible refine Below.setCell ?_ ?hB _); case hB => (first | (with_reducible exact Nat.le_refl _) | omega | (simp; done) | (simp; omega))))); (first | done | exact pc3)) pb4; have pq4 := pc4.size; skip; clear pb4) | (go_at_call 22; refine (HTQ.out _ (HBw.out.trans ((show Below w3.heap.size w3 _ by (repeat (first | (with_reducible exact Below.refl _ _) | (with_reducible refine Below.drew ?_) | ((with_reducible refine Below.alloc ?_ ?hB _); case hB => (first | (with_reducible exact Nat.le_refl _) | omega | (simp; done) | (simp; omega))) | ((with_reducible refine Below.setCell ?_ ?hB _); case hB => (first | (with_reducible exact Nat.le_refl _) | omega | (simp; done) | (simp; omega))))); (first | done | exact pc2)).mono HBw.out.size))).mono ?_; rintro e pw3 ⟨pvQ, rfl, poQ, pb3⟩; have pc3 : Below w3.heap.size w3 pw3 := below_step (by (repeat (first | (with_reducible exact Below.refl _ _) | (with_reducible refine Below.drew ?_) | ((with_reducible refine Below.alloc ?_ ?hB _); case hB => (first | (with_reducible exact Nat.le_refl _) | omega | (simp; done) | (simp; omega))) | ((with_reducible refine Below.setCell ?_ ?hB _); case hB => (first | (with_reducible exact Nat.le_refl _) | omega | (simp; done) | (simp; omega))))); (first | done | exact pc2)) pb3; have pq3 := pc3.size; replace pr := Lib.hid ((pr.out.below (show Below pw2.heap.size pw2 pw3 from below_step (by (repeat (first | (with_reducible exact Below.refl _ _) | (with_reducible refine Below.drew ?_) | ((with_reducible refine Below.alloc ?_ ?hB _); case hB => (first | (with_reducible exact Nat.le_refl _) | omega | (simp; done) | (simp; omega))) | ((with_reducible refine Below.setCell ?_ ?hB _); case hB => (first | (with_reducible exact Nat.le_refl _) | omega | (simp; done) | (simp; omega)))))) pb3)).more (show Below pw2.heap.size pw2 pw3 from below_step (by (repeat (first | (with_reducible exact Below.refl _ _) | (with_reducible refine Below.drew ?_) | ((with_reducible refine Below.alloc ?_ ?hB _); case hB => (first | (with_reducible exact Nat.le_refl _) | omega | (simp; done) | (simp; omega))) | ((with_reducible refine Below.setCell ?_ ?hB _); case hB => (first | (with_reducible exact Nat.le_refl _) | omega | (simp; done) | (simp; omega)))))) pb3).size); replace prL := Lib.hid ((prL.out.below (show Below pw2.heap.size pw2 pw3 from below_step (by (repeat (first | (with_reducible exact Below.refl _ _) | (with_reducible refine Below.drew ?_) | ((with_reducible refine Below.alloc ?_ ?hB _); case hB => (first | (with_reducible exact Nat.le_refl _) | omega | (simp; done) | (simp; omega))) | ((with_reducible refine Below.setCell ?_ ?hB _); case hB => (first | (with_reducible exact Nat.le_refl _) | omega | (simp; done) | (simp; omega)))))) pb3)).more (show Below pw2.heap.size pw2 pw3 from below_step (by (repeat (first | (with_reducible exact Below.refl _ _) | (with_reducible refine Below.drew ?_) | ((with_reducible refine Below.alloc ?_ ?hB _); case hB => (first | (with_reducible exact Nat.le_refl _) | omega | (simp; done) | (simp; omega))) | ((with_reducible refine Below.setCell ?_ ?hB _); case hB => (first | (with_reducible exact Nat.le_refl _) | omega | (simp; done) | (simp; omega)))))) pb3).size); obtain ⟨pAQ, pkQ, rfl⟩ := poQ.form; have prQ := Lib.hid poQ.rd; clear poQ; clear pb3) | (go_at_call 22; refine (HTL.out _ (HBw.out.trans ((show Below w3.heap.size w3 _ by (repeat (first | (with_reducible exact Below.refl _ _) | (with_reducible refine Below.drew ?_) | ((with_reducible refine Below.alloc ?_ ?hB _); case hB => (first | (with_reducible exact Nat.le_refl _) | omega | (simp; done) | (simp; omega))) | ((with_reducible refine Below.setCell ?_ ?hB _); case hB => (first | (with_reducible exact Nat.le_refl _) | omega | (simp; done) | (simp; omega))))); (first | done | exact pc1)).mono HBw.out.size))).mono ?_; rintro e pw2 ⟨pvL, rfl, poL, pb2⟩; have pc2 : Below w3.heap.size w3 pw2 := below_step (by (repeat (first | (with_reducible exact Below.refl _ _) | (with_reducible refine Below.drew ?_) | ((with_reducible refine Below.alloc ?_ ?hB _); case hB => (first | (with_reducible exact Nat.le_refl _) | omega | (simp; done) | (simp; omega))) | ((with_reducible refine Below.setCell ?_ ?hB _); case hB => (first | (with_reducible exact Nat.le_refl _) | omega | (simp; done) | (simp; omega))))); (first | done | exact pc1)) pb2; have pq2 := pc2.size; replace pr := Lib.hid ((pr.out.below (show Below pw1.heap.size pw1 pw2 from below_step (by (repeat (first | (with_reducible exact Below.refl _ _) | (with_reducible refine Below.drew ?_) | ((with_reducible refine Below.alloc ?_ ?hB _); case hB => (first | (with_reducible exact Nat.le_refl _) | omega | (simp; done) | (simp; omega))) | ((with_reducible refine Below.setCell ?_ ?hB _); case hB => (first | (with_reducible exact Nat.le_refl _) | omega | (simp; done) | (simp; omega)))))) pb2)).more (show Below pw1.heap.size pw1 pw2 from below_step (by (repeat (first | (with_reducible exact Below.refl _ _) | (with_reducible refine Below.drew ?_) | ((with_reducible refine Below.alloc ?_ ?hB _); case hB => (first | (with_reducible exact Nat.le_refl _) | omega | (simp; done) | (simp; omega))) | ((with_reducible refine Below.setCell ?_ ?hB _); case hB => (first | (with_reducible exact Nat.le_refl _) | omega | (simp; done) | (simp; omega)))))) pb2).size); obtain ⟨pAL, pkL, rfl⟩ := poL.form; have prL := Lib.hid poL.rd; clear poL; clear pb2) | (go_at_call 21; refine (HT.out _ (HBw.out.trans ((show Below w3.heap.size w3 _ by (repeat (first | (with_reducible exact Below.refl _ _) | (with_reducible refine Below.drew ?_) | ((with_reducible refine Below.alloc ?_ ?hB _); case hB => (first | (with_reducible exact Nat.le_refl _) | omega | (simp; done) | (simp; omega))) | ((with_reducible refine Below.setCell ?_ ?hB _); case hB => (first | (with_reducible exact Nat.le_refl _) | omega | (simp; done) | (simp; omega))))); (first | done | exact pc0)).mono HBw.out.size))).mono ?_; rintro e pw1 ⟨pv, rfl, po, pb1⟩; have pc1 : Below w3.heap.size w3 pw1 := below_step (by (repeat (first | (with_reducible exact Below.refl _ _) | (with_reducible refine Below.drew ?_) | ((with_reducible refine Below.alloc ?_ ?hB _); case hB => (first | (with_reducible exact Nat.le_refl _) | omega | (simp; done) | (simp; omega))) | ((with_reducible refine Below.setCell ?_ ?hB _); case hB => (first | (with_reducible exact Nat.le_refl _) | omega | (simp; done) | (simp; omega))))); (first | done | exact pc0)) pb1; have pq1 := pc1.size; obtain ⟨pA, pk, rfl, phk⟩ := po.form; have pr := Lib.hid po.reads; clear po phk; clear pb1))
    all_goals (go_wp2_with fail)
    all_goals go_meet
    all_goals (first | exact ⟨rfl, rfl, by (repeat (first | (with_reducible exact Below.refl _ _) | (with_reducible refine Below.drew ?_) | ((with_reducible refine Below.alloc ?_ ?hB _); case hB => (first | (with_reducible exact Nat.le_refl _) | omega | (simp; done) | (simp; omega))) | ((with_reducible refine Below.setCell ?_ ?hB _); case hB => (first | (with_reducible exact Nat.le_refl _) | omega | (simp; done) | (simp; omega))))); (first | done | exact pc4)⟩)
  case rest =>
    obtain ⟨rfl, rfl, hbn⟩ := hcut
    obtain ⟨w4, hww4⟩ : ∃ w4, w4 = wc := ⟨_, rfl⟩
    subst hww4
    replace HBw := Lib.hid (HBw.out.trans (hbn.mono HBw.out.size))
    clear hbn
    have lo_P := HBw.out.size
    have d0 := (HA.out w4 HBw.out).1
    go_wp2_with fail
    refine (HT.out _ HBw.out).mono ?_
    rintro e w5 ⟨v5, rfl, ho5, hb5⟩
    obtain ⟨AX, kX, rfl, hk5⟩ := ho5.form
    obtain ⟨w6, hw6⟩ : ∃ w6, w5.alloc (.cells #[.slice AX m.length kX] 32) = w6 := ⟨_, rfl⟩
    have hb6 : Below w5.heap.size w5 w6 := by rw [← hw6]; exact (Below.refl _ _).alloc (Nat.le_refl _) _
    have hx6 : w6.heap[w5.heap.size]? = some (.cells #[.slice AX m.length kX] 32) := by rw [← hw6]; exact heap_alloc_new _ _
    have HX := Lib.hid (MBox.mk' (b := w4.heap.size) hx6 (ho5.below hb6) hb5.size (Nat.le_refl _) hb6.size (Nat.le_trans hb5.size hb6.size) (.inr (Nat.le_refl _)))
    have loX : w4.heap.size ≤ w5.heap.size := hb5.size
    have upX : w5.heap.size + 1 ≤ w6.heap.size := (Array.getElem?_eq_some_iff.1 hx6).1
    replace HBw := Lib.hid (HBw.out.trans (hb5.mono HBw.out.size))
    replace HBw := Lib.hid (HBw.out.trans (hb6.mono HBw.out.size))
    have HW6 := Lib.hid hw6
    clear hb5 hb6 hx6 ho5 hw6 d0 hk5
    go_upto_region 13 with fail
    rw [HW6.out]
    clear HW6
    have d0 := (HA.out w6 HBw.out).2.1
    go_wp2_with fail
    refine (HTL.out _ HBw.out).mono ?_
    rintro e w7 ⟨v5, rfl, ho5, hb5⟩
    obtain ⟨AXL, kXL, rfl⟩ := ho5.form
    obtain ⟨w8, hw6⟩ : ∃ w8, w7.alloc (.cells #[.slice AXL L.length kXL] 36) = w8 := ⟨_, rfl⟩
    have hb6 : Below w7.heap.size w7 w8 := by rw [← hw6]; exact (Below.refl _ _).alloc (Nat.le_refl _) _
    have hx6 : w8.heap[w7.heap.size]? = some (.cells #[.slice AXL L.length kXL] 36) := by rw [← hw6]; exact heap_alloc_new _ _
    have HXL := Lib.hid (LBox.mk' (b := w6.heap.size) hx6 (ho5.below hb6) hb5.size (Nat.le_refl _) hb6.size (Nat.le_trans hb5.size hb6.size) (.inr (Nat.le_refl _)))
    have loXL : w6.heap.size ≤ w7.heap.size := hb5.size
    have upXL : w7.heap.size + 1 ≤ w8.heap.size := (Array.getElem?_eq_some_iff.1 hx6).1
    replace HX := Lib.hid (HX.out.below hb5)
    replace HBw := Lib.hid (HBw.out.trans (hb5.mono HBw.out.size))
    replace HX := Lib.hid (HX.out.below hb6)
    replace HBw := Lib.hid (HBw.out.trans (hb6.mono HBw.out.size))
    have HW6 := Lib.hid hw6
    clear hb5 hb6 hx6 ho5 hw6 d0 
    go_upto_region 14 with fail
    rw [HW6.out]
    clear HW6
    have d0 := (HA.out w8 HBw.out).2.2
    go_wp2_with fail
    refine (HTQ.out _ HBw.out).mono ?_
    rintro e w9 ⟨v5, rfl, ho5, hb5⟩
    obtain ⟨AXQ, kXQ, rfl⟩ := ho5.form
    obtain ⟨w10, hw6⟩ : ∃ w10, w9.alloc (.cells #[.slice AXQ Q.length kXQ] 36) = w10 := ⟨_, rfl⟩
    have hb6 : Below w9.heap.size w9 w10 := by rw [← hw6]; exact (Below.refl _ _).alloc (Nat.le_refl _) _
    have hx6 : w10.heap[w9.heap.size]? = some (.cells #[.slice AXQ Q.length kXQ] 36) := by rw [← hw6]; exact heap_alloc_new _ _
    have HXQ := Lib.hid (LBox.mk' (b := w8.heap.size) hx6 (ho5.below hb6) hb5.size (Nat.le_refl _) hb6.size (Nat.le_trans hb5.size hb6.size) (.inr (Nat.le_refl _)))
    have loXQ : w8.heap.size ≤ w9.heap.size := hb5.size
    have upXQ : w9.heap.size + 1 ≤ w10.heap.size := (Array.getElem?_eq_some_iff.1 hx6).1
    replace HX := Lib.hid (HX.out.below hb5)
    replace HXL := Lib.hid (HXL.out.below hb5)
    replace HBw := Lib.hid (HBw.out.trans (hb5.mono HBw.out.size))
    replace HX := Lib.hid (HX.out.below hb6)
    replace HXL := Lib.hid (HXL.out.below hb6)
    replace HBw := Lib.hid (HBw.out.trans (hb6.mono HBw.out.size))
    have HW6 := Lib.hid hw6
    clear hb5 hb6 hx6 ho5 hw6 d0 
    go_upto_region 15 with fail
    rw [HW6.out]
    clear HW6
    have x0 := HX.out.cell
    have x1 := HXL.out.cell
    have x2 := HXQ.out.cell
    go_wp2_with fail
    refine (HIP.out w10 AX kX AXL kXL AXQ kXQ HX.out.own.reads HXL.out.own.rd HXQ.out.own.rd).mono ?_
    rintro e w11 ⟨rfl, hbn⟩
    replace HX := Lib.hid (HX.out.below hbn)
    replace HXL := Lib.hid (HXL.out.below hbn)
    replace HXQ := Lib.hid (HXQ.out.below hbn)
    replace HBw := Lib.hid (HBw.out.trans (hbn.mono HBw.out.size))
    clear hbn x0 x1 x2
    go_wp2_with fail
    have yD := Lib.hid ((Below.refl w11.heap.size w11).drew)
    have y0 := (HA.out w11 HBw.out).1
    have y1 := HX.out.cell
    have y2 : w11.drew.cell? ⟨w.heap.size, 0, none⟩ = some (.slice A m.length cap) := y0
    have y3 : w11.drew.cell? ⟨w5.heap.size, 0, none⟩ = some (.slice AX m.length kX) := y1
    go_region_held3 (fun W => W.cell? ⟨w.heap.size, 0, none⟩ = some (.slice A m.length cap) ∧ W.cell? ⟨w5.heap.size, 0, none⟩ = some (.slice AX m.length kX))
      (first | exact ⟨y2, y3⟩ | exact ⟨(HA.out _ (HBw.out.trans (yc1.mono HBw.out.size))).1, (HX.out.below yc1).cell⟩ | exact ⟨(HA.out _ (HBw.out.trans (yc2.mono HBw.out.size))).1, (HX.out.below yc2).cell⟩)
      (first | (go_at_call 21; refine (HT.out _ HBw.out.drew).mono ?_; rintro e yw1 ⟨yv, rfl, yo, yb1⟩; obtain ⟨yA, yk, rfl, yhk⟩ := yo.form; have yc1 := yD.out.trans yb1) | (go_at_call 24; refine (HE.out yw1 AX yA kX yk (HX.out.below yc1).own.reads yo.reads).mono ?_; rintro e yw2 ⟨rfl, yb2⟩; have yc2 := yc1.trans (yb2.mono yc1.size)))
    replace HX := Lib.hid (HX.out.below yc2)
    replace HXL := Lib.hid (HXL.out.below yc2)
    replace HXQ := Lib.hid (HXQ.out.below yc2)
    replace HBw := Lib.hid (HBw.out.trans (yc2.mono HBw.out.size))
    clear yb1 yb2 yc1 yc2 y0 y1 y2 y3 yo yhk yD
    go_wp2_with fail
    have zLD := Lib.hid ((Below.refl yw2.heap.size yw2).drew)
    have zL0 := (HA.out yw2 HBw.out).2.1
    have zL1 := HXL.out.cell
    have zL2 : yw2.drew.cell? ⟨w.heap.size + 1, 0, none⟩ = some (.slice AL L.length capL) := zL0
    have zL3 : yw2.drew.cell? ⟨w7.heap.size, 0, none⟩ = some (.slice AXL L.length kXL) := zL1
    go_region_held3 (fun W => W.cell? ⟨w.heap.size + 1, 0, none⟩ = some (.slice AL L.length capL) ∧ W.cell? ⟨w7.heap.size, 0, none⟩ = some (.slice AXL L.length kXL))
      (first | exact ⟨zL2, zL3⟩ | exact ⟨(HA.out _ (HBw.out.trans (zLc1.mono HBw.out.size))).2.1, (HXL.out.below zLc1).cell⟩ | exact ⟨(HA.out _ (HBw.out.trans (zLc2.mono HBw.out.size))).2.1, (HXL.out.below zLc2).cell⟩)
      (first | (go_at_call 22; refine (HTL.out _ HBw.out.drew).mono ?_; rintro e zLw1 ⟨zLv, rfl, zLo, zLb1⟩; obtain ⟨zLA, zLk, rfl⟩ := zLo.form; have zLc1 := zLD.out.trans zLb1) | (go_at_call 25; refine (HEL.out zLw1 AXL zLA kXL zLk (HXL.out.below zLc1).own.rd zLo.rd).mono ?_; rintro e zLw2 ⟨rfl, zLb2⟩; have zLc2 := zLc1.trans (zLb2.mono zLc1.size)))
    replace HX := Lib.hid (HX.out.below zLc2)
    replace HXL := Lib.hid (HXL.out.below zLc2)
    replace HXQ := Lib.hid (HXQ.out.below zLc2)
    replace HBw := Lib.hid (HBw.out.trans (zLc2.mono HBw.out.size))
    clear zLb1 zLb2 zLc1 zLc2 zL0 zL1 zL2 zL3 zLo zLD
    go_wp2_with fail
    have zQD := Lib.hid ((Below.refl zLw2.heap.size zLw2).drew)
    have zQ0 := (HA.out zLw2 HBw.out).2.2
    have zQ1 := HXQ.out.cell
    have zQ2 : zLw2.drew.cell? ⟨w.heap.size + 1 + 1, 0, none⟩ = some (.slice AQ Q.length capQ) := zQ0
    have zQ3 : zLw2.drew.cell? ⟨w9.heap.size, 0, none⟩ = some (.slice AXQ Q.length kXQ) := zQ1
    go_region_held3 (fun W => W.cell? ⟨w.heap.size + 1 + 1, 0, none⟩ = some (.slice AQ Q.length capQ) ∧ W.cell? ⟨w9.heap.size, 0, none⟩ = some (.slice AXQ Q.length kXQ))
      (first | exact ⟨zQ2, zQ3⟩ | exact ⟨(HA.out _ (HBw.out.trans (zQc1.mono HBw.out.size))).2.2, (HXQ.out.below zQc1).cell⟩ | exact ⟨(HA.out _ (HBw.out.trans (zQc2.mono HBw.out.size))).2.2, (HXQ.out.below zQc2).cell⟩)
      (first | (go_at_call 22; refine (HTQ.out _ HBw.out.drew).mono ?_; rintro e zQw1 ⟨zQv, rfl, zQo, zQb1⟩; obtain ⟨zQA, zQk, rfl⟩ := zQo.form; have zQc1 := zQD.out.trans zQb1) | (go_at_call 25; refine (HEQ.out zQw1 AXQ zQA kXQ zQk (HXQ.out.below zQc1).own.rd zQo.rd).mono ?_; rintro e zQw2 ⟨rfl, zQb2⟩; have zQc2 := zQc1.trans (zQb2.mono zQc1.size)))
    replace HX := Lib.hid (HX.out.below zQc2)
    replace HXL := Lib.hid (HXL.out.below zQc2)
    replace HXQ := Lib.hid (HXQ.out.below zQc2)
    replace HBw := Lib.hid (HBw.out.trans (zQc2.mono HBw.out.size))
    clear zQb1 zQb2 zQc1 zQc2 zQ0 zQ1 zQ2 zQ3 zQo zQD
    go_wp2_with fail
    go_ret
    exact ⟨rfl, HB.out.trans (HBw.out.mono HB.out.size)⟩

end Go.Proofs.Ytomebbapjolnlaa
