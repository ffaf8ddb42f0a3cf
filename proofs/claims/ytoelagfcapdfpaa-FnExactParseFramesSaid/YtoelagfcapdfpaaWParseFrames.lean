/-
  FnExactParseFrames: the walk.
-/
import Derived.Test.YtoelagfcapdfpaaBox2
import Derived.Deep.DeepCutAuto
import Derived.Test.YtoelagfcapdfpaaFrP
import Derived.Test.YtoelagfcapdfpaaFrW
namespace Go.Proofs.Ytoelagfcapdfpaa
open Go.RowKit

set_option maxRecDepth 100000 in
set_option maxHeartbeats 12800000 in
theorem fnExactParseFrames_walk (A : Option Addr) (len cap : Nat) (m : List (List Int)) (x : Win)  (w : World) (h : MArg w A len cap m) (hx : WArg x)  :
    Calls Try.prog 14 #[.agg #[.slice A len cap], x.val] w fun e w' => e = .returned (.bool true) ∧ Below w.heap.size w w' := by
  obtain ⟨rfl, h1, h2, hr, hzz⟩ := h
  have hsm := parseR_small  m x
  obtain ⟨R, nn, p, hform⟩ : ∃ (R : List Win) (nn : Int) (p : Bool), parseR m x = (R, nn, p) := ⟨_, _, _, rfl⟩
  rw [hform] at hsm
  have hR0 : R.length ≤ 64 := hsm
  have hR1 : R.length ≤ 2097152 := by omega
  have hR2 : R.length ≤ 1048576 := by omega
  unfold Win.val
  obtain ⟨w0, hw0⟩ : ∃ w0, ((w.alloc (.cells #[.slice A m.length cap] 24)).alloc (.cells #[.int .i64 x.arr, .int .i64 x.start, .int .i64 x.len, .int .i64 x.cap] 26)) = w0 := ⟨_, rfl⟩
  have hb0 : Below w.heap.size w w0 := by rw [← hw0]; (repeat (first | (with_reducible exact Below.refl _ _) | (with_reducible refine Below.drew ?_) | ((with_reducible refine Below.alloc ?_ ?hB _); case hB => (first | (with_reducible exact Nat.le_refl _) | omega | (simp; done) | (simp; omega))) | ((with_reducible refine Below.setCell ?_ ?hB _); case hB => (first | (with_reducible exact Nat.le_refl _) | omega | (simp; done) | (simp; omega)))))
  have hg0 : w0.heap[w.heap.size]? = some (.cells #[.slice A m.length cap] 24) := by rw [← hw0]; exact alloc_old _ (heap_alloc_new _ _)
  have hg1 : w0.heap[w.heap.size + 1]? = some (.cells #[.int .i64 x.arr, .int .i64 x.start, .int .i64 x.len, .int .i64 x.cap] 26) := by rw [← hw0]; exact (by simpa using heap_alloc_new (w.alloc (.cells #[.slice A m.length cap] 24)) (.cells #[.int .i64 x.arr, .int .i64 x.start, .int .i64 x.len, .int .i64 x.cap] 26))
  have hlen : m.length ≤ maxLen := by omega
  have HS := Lib.hid (szMemory_calls A cap m w0 1048576 ((hr.below hb0).more hb0.size) hlen (by omega) (by omega))
  have HB := Lib.hid hb0
  have HW := Lib.hid hw0
  have HR := Lib.hid hr
  have HXx := Lib.hid hx
  have c0 := one_cell hg0
  have HA : Hid (∀ W, Below w0.heap.size w0 W → W.cell? ⟨w.heap.size, 0, none⟩ = some (.slice A m.length cap) ∧ W.cell? ⟨w.heap.size + 1, 0, none⟩ = some (.int .i64 x.arr) ∧ W.cell? ⟨w.heap.size + 1, 1, none⟩ = some (.int .i64 x.start) ∧ W.cell? ⟨w.heap.size + 1, 2, none⟩ = some (.int .i64 x.len) ∧ W.cell? ⟨w.heap.size + 1, 3, none⟩ = some (.int .i64 x.cap)) := Lib.hid fun W hb => by
    obtain ⟨e00, e01, e02, e03⟩ := four_cells ((hb.block _ (Array.getElem?_eq_some_iff.1 hg1).1).trans hg1)
    exact ⟨one_cell ((hb.block _ (Array.getElem?_eq_some_iff.1 hg0).1).trans hg0), e00, e01, e02, e03⟩
  have HZZ := Lib.hid (show ∀ r ∈ m, ∀ z ∈ r, IsB z from fun r hr z hz => isB_of (hzz r hr z hz))
  clear hr hb0 hw0 hzz hsm hx hg0 hg1
  go_enter Try.func14, Try.ntmps14
  go_wp2_with fail
  rw [HW.out]
  refine HS.out.mono ?_
  rintro e w1 ⟨⟨r, rfl, hr⟩, hb1⟩
  have HR1 := Lib.hid hr
  have HBw1 := Lib.hid hb1
  clear hb1 c0
  by_cases hneg : r < 0
  · clear hr
    go_wp2_with fail
    go_ret
    exact ⟨rfl, HB.out.trans (HBw1.out.mono HB.out.size)⟩
  · have hsz : m.length ≤ 1048576 ∧ total m ≤ 1048576 := by omega
    have hro : ∀ q ∈ m, q.length ≤ 1048576 := fun q hq => Nat.le_trans (row_le m q hq) hsz.2
    have HSZ := Lib.hid (show m.length ≤ 2097152 ∧ total m ≤ 2097152 by omega)
    have HT := Lib.hid (fun W (hb : Below w0.heap.size w0 W) => toMemory_calls A cap m W ((HR.out.below (HB.out.trans (hb.mono HB.out.size))).more (Nat.le_trans HB.out.size hb.size)) hsz.1 hro)
    have HSP : Hid (∀ W X k, Rd2 W W.heap.size X m → Calls Try.prog 57 #[.agg #[.slice X m.length k], .agg #[.int .i64 x.arr, .int .i64 x.start, .int .i64 x.len, .int .i64 x.cap]] W fun e w' => ∃ v, e = .returned (.tuple #[v, .int .i64 nn, .bool p]) ∧ OwnW w' W.heap.size w'.heap.size v R ∧ Below W.heap.size W w') := Lib.hid (fun W X k (hx : Rd2 W W.heap.size X m) => by have hq := specParseFrames_calls X k m x W hx hlen HZZ.out; rw [hform] at hq; exact hq)
    have HIP : Hid (∀ W X k, Rd2 W W.heap.size X m → Calls Try.prog 58 #[.agg #[.slice X m.length k], .agg #[.int .i64 x.arr, .int .i64 x.start, .int .i64 x.len, .int .i64 x.cap]] W fun e w' => ∃ v, e = .returned (.tuple #[v, .int .i64 nn, .bool p]) ∧ OwnW w' W.heap.size w'.heap.size v R ∧ Below W.heap.size W w') := Lib.hid (fun W X k (hx : Rd2 W W.heap.size X m) => by have hq := implParseFrames_calls X k m x W hx hlen HXx.out HZZ.out; rw [hform] at hq; exact hq)
    have HE := Lib.hid (fun W X Y cx cy (hx : Rd2 W W.heap.size X m) (hy : Rd2 W W.heap.size Y m) => eqSame_calls X Y cx cy m W hx hy hlen)
    have HER := Lib.hid (fun W X Y cx cy (hx : RdW W W.heap.size X R) (hy : RdW W W.heap.size Y R) => eqWindowS_calls X Y cx cy R W hx hy hR2)
    have hself : (p != p) = false := by simp
    have hselfn : (nn != nn) = false := by simp
    clear hr hsz hro hform
    have HTw1 : Hid (∀ W (hb : Below w1.heap.size w1 W), Calls Try.prog 20 #[.agg #[.slice A m.length cap]] W fun e w' => ∃ v, e = .returned (.agg #[v]) ∧ OwnM w' W.heap.size w'.heap.size v m ∧ Below W.heap.size W w') := Lib.hid fun W hb => HT.out W (HBw1.out.trans (hb.mono HBw1.out.size))
    have HAw1 : Hid (∀ W, Below w1.heap.size w1 W → W.cell? ⟨w.heap.size, 0, none⟩ = some (.slice A m.length cap) ∧ W.cell? ⟨w.heap.size + 1, 0, none⟩ = some (.int .i64 x.arr) ∧ W.cell? ⟨w.heap.size + 1, 1, none⟩ = some (.int .i64 x.start) ∧ W.cell? ⟨w.heap.size + 1, 2, none⟩ = some (.int .i64 x.len) ∧ W.cell? ⟨w.heap.size + 1, 3, none⟩ = some (.int .i64 x.cap)) := Lib.hid fun W hb => HA.out W (HBw1.out.trans (hb.mono HBw1.out.size))
    have HDw1 := HBw1.out.size
    go_upto_region 5 with fail
    have pc0 := (Below.refl w1.heap.size w1).drew
    have pq0 := pc0.size
    obtain ⟨pa0, pa1, pa2, pa3, pa4⟩ := HAw1.out w1.drew pc0
    go_cut [6, 7, 8] (fun s6 s7 s8 wx => ∃ (lo6 hi6 : Nat) (v6 : Value), s6 = v6 ∧ w1.heap.size ≤ lo6 ∧ lo6 ≤ wx.heap.size ∧ hi6 ≤ wx.heap.size ∧ OwnW wx lo6 hi6 v6 R ∧ s7 = .int .i64 nn ∧ s8 = .bool p ∧ Below w1.heap.size w1 wx)
    case first =>
      go_region_held3 (fun W => W.cell? ⟨w.heap.size, 0, none⟩ = some (.slice A m.length cap) ∧ W.cell? ⟨w.heap.size + 1, 0, none⟩ = some (.int .i64 x.arr) ∧ W.cell? ⟨w.heap.size + 1, 1, none⟩ = some (.int .i64 x.start) ∧ W.cell? ⟨w.heap.size + 1, 2, none⟩ = some (.int .i64 x.len) ∧ W.cell? ⟨w.heap.size + 1, 3, none⟩ = some (.int .i64 x.cap))
        (first | (with_reducible exact ⟨pa0, pa1, pa2, pa3, pa4⟩) | exact HAw1.out _ (by (repeat (first | (with_reducible exact Below.refl _ _) | (with_reducible refine Below.drew ?_) | ((with_reducible refine Below.alloc ?_ ?hB _); case hB => (first | (with_reducible exact Nat.le_refl _) | omega | (simp; done) | (simp; omega))) | ((with_reducible refine Below.setCell ?_ ?hB _); case hB => (first | (with_reducible exact Nat.le_refl _) | omega | (simp; done) | (simp; omega))))); (first | done | exact pc3)) | exact HAw1.out _ (by (repeat (first | (with_reducible exact Below.refl _ _) | (with_reducible refine Below.drew ?_) | ((with_reducible refine Below.alloc ?_ ?hB _); case hB => (first | (with_reducible exact Nat.le_refl _) | omega | (simp; done) | (simp; omega))) | ((with_reducible refine Below.setCell ?_ ?hB _); case hB => (first | (with_reducible exact Nat.le_refl _) | omega | (simp; done) | (simp; omega))))); (first | done | exact pc2)) | exact HAw1.out _ (by (repeat (first | (with_reducible exact Below.refl _ _) | (with_reducible refine Below.drew ?_) | ((with_reducible refine Below.alloc ?_ ?hB _); case hB => (first | (with_reducible exact Nat.le_refl _) | omega | (simp; done) | (simp; omega))) | ((with_reducible refine Below.setCell ?_ ?hB _); case hB => (first | (with_reducible exact Nat.le_refl _) | omega | (simp; done) | (simp; omega))))); (first | done | exact pc1)) | exact HAw1.out _ (by (repeat (first | (with_reducible exact Below.refl _ _) | (with_reducible refine Below.drew ?_) | ((with_reducible refine Below.alloc ?_ ?hB _); case hB => (first | (with_reducible exact Nat.le_refl _) | omega | (simp; done) | (simp; omega))) | ((with_reducible refine Below.setCell ?_ ?hB _); case hB => (first | (with_reducible exact Nat.le_refl _) | omega | (simp; done) | (simp; omega))))); (first | done | exact pc0)) | fail)
        (first | (go_at_call 20; refine (HTw1.out _ (by (repeat (first | (with_reducible exact Below.refl _ _) | (with_reducible refine Below.drew ?_) | ((with_reducible refine Below.alloc ?_ ?hB _); case hB => (first | (with_reducible exact Nat.le_refl _) | omega | (simp; done) | (simp; omega))) | ((with_reducible refine Below.setCell ?_ ?hB _); case hB => (first | (with_reducible exact Nat.le_refl _) | omega | (simp; done) | (simp; omega))))); (first | done | exact pc0))).mono ?_; rintro e pw1 ⟨pv, rfl, po, pb1⟩; obtain ⟨pA, pk, rfl, phk⟩ := po.form; have pr1 := Lib.hid po.reads; clear po; have pc1 : Below w1.heap.size w1 pw1 := below_step (by (repeat (first | (with_reducible exact Below.refl _ _) | (with_reducible refine Below.drew ?_) | ((with_reducible refine Below.alloc ?_ ?hB _); case hB => (first | (with_reducible exact Nat.le_refl _) | omega | (simp; done) | (simp; omega))) | ((with_reducible refine Below.setCell ?_ ?hB _); case hB => (first | (with_reducible exact Nat.le_refl _) | omega | (simp; done) | (simp; omega))))); (first | done | exact pc0)) pb1; have pq1 := pc1.size; skip; clear pb1) | (go_at_call 21; refine (toWin_calls _ _ _ _ _).mono ?_; rintro e pw2 ⟨rfl, pb2⟩; have pg2 : Below pw1.heap.size pw1 pw2 := below_step (by (repeat (first | (with_reducible exact Below.refl _ _) | (with_reducible refine Below.drew ?_) | ((with_reducible refine Below.alloc ?_ ?hB _); case hB => (first | (with_reducible exact Nat.le_refl _) | omega | (simp; done) | (simp; omega))) | ((with_reducible refine Below.setCell ?_ ?hB _); case hB => (first | (with_reducible exact Nat.le_refl _) | omega | (simp; done) | (simp; omega)))))) pb2; have pm2 := pg2.size; clear pg2; have pr2 := Lib.hid ((pr1.out.below (show Below pw1.heap.size pw1 pw2 from below_step (by (repeat (first | (with_reducible exact Below.refl _ _) | (with_reducible refine Below.drew ?_) | ((with_reducible refine Below.alloc ?_ ?hB _); case hB => (first | (with_reducible exact Nat.le_refl _) | omega | (simp; done) | (simp; omega))) | ((with_reducible refine Below.setCell ?_ ?hB _); case hB => (first | (with_reducible exact Nat.le_refl _) | omega | (simp; done) | (simp; omega)))))) pb2)).more (show pw1.heap.size ≤ pw2.heap.size from (show Below pw1.heap.size pw1 pw2 from below_step (by (repeat (first | (with_reducible exact Below.refl _ _) | (with_reducible refine Below.drew ?_) | ((with_reducible refine Below.alloc ?_ ?hB _); case hB => (first | (with_reducible exact Nat.le_refl _) | omega | (simp; done) | (simp; omega))) | ((with_reducible refine Below.setCell ?_ ?hB _); case hB => (first | (with_reducible exact Nat.le_refl _) | omega | (simp; done) | (simp; omega)))))) pb2).size)); have pc2 : Below w1.heap.size w1 pw2 := below_step (by (repeat (first | (with_reducible exact Below.refl _ _) | (with_reducible refine Below.drew ?_) | ((with_reducible refine Below.alloc ?_ ?hB _); case hB => (first | (with_reducible exact Nat.le_refl _) | omega | (simp; done) | (simp; omega))) | ((with_reducible refine Below.setCell ?_ ?hB _); case hB => (first | (with_reducible exact Nat.le_refl _) | omega | (simp; done) | (simp; omega))))); (first | done | exact pc1)) pb2; have pq2 := pc2.size; skip; clear pb2) | (go_at_call 57; refine (HSP.out _ pA pk ((pr2.out.below (show Below pw2.heap.size pw2 _ by (repeat (first | (with_reducible exact Below.refl _ _) | (with_reducible refine Below.drew ?_) | ((with_reducible refine Below.alloc ?_ ?hB _); case hB => (first | (with_reducible exact Nat.le_refl _) | omega | (simp; done) | (simp; omega))) | ((with_reducible refine Below.setCell ?_ ?hB _); case hB => (first | (with_reducible exact Nat.le_refl _) | omega | (simp; done) | (simp; omega))))))).more (show Below pw2.heap.size pw2 _ by (repeat (first | (with_reducible exact Below.refl _ _) | (with_reducible refine Below.drew ?_) | ((with_reducible refine Below.alloc ?_ ?hB _); case hB => (first | (with_reducible exact Nat.le_refl _) | omega | (simp; done) | (simp; omega))) | ((with_reducible refine Below.setCell ?_ ?hB _); case hB => (first | (with_reducible exact Nat.le_refl _) | omega | (simp; done) | (simp; omega)))))).size)).mono ?_; rintro e pw3 ⟨pV, rfl, po, pb3⟩; have pc3 : Below w1.heap.size w1 pw3 := below_step (by (repeat (first | (with_reducible exact Below.refl _ _) | (with_reducible refine Below.drew ?_) | ((with_reducible refine Below.alloc ?_ ?hB _); case hB => (first | (with_reducible exact Nat.le_refl _) | omega | (simp; done) | (simp; omega))) | ((with_reducible refine Below.setCell ?_ ?hB _); case hB => (first | (with_reducible exact Nat.le_refl _) | omega | (simp; done) | (simp; omega))))); (first | done | exact pc2)) pb3; have pq3 := pc3.size; have pt : pw2.heap.size ≤ pw3.heap.size := pb3.size; have pO : OwnW pw3 pw2.heap.size pw3.heap.size pV R := po; obtain ⟨pVA, pVk, rfl⟩ := po.form; clear po; clear pb3))
      all_goals (go_wp2_with fail)
      all_goals go_meet
      all_goals (first | exact ⟨pw2.heap.size, pw3.heap.size, _, rfl, Nat.le_trans pq2 (Nat.le_refl _), pt, Nat.le_refl _, pO, rfl, rfl, by (repeat (first | (with_reducible exact Below.refl _ _) | (with_reducible refine Below.drew ?_) | ((with_reducible refine Below.alloc ?_ ?hB _); case hB => (first | (with_reducible exact Nat.le_refl _) | omega | (simp; done) | (simp; omega))) | ((with_reducible refine Below.setCell ?_ ?hB _); case hB => (first | (with_reducible exact Nat.le_refl _) | omega | (simp; done) | (simp; omega))))); (first | done | exact pc3)⟩)
    case rest =>
      obtain ⟨loP, hiP, vP, rfl, hloP, hleP, hhiP, hmP, rfl, rfl, hb4⟩ := hcut
      obtain ⟨w4, hw4⟩ : ∃ w4, w4 = wc := ⟨_, rfl⟩
      subst hw4
      obtain ⟨AP, cP, rfl⟩ := hmP.form
      have HMP := Lib.hid hmP
      have HBw4 := Lib.hid (HBw1.out.trans (hb4.mono HBw1.out.size))
      have d4 := (HA.out w4 HBw4.out).1
      clear hmP hb4
      go_wp2_with fail
      refine (HT.out _ HBw4.out).mono ?_
      rintro e w5 ⟨v5, rfl, ho5, hb5⟩
      obtain ⟨A5, k5, rfl, hk5⟩ := ho5.form
      obtain ⟨w6, hw6⟩ : ∃ w6, w5.alloc (.cells #[.slice A5 m.length k5] 31) = w6 := ⟨_, rfl⟩
      have hb6 : Below w5.heap.size w5 w6 := by rw [← hw6]; exact (Below.refl _ _).alloc (Nat.le_refl _) _
      have hx6 : w6.heap[w5.heap.size]? = some (.cells #[.slice A5 m.length k5] 31) := by rw [← hw6]; exact heap_alloc_new _ _
      have HMX := Lib.hid (MBox.mk' (b := w4.heap.size) hx6 (ho5.below hb6) hb5.size (Nat.le_refl _) hb6.size (Nat.le_trans hb5.size hb6.size) (.inr (Nat.le_refl _)))
      have HMP6 := Lib.hid ((HMP.out.below hb5).below hb6)
      have HBw6 := Lib.hid ((HBw4.out.trans (hb5.mono HBw4.out.size)).trans (hb6.mono (Nat.le_trans HBw4.out.size hb5.size)))
      have HW6 := Lib.hid hw6
      have hz45 := hb5.size
      have hz56 : w5.heap.size < w6.heap.size := (Array.getElem?_eq_some_iff.1 hx6).1
      clear d4 ho5 hb5 hb6 hw6 hx6 hk5
      have HA6 : Hid (∀ W, Below w6.heap.size w6 W → W.cell? ⟨w5.heap.size, 0, none⟩ = some (.slice A5 m.length k5) ∧ W.cell? ⟨w.heap.size + 1, 0, none⟩ = some (.int .i64 x.arr) ∧ W.cell? ⟨w.heap.size + 1, 1, none⟩ = some (.int .i64 x.start) ∧ W.cell? ⟨w.heap.size + 1, 2, none⟩ = some (.int .i64 x.len) ∧ W.cell? ⟨w.heap.size + 1, 3, none⟩ = some (.int .i64 x.cap)) := Lib.hid fun W hb => ⟨one_cell ((hb.block _ HMX.out.gW).trans HMX.out.box), (HA.out W (HBw6.out.trans (hb.mono HBw6.out.size))).2⟩
      have HD6 := HBw6.out.size
      go_upto_region 7 with fail
      rw [HW6.out]
      have qc0 := (Below.refl w6.heap.size w6).drew
      have qq0 := qc0.size
      obtain ⟨qa0, qa1, qa2, qa3, qa4⟩ := HA6.out w6.drew qc0
      go_cut [10, 11, 12] (fun s10 s11 s12 wx => ∃ (lo10 hi10 : Nat) (v10 : Value), s10 = v10 ∧ w6.heap.size ≤ lo10 ∧ lo10 ≤ wx.heap.size ∧ hi10 ≤ wx.heap.size ∧ OwnW wx lo10 hi10 v10 R ∧ s11 = .int .i64 nn ∧ s12 = .bool p ∧ Below w6.heap.size w6 wx)
      case first =>
        go_region_held3 (fun W => W.cell? ⟨w5.heap.size, 0, none⟩ = some (.slice A5 m.length k5) ∧ W.cell? ⟨w.heap.size + 1, 0, none⟩ = some (.int .i64 x.arr) ∧ W.cell? ⟨w.heap.size + 1, 1, none⟩ = some (.int .i64 x.start) ∧ W.cell? ⟨w.heap.size + 1, 2, none⟩ = some (.int .i64 x.len) ∧ W.cell? ⟨w.heap.size + 1, 3, none⟩ = some (.int .i64 x.cap))
          (first | (with_reducible exact ⟨qa0, qa1, qa2, qa3, qa4⟩) | exact HA6.out _ (by (repeat (first | (with_reducible exact Below.refl _ _) | (with_reducible refine Below.drew ?_) | ((with_reducible refine Below.alloc ?_ ?hB _); case hB => (first | (with_reducible exact Nat.le_refl _) | omega | (simp; done) | (simp; omega))) | ((with_reducible refine Below.setCell ?_ ?hB _); case hB => (first | (with_reducible exact Nat.le_refl _) | omega | (simp; done) | (simp; omega))))); (first | done | exact qc2)) | exact HA6.out _ (by (repeat (first | (with_reducible exact Below.refl _ _) | (with_reducible refine Below.drew ?_) | ((with_reducible refine Below.alloc ?_ ?hB _); case hB => (first | (with_reducible exact Nat.le_refl _) | omega | (simp; done) | (simp; omega))) | ((with_reducible refine Below.setCell ?_ ?hB _); case hB => (first | (with_reducible exact Nat.le_refl _) | omega | (simp; done) | (simp; omega))))); (first | done | exact qc1)) | exact HA6.out _ (by (repeat (first | (with_reducible exact Below.refl _ _) | (with_reducible refine Below.drew ?_) | ((with_reducible refine Below.alloc ?_ ?hB _); case hB => (first | (with_reducible exact Nat.le_refl _) | omega | (simp; done) | (simp; omega))) | ((with_reducible refine Below.setCell ?_ ?hB _); case hB => (first | (with_reducible exact Nat.le_refl _) | omega | (simp; done) | (simp; omega))))); (first | done | exact qc0)) | fail)
          (first | (go_at_call 21; refine (toWin_calls _ _ _ _ _).mono ?_; rintro e qw1 ⟨rfl, qb1⟩; have qg1 : Below w6.heap.size w6 qw1 := below_step (by (repeat (first | (with_reducible exact Below.refl _ _) | (with_reducible refine Below.drew ?_) | ((with_reducible refine Below.alloc ?_ ?hB _); case hB => (first | (with_reducible exact Nat.le_refl _) | omega | (simp; done) | (simp; omega))) | ((with_reducible refine Below.setCell ?_ ?hB _); case hB => (first | (with_reducible exact Nat.le_refl _) | omega | (simp; done) | (simp; omega)))))) qb1; have qm1 := qg1.size; clear qg1; have qc1 : Below w6.heap.size w6 qw1 := below_step (by (repeat (first | (with_reducible exact Below.refl _ _) | (with_reducible refine Below.drew ?_) | ((with_reducible refine Below.alloc ?_ ?hB _); case hB => (first | (with_reducible exact Nat.le_refl _) | omega | (simp; done) | (simp; omega))) | ((with_reducible refine Below.setCell ?_ ?hB _); case hB => (first | (with_reducible exact Nat.le_refl _) | omega | (simp; done) | (simp; omega))))); (first | done | exact qc0)) qb1; have qq1 := qc1.size; skip; clear qb1) | (go_at_call 58; refine (HIP.out _ A5 k5 (HMX.out.own.below (show Below w6.heap.size w6 _ by (repeat (first | (with_reducible exact Below.refl _ _) | (with_reducible refine Below.drew ?_) | ((with_reducible refine Below.alloc ?_ ?hB _); case hB => (first | (with_reducible exact Nat.le_refl _) | omega | (simp; done) | (simp; omega))) | ((with_reducible refine Below.setCell ?_ ?hB _); case hB => (first | (with_reducible exact Nat.le_refl _) | omega | (simp; done) | (simp; omega))))); (first | done | exact qc1))).reads).mono ?_; rintro e qw2 ⟨qV, rfl, qo, qb2⟩; have qc2 : Below w6.heap.size w6 qw2 := below_step (by (repeat (first | (with_reducible exact Below.refl _ _) | (with_reducible refine Below.drew ?_) | ((with_reducible refine Below.alloc ?_ ?hB _); case hB => (first | (with_reducible exact Nat.le_refl _) | omega | (simp; done) | (simp; omega))) | ((with_reducible refine Below.setCell ?_ ?hB _); case hB => (first | (with_reducible exact Nat.le_refl _) | omega | (simp; done) | (simp; omega))))); (first | done | exact qc1)) qb2; have qq2 := qc2.size; have qt : qw1.heap.size ≤ qw2.heap.size := qb2.size; have qO : OwnW qw2 qw1.heap.size qw2.heap.size qV R := qo; obtain ⟨qVA, qVk, rfl⟩ := qo.form; clear qo; clear qb2))
        all_goals (go_wp2_with fail)
        all_goals go_meet
        all_goals (first | exact ⟨qw1.heap.size, qw2.heap.size, _, rfl, Nat.le_trans qq1 (Nat.le_refl _), qt, Nat.le_refl _, qO, rfl, rfl, by (repeat (first | (with_reducible exact Below.refl _ _) | (with_reducible refine Below.drew ?_) | ((with_reducible refine Below.alloc ?_ ?hB _); case hB => (first | (with_reducible exact Nat.le_refl _) | omega | (simp; done) | (simp; omega))) | ((with_reducible refine Below.setCell ?_ ?hB _); case hB => (first | (with_reducible exact Nat.le_refl _) | omega | (simp; done) | (simp; omega))))); (first | done | exact qc2)⟩)
      case rest =>
        obtain ⟨loQ, hiQ, vQ, rfl, hloQ, hleQ, hhiQ, hmQ, rfl, rfl, hb8⟩ := hcut
        obtain ⟨w8, hw8⟩ : ∃ w8, w8 = wc := ⟨_, rfl⟩
        subst hw8
        obtain ⟨AQ, cQ, rfl⟩ := hmQ.form
        have HMQ := Lib.hid hmQ
        have HMP8 := Lib.hid (HMP6.out.below hb8)
        have HMX8 := Lib.hid (HMX.out.below hb8)
        have HBw8 := Lib.hid (HBw6.out.trans (hb8.mono HBw6.out.size))
        clear hmQ hb8
        go_wp2_with fail
        refine (HER.out w8 AQ AP cQ cP HMQ.out.rd HMP8.out.rd).mono ?_
        rintro e w9 ⟨rfl, hb9⟩
        have HMQ9 := Lib.hid (HMQ.out.below hb9)
        have hle9 := Nat.le_trans hleQ hb9.size
        have HMP9 := Lib.hid (HMP8.out.below hb9)
        have HMX9 := Lib.hid (HMX8.out.below hb9)
        have HBw9 := Lib.hid (HBw8.out.trans (hb9.mono HBw8.out.size))
        clear hb9
        have y1 : w9.drew.cell? ⟨w.heap.size, 0, none⟩ = some (.slice A m.length cap) := (HA.out w9 HBw9.out).1
        have y2 : w9.drew.cell? ⟨w5.heap.size, 0, none⟩ = some (.slice A5 m.length k5) := HMX9.out.cell
        have HD9 := Lib.hid ((Below.refl w9.heap.size w9).drew)
        go_wp2_with fail
        go_region_held3 (fun W => W.cell? ⟨w.heap.size, 0, none⟩ = some (.slice A m.length cap) ∧ W.cell? ⟨w5.heap.size, 0, none⟩ = some (.slice A5 m.length k5))
          (first | exact ⟨y1, y2⟩ | exact ⟨(HA.out _ (HBw9.out.trans (hc9.mono HBw9.out.size))).1, (HMX9.out.below hc9).cell⟩ | exact ⟨(HA.out _ (HBw9.out.trans (hc10.mono HBw9.out.size))).1, (HMX9.out.below hc10).cell⟩)
          (first | (go_at_call 20; refine (HT.out _ HBw9.out.drew).mono ?_; rintro e w10 ⟨v9, rfl, ho9, hb9⟩; obtain ⟨A9, k9, rfl, hk9⟩ := ho9.form; have hc9 := HD9.out.trans hb9) | (go_at_call 24; refine (HE.out w10 A5 A9 k5 k9 (HMX9.out.below hc9).own.reads ho9.reads).mono ?_; rintro e w11 ⟨rfl, hb10⟩; have hc10 := hc9.trans (hb10.mono hc9.size)))
        have HMQ11 := Lib.hid (HMQ9.out.below hc10)
        have hle11 := Nat.le_trans hle9 hc10.size
        have HMP11 := Lib.hid (HMP9.out.below hc10)
        have HMX11 := Lib.hid (HMX9.out.below hc10)
        have HBw11 := Lib.hid (HBw9.out.trans (hc10.mono HBw9.out.size))
        have HK := Lib.hid (mark1_calls A5 k5 w4.heap.size w5.heap.size m w11 HMX11.out.own HSZ.out.1 HSZ.out.2 (Nat.le_trans hz45 HMX11.out.hiW) HMX11.out.hiW)
        have x1 := HMX11.out.cell
        clear hb9 hb10 hc9 hc10 y1 y2 ho9 hk9
        go_wp2_with fail
        refine HK.out.mono ?_
        rintro e w12 ⟨rfl, ho12, hs12⟩
        have HMP12 := Lib.hid (HMP11.out.span hs12 (.inl hhiP))
        have hle12 := Nat.le_trans hle11 hs12.size
        have HMQ12 := Lib.hid (HMQ11.out.span hs12 (.inr (by omega)))
        have HBw12 := Lib.hid (HBw11.out.trans ((hs12.below (Nat.le_trans hz45 HMX11.out.hiW)).mono HBw4.out.size))
        have hpos : ¬ ((1 : Int) + (total m : Nat)) < 0 := by omega
        clear ho12 hs12 x1
        go_wp2_with fail
        refine (HER.out w12 AQ AP cQ cP HMQ12.out.rd HMP12.out.rd).mono ?_
        rintro e w13 ⟨rfl, hb13⟩
        have HMQ13 := Lib.hid (HMQ12.out.below hb13)
        have hlohi := Nat.le_trans hle12 hb13.size
        have HMP13 := Lib.hid (HMP12.out.below hb13)
        have HBw13 := Lib.hid (HBw12.out.trans (hb13.mono HBw12.out.size))
        have HK2 := Lib.hid (markWS1_calls w13 HMQ13.out hR1)
        clear hb13 hpos
        go_wp2_with fail
        refine HK2.out.mono ?_
        rintro e w14 ⟨rfl, ho14, hs14⟩
        have HMQ14 := Lib.hid (ho14)
        have HMP14 := Lib.hid (HMP13.out.span hs14 (.inl (by omega)))
        have HBw14 := Lib.hid (HBw13.out.trans ((hs14.below hlohi).mono (by have := HBw6.out.size; omega)))
        have HH := Lib.hid (heldWS1_calls w14 HMQ14.out hR1)
        have hposR : ¬ ((1 : Int) + 4 * (R.length : Nat)) < 0 := by omega
        clear ho14 hs14
        go_wp2_with fail
        refine HH.out.mono ?_
        rintro e w15 ⟨rfl, hb15⟩
        have HMQ15 := Lib.hid (HMQ14.out.below hb15)
        have HMP15 := Lib.hid (HMP14.out.below hb15)
        have HBw15 := Lib.hid (HBw14.out.trans (hb15.mono HBw14.out.size))
        have hselfR : (((1 : Int) + 4 * (R.length : Nat)) != 1 + 4 * (R.length : Nat)) = false := by simp
        clear hb15
        have HTw15 : Hid (∀ W (hb : Below w15.heap.size w15 W), Calls Try.prog 20 #[.agg #[.slice A m.length cap]] W fun e w' => ∃ v, e = .returned (.agg #[v]) ∧ OwnM w' W.heap.size w'.heap.size v m ∧ Below W.heap.size W w') := Lib.hid fun W hb => HT.out W (HBw15.out.trans (hb.mono HBw15.out.size))
        have HAw15 : Hid (∀ W, Below w15.heap.size w15 W → W.cell? ⟨w.heap.size, 0, none⟩ = some (.slice A m.length cap) ∧ W.cell? ⟨w.heap.size + 1, 0, none⟩ = some (.int .i64 x.arr) ∧ W.cell? ⟨w.heap.size + 1, 1, none⟩ = some (.int .i64 x.start) ∧ W.cell? ⟨w.heap.size + 1, 2, none⟩ = some (.int .i64 x.len) ∧ W.cell? ⟨w.heap.size + 1, 3, none⟩ = some (.int .i64 x.cap)) := Lib.hid fun W hb => HA.out W (HBw15.out.trans (hb.mono HBw15.out.size))
        have HDw15 := HBw15.out.size
        go_upto_region 24 with fail
        have rc0 := (Below.refl w15.heap.size w15).drew
        have rq0 := rc0.size
        obtain ⟨ra0, ra1, ra2, ra3, ra4⟩ := HAw15.out w15.drew rc0
        go_cut [16, 17, 18] (fun s16 s17 s18 wx => ∃ (lo16 hi16 : Nat) (v16 : Value), s16 = v16 ∧ w15.heap.size ≤ lo16 ∧ lo16 ≤ wx.heap.size ∧ hi16 ≤ wx.heap.size ∧ OwnW wx lo16 hi16 v16 R ∧ s17 = .int .i64 nn ∧ s18 = .bool p ∧ Below w15.heap.size w15 wx)
        case first =>
          go_region_held3 (fun W => W.cell? ⟨w.heap.size, 0, none⟩ = some (.slice A m.length cap) ∧ W.cell? ⟨w.heap.size + 1, 0, none⟩ = some (.int .i64 x.arr) ∧ W.cell? ⟨w.heap.size + 1, 1, none⟩ = some (.int .i64 x.start) ∧ W.cell? ⟨w.heap.size + 1, 2, none⟩ = some (.int .i64 x.len) ∧ W.cell? ⟨w.heap.size + 1, 3, none⟩ = some (.int .i64 x.cap))
            (first | (with_reducible exact ⟨ra0, ra1, ra2, ra3, ra4⟩) | exact HAw15.out _ (by (repeat (first | (with_reducible exact Below.refl _ _) | (with_reducible refine Below.drew ?_) | ((with_reducible refine Below.alloc ?_ ?hB _); case hB => (first | (with_reducible exact Nat.le_refl _) | omega | (simp; done) | (simp; omega))) | ((with_reducible refine Below.setCell ?_ ?hB _); case hB => (first | (with_reducible exact Nat.le_refl _) | omega | (simp; done) | (simp; omega))))); (first | done | exact rc3)) | exact HAw15.out _ (by (repeat (first | (with_reducible exact Below.refl _ _) | (with_reducible refine Below.drew ?_) | ((with_reducible refine Below.alloc ?_ ?hB _); case hB => (first | (with_reducible exact Nat.le_refl _) | omega | (simp; done) | (simp; omega))) | ((with_reducible refine Below.setCell ?_ ?hB _); case hB => (first | (with_reducible exact Nat.le_refl _) | omega | (simp; done) | (simp; omega))))); (first | done | exact rc2)) | exact HAw15.out _ (by (repeat (first | (with_reducible exact Below.refl _ _) | (with_reducible refine Below.drew ?_) | ((with_reducible refine Below.alloc ?_ ?hB _); case hB => (first | (with_reducible exact Nat.le_refl _) | omega | (simp; done) | (simp; omega))) | ((with_reducible refine Below.setCell ?_ ?hB _); case hB => (first | (with_reducible exact Nat.le_refl _) | omega | (simp; done) | (simp; omega))))); (first | done | exact rc1)) | exact HAw15.out _ (by (repeat (first | (with_reducible exact Below.refl _ _) | (with_reducible refine Below.drew ?_) | ((with_reducible refine Below.alloc ?_ ?hB _); case hB => (first | (with_reducible exact Nat.le_refl _) | omega | (simp; done) | (simp; omega))) | ((with_reducible refine Below.setCell ?_ ?hB _); case hB => (first | (with_reducible exact Nat.le_refl _) | omega | (simp; done) | (simp; omega))))); (first | done | exact rc0)) | fail)
            (first | (go_at_call 20; refine (HTw15.out _ (by (repeat (first | (with_reducible exact Below.refl _ _) | (with_reducible refine Below.drew ?_) | ((with_reducible refine Below.alloc ?_ ?hB _); case hB => (first | (with_reducible exact Nat.le_refl _) | omega | (simp; done) | (simp; omega))) | ((with_reducible refine Below.setCell ?_ ?hB _); case hB => (first | (with_reducible exact Nat.le_refl _) | omega | (simp; done) | (simp; omega))))); (first | done | exact rc0))).mono ?_; rintro e rw1 ⟨rv, rfl, ro, rb1⟩; obtain ⟨rA, rk, rfl, rhk⟩ := ro.form; have rr1 := Lib.hid ro.reads; clear ro; have rc1 : Below w15.heap.size w15 rw1 := below_step (by (repeat (first | (with_reducible exact Below.refl _ _) | (with_reducible refine Below.drew ?_) | ((with_reducible refine Below.alloc ?_ ?hB _); case hB => (first | (with_reducible exact Nat.le_refl _) | omega | (simp; done) | (simp; omega))) | ((with_reducible refine Below.setCell ?_ ?hB _); case hB => (first | (with_reducible exact Nat.le_refl _) | omega | (simp; done) | (simp; omega))))); (first | done | exact rc0)) rb1; have rq1 := rc1.size; skip; clear rb1) | (go_at_call 21; refine (toWin_calls _ _ _ _ _).mono ?_; rintro e rw2 ⟨rfl, rb2⟩; have rg2 : Below rw1.heap.size rw1 rw2 := below_step (by (repeat (first | (with_reducible exact Below.refl _ _) | (with_reducible refine Below.drew ?_) | ((with_reducible refine Below.alloc ?_ ?hB _); case hB => (first | (with_reducible exact Nat.le_refl _) | omega | (simp; done) | (simp; omega))) | ((with_reducible refine Below.setCell ?_ ?hB _); case hB => (first | (with_reducible exact Nat.le_refl _) | omega | (simp; done) | (simp; omega)))))) rb2; have rm2 := rg2.size; clear rg2; have rr2 := Lib.hid ((rr1.out.below (show Below rw1.heap.size rw1 rw2 from below_step (by (repeat (first | (with_reducible exact Below.refl _ _) | (with_reducible refine Below.drew ?_) | ((with_reducible refine Below.alloc ?_ ?hB _); case hB => (first | (with_reducible exact Nat.le_refl _) | omega | (simp; done) | (simp; omega))) | ((with_reducible refine Below.setCell ?_ ?hB _); case hB => (first | (with_reducible exact Nat.le_refl _) | omega | (simp; done) | (simp; omega)))))) rb2)).more (show rw1.heap.size ≤ rw2.heap.size from (show Below rw1.heap.size rw1 rw2 from below_step (by (repeat (first | (with_reducible exact Below.refl _ _) | (with_reducible refine Below.drew ?_) | ((with_reducible refine Below.alloc ?_ ?hB _); case hB => (first | (with_reducible exact Nat.le_refl _) | omega | (simp; done) | (simp; omega))) | ((with_reducible refine Below.setCell ?_ ?hB _); case hB => (first | (with_reducible exact Nat.le_refl _) | omega | (simp; done) | (simp; omega)))))) rb2).size)); have rc2 : Below w15.heap.size w15 rw2 := below_step (by (repeat (first | (with_reducible exact Below.refl _ _) | (with_reducible refine Below.drew ?_) | ((with_reducible refine Below.alloc ?_ ?hB _); case hB => (first | (with_reducible exact Nat.le_refl _) | omega | (simp; done) | (simp; omega))) | ((with_reducible refine Below.setCell ?_ ?hB _); case hB => (first | (with_reducible exact Nat.le_refl _) | omega | (simp; done) | (simp; omega))))); (first | done | exact rc1)) rb2; have rq2 := rc2.size; skip; clear rb2) | (go_at_call 58; refine (HIP.out _ rA rk ((rr2.out.below (show Below rw2.heap.size rw2 _ by (repeat (first | (with_reducible exact Below.refl _ _) | (with_reducible refine Below.drew ?_) | ((with_reducible refine Below.alloc ?_ ?hB _); case hB => (first | (with_reducible exact Nat.le_refl _) | omega | (simp; done) | (simp; omega))) | ((with_reducible refine Below.setCell ?_ ?hB _); case hB => (first | (with_reducible exact Nat.le_refl _) | omega | (simp; done) | (simp; omega))))))).more (show Below rw2.heap.size rw2 _ by (repeat (first | (with_reducible exact Below.refl _ _) | (with_reducible refine Below.drew ?_) | ((with_reducible refine Below.alloc ?_ ?hB _); case hB => (first | (with_reducible exact Nat.le_refl _) | omega | (simp; done) | (simp; omega))) | ((with_reducible refine Below.setCell ?_ ?hB _); case hB => (first | (with_reducible exact Nat.le_refl _) | omega | (simp; done) | (simp; omega)))))).size)).mono ?_; rintro e rw3 ⟨rV, rfl, ro, rb3⟩; have rc3 : Below w15.heap.size w15 rw3 := below_step (by (repeat (first | (with_reducible exact Below.refl _ _) | (with_reducible refine Below.drew ?_) | ((with_reducible refine Below.alloc ?_ ?hB _); case hB => (first | (with_reducible exact Nat.le_refl _) | omega | (simp; done) | (simp; omega))) | ((with_reducible refine Below.setCell ?_ ?hB _); case hB => (first | (with_reducible exact Nat.le_refl _) | omega | (simp; done) | (simp; omega))))); (first | done | exact rc2)) rb3; have rq3 := rc3.size; have rt : rw2.heap.size ≤ rw3.heap.size := rb3.size; have rO : OwnW rw3 rw2.heap.size rw3.heap.size rV R := ro; obtain ⟨rVA, rVk, rfl⟩ := ro.form; clear ro; clear rb3))
          all_goals (go_wp2_with fail)
          all_goals go_meet
          all_goals (first | exact ⟨rw2.heap.size, rw3.heap.size, _, rfl, Nat.le_trans rq2 (Nat.le_refl _), rt, Nat.le_refl _, rO, rfl, rfl, by (repeat (first | (with_reducible exact Below.refl _ _) | (with_reducible refine Below.drew ?_) | ((with_reducible refine Below.alloc ?_ ?hB _); case hB => (first | (with_reducible exact Nat.le_refl _) | omega | (simp; done) | (simp; omega))) | ((with_reducible refine Below.setCell ?_ ?hB _); case hB => (first | (with_reducible exact Nat.le_refl _) | omega | (simp; done) | (simp; omega))))); (first | done | exact rc3)⟩)
        case rest =>
          obtain ⟨loT, hiT, vT, rfl, hloT, hleT, hhiT, hmT, rfl, rfl, hb16⟩ := hcut
          obtain ⟨w16, hw16⟩ : ∃ w16, w16 = wc := ⟨_, rfl⟩
          subst hw16
          obtain ⟨AT, cT, rfl⟩ := hmT.form
          have HMT := Lib.hid hmT
          have HMQ16 := Lib.hid (HMQ15.out.below hb16)
          have HMP16 := Lib.hid (HMP15.out.below hb16)
          have HBw16 := Lib.hid (HBw15.out.trans (hb16.mono HBw15.out.size))
          clear hmT hb16
          go_wp2_with fail
          refine (HER.out w16 AT AP cT cP HMT.out.rd HMP16.out.rd).mono ?_
          rintro e w17 ⟨rfl, hb17⟩
          have HMQ17 := Lib.hid (HMQ16.out.below hb17)
          have HBw17 := Lib.hid (HBw16.out.trans (hb17.mono HBw16.out.size))
          have HH2 := Lib.hid (heldWS1_calls w17 HMQ17.out hR1)
          clear hb17
          go_wp2_with fail
          refine HH2.out.mono ?_
          rintro e w18 ⟨rfl, hb18⟩
          have HBw18 := Lib.hid (HBw17.out.trans (hb18.mono HBw17.out.size))
          clear hb18
          go_wp2_with fail
          go_ret
          exact ⟨rfl, HB.out.trans (HBw18.out.mono HB.out.size)⟩
end Go.Proofs.Ytoelagfcapdfpaa
