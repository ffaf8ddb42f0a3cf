/-
  FnExactIsRing: the walk.
-/
import Derived.Test.YtlioamjmkaaooaaBox2
import Derived.Test.YtlioamjmkaaooaaRgA
import Derived.Deep.DeepCutAuto
import Derived.Test.YtlioamjmkaaooaaRgJ
namespace Go.Proofs.Ytlioamjmkaaooaa
open Go.RowKit

set_option maxRecDepth 100000 in
set_option maxHeartbeats 6400000 in
theorem fnExactIsRing_walk (A : Option Addr) (len cap : Nat) (m : List (List Int)) (rg : Rg)  (w : World) (h : MArg w A len cap m) (hrg : RArg rg)  :
    Calls Try.prog 3 #[.agg #[.slice A len cap], rg.val] w fun e w' => e = .returned (.bool true) ∧ Below w.heap.size w w' := by
  obtain ⟨rfl, h1, h2, hr, hzz⟩ := h
  obtain ⟨p0, p1, hform⟩ : ∃ (p0 : Bool) (p1 : Bool), isRingR m rg = (p0, p1) := ⟨_, _, rfl⟩
  unfold Rg.val
  obtain ⟨w0, hw0⟩ : ∃ w0, ((w.alloc (.cells #[.slice A m.length cap] 24)).alloc (.cells #[.int .i64 rg.w.arr, .int .i64 rg.w.start, .int .i64 rg.w.len, .int .i64 rg.w.cap, .int .i64 rg.first, .int .i64 rg.many] 28)) = w0 := ⟨_, rfl⟩
  have hb0 : Below w.heap.size w w0 := by rw [← hw0]; (repeat (first | (with_reducible exact Below.refl _ _) | (with_reducible refine Below.drew ?_) | ((with_reducible refine Below.alloc ?_ ?hB _); case hB => (first | (with_reducible exact Nat.le_refl _) | omega | (simp; done) | (simp; omega))) | ((with_reducible refine Below.setCell ?_ ?hB _); case hB => (first | (with_reducible exact Nat.le_refl _) | omega | (simp; done) | (simp; omega)))))
  have hg0 : w0.heap[w.heap.size]? = some (.cells #[.slice A m.length cap] 24) := by rw [← hw0]; exact alloc_old _ (heap_alloc_new _ _)
  have hg1 : w0.heap[w.heap.size + 1]? = some (.cells #[.int .i64 rg.w.arr, .int .i64 rg.w.start, .int .i64 rg.w.len, .int .i64 rg.w.cap, .int .i64 rg.first, .int .i64 rg.many] 28) := by rw [← hw0]; exact (by simpa using heap_alloc_new (w.alloc (.cells #[.slice A m.length cap] 24)) (.cells #[.int .i64 rg.w.arr, .int .i64 rg.w.start, .int .i64 rg.w.len, .int .i64 rg.w.cap, .int .i64 rg.first, .int .i64 rg.many] 28))
  have hlen : m.length ≤ maxLen := by omega
  have HS := Lib.hid (szMemory_calls A cap m w0 1048576 ((hr.below hb0).more hb0.size) hlen (by omega) (by omega))
  have HB := Lib.hid hb0
  have HW := Lib.hid hw0
  have HR := Lib.hid hr
  have HXrg := Lib.hid hrg
  have c0 := one_cell hg0
  have HA : Hid (∀ W, Below w0.heap.size w0 W → W.cell? ⟨w.heap.size, 0, none⟩ = some (.slice A m.length cap) ∧ W.cell? ⟨w.heap.size + 1, 0, none⟩ = some (.int .i64 rg.w.arr) ∧ W.cell? ⟨w.heap.size + 1, 1, none⟩ = some (.int .i64 rg.w.start) ∧ W.cell? ⟨w.heap.size + 1, 2, none⟩ = some (.int .i64 rg.w.len) ∧ W.cell? ⟨w.heap.size + 1, 3, none⟩ = some (.int .i64 rg.w.cap) ∧ W.cell? ⟨w.heap.size + 1, 4, none⟩ = some (.int .i64 rg.first) ∧ W.cell? ⟨w.heap.size + 1, 5, none⟩ = some (.int .i64 rg.many)) := Lib.hid fun W hb => by
    obtain ⟨e00, e01, e02, e03, e04, e05⟩ := ring_cells ((hb.block _ (Array.getElem?_eq_some_iff.1 hg1).1).trans hg1)
    exact ⟨one_cell ((hb.block _ (Array.getElem?_eq_some_iff.1 hg0).1).trans hg0), e00, e01, e02, e03, e04, e05⟩
  clear hr hb0 hw0 hrg hg0 hg1
  go_enter Try.func3, Try.ntmps3
  go_wp2_with fail
  rw [HW.out]
  refine HS.out.mono ?_
  rintro e w1 ⟨⟨r, rfl, hr⟩, hb1⟩
  have HR1 := Lib.hid hr
  have HBw1 := Lib.hid hb1
  clear hb1 c0
  by_cases hneg : r < 0
  · clear hr
    go_wp2_with fail
    go_ret
    exact ⟨rfl, HB.out.trans (HBw1.out.mono HB.out.size)⟩
  · have hsz : m.length ≤ 1048576 ∧ total m ≤ 1048576 := by omega
    have hro : ∀ q ∈ m, q.length ≤ 1048576 := fun q hq => Nat.le_trans (row_le m q hq) hsz.2
    have HT := Lib.hid (fun W (hb : Below w0.heap.size w0 W) => toMemory_calls A cap m W ((HR.out.below (HB.out.trans (hb.mono HB.out.size))).more (Nat.le_trans HB.out.size hb.size)) hsz.1 hro)
    have HT1 : Hid (∀ W (hb : Below w1.heap.size w1 W), Calls Try.prog 19 #[.agg #[.slice A m.length cap]] W fun e w' => ∃ v, e = .returned (.agg #[v]) ∧ OwnM w' W.heap.size w'.heap.size v m ∧ Below W.heap.size W w') := Lib.hid fun W hb => HT.out W (HBw1.out.trans (hb.mono HBw1.out.size))
    have HSP : Hid (∀ W X k, Rd2 W W.heap.size X m → Calls Try.prog 18 #[.agg #[.slice X m.length k], .agg #[.int .i64 rg.w.arr, .int .i64 rg.w.start, .int .i64 rg.w.len, .int .i64 rg.w.cap, .int .i64 rg.first, .int .i64 rg.many]] W (fun e w' => e = .returned (.tuple #[.bool p0, .bool p1]) ∧ Below W.heap.size W w')) := Lib.hid (fun W X k (hx : Rd2 W W.heap.size X m) => by have hq := specIsRing_calls X k m rg W hx hlen; rw [hform] at hq; exact hq)
    have HIP : Hid (∀ W X k, Rd2 W W.heap.size X m → Calls Try.prog 21 #[.agg #[.slice X m.length k], .agg #[.int .i64 rg.w.arr, .int .i64 rg.w.start, .int .i64 rg.w.len, .int .i64 rg.w.cap, .int .i64 rg.first, .int .i64 rg.many]] W (fun e w' => e = .returned (.tuple #[.bool p0, .bool p1]) ∧ Below W.heap.size W w')) := Lib.hid (fun W X k (hx : Rd2 W W.heap.size X m) => by have hq := implIsRing_calls X k m rg W hx hlen HXrg.out; rw [hform] at hq; exact hq)
    have HE := Lib.hid (fun W X Y cx cy (hx : Rd2 W W.heap.size X m) (hy : Rd2 W W.heap.size Y m) => eqMemory_calls X Y cx cy m m W hx hy hlen hlen)
    have HA1 : Hid (∀ W, Below w1.heap.size w1 W → W.cell? ⟨w.heap.size, 0, none⟩ = some (.slice A m.length cap) ∧ W.cell? ⟨w.heap.size + 1, 0, none⟩ = some (.int .i64 rg.w.arr) ∧ W.cell? ⟨w.heap.size + 1, 1, none⟩ = some (.int .i64 rg.w.start) ∧ W.cell? ⟨w.heap.size + 1, 2, none⟩ = some (.int .i64 rg.w.len) ∧ W.cell? ⟨w.heap.size + 1, 3, none⟩ = some (.int .i64 rg.w.cap) ∧ W.cell? ⟨w.heap.size + 1, 4, none⟩ = some (.int .i64 rg.first) ∧ W.cell? ⟨w.heap.size + 1, 5, none⟩ = some (.int .i64 rg.many)) := Lib.hid fun W hb => HA.out W (HBw1.out.trans (hb.mono HBw1.out.size))
    clear hr hsz hro hform hzz
    have HD1 := HBw1.out.size
    go_upto_region 5 with fail
    have pc0 := (Below.refl w1.heap.size w1).drew
    have pq0 := pc0.size
    obtain ⟨pa0, pa1, pa2, pa3, pa4, pa5, pa6⟩ := HA1.out w1.drew pc0
    go_cut [6, 7] (fun s6 s7 wx => s6 = .bool p0 ∧ s7 = .bool p1 ∧ Below w1.heap.size w1 wx)
    case first =>
      go_region_held3 (fun W => W.cell? ⟨w.heap.size, 0, none⟩ = some (.slice A m.length cap) ∧ W.cell? ⟨w.heap.size + 1, 0, none⟩ = some (.int .i64 rg.w.arr) ∧ W.cell? ⟨w.heap.size + 1, 1, none⟩ = some (.int .i64 rg.w.start) ∧ W.cell? ⟨w.heap.size + 1, 2, none⟩ = some (.int .i64 rg.w.len) ∧ W.cell? ⟨w.heap.size + 1, 3, none⟩ = some (.int .i64 rg.w.cap) ∧ W.cell? ⟨w.heap.size + 1, 4, none⟩ = some (.int .i64 rg.first) ∧ W.cell? ⟨w.heap.size + 1, 5, none⟩ = some (.int .i64 rg.many))
        (first | (with_reducible exact ⟨pa0, pa1, pa2, pa3, pa4, pa5, pa6⟩) | exact HA1.out _ (by (repeat (first | (with_reducible exact Below.refl _ _) | (with_reducible refine Below.drew ?_) | ((with_reducible refine Below.alloc ?_ ?hB _); case hB => (first | (with_reducible exact Nat.le_refl _) | omega | (simp; done) | (simp; omega))) | ((with_reducible refine Below.setCell ?_ ?hB _); case hB => (first | (with_reducible exact Nat.le_refl _) | omega | (simp; done) | (simp; omega))))); (first | done | exact pc3)) | exact HA1.out _ (by (repeat (first | (with_reducible exact Below.refl _ _) | (with_reducible refine Below.drew ?_) | ((with_reducible refine Below.alloc ?_ ?hB _); case hB => (first | (with_reducible exact Nat.le_refl _) | omega | (simp; done) | (simp; omega))) | ((with_reducible refine Below.setCell ?_ ?hB _); case hB => (first | (with_reducible exact Nat.le_refl _) | omega | (simp; done) | (simp; omega))))); (first | done | exact pc2)) | exact HA1.out _ (by (repeat (first | (with_reducible exact Below.refl _ _) | (with_reducible refine Below.drew ?_) | ((with_reducible refine Below.alloc ?_ ?hB _); case hB => (first | (with_reducible exact Nat.le_refl _) | omega | (simp; done) | (simp; omega))) | ((with_reducible refine Below.setCell ?_ ?hB _); case hB => (first | (with_reducible exact Nat.le_refl _) | omega | (simp; done) | (simp; omega))))); (first | done | exact pc1)) | exact HA1.out _ (by (repeat (first | (with_reducible exact Below.refl _ _) | (with_reducible refine Below.drew ?_) | ((with_reducible refine Below.alloc ?_ ?hB _); case hB => (first | (with_reducible exact Nat.le_refl _) | omega | (simp; done) | (simp; omega))) | ((with_reducible refine Below.setCell ?_ ?hB _); case hB => (first | (with_reducible exact Nat.le_refl _) | omega | (simp; done) | (simp; omega))))); (first | done | exact pc0)) | fail)
        (first | (go_at_call 19; refine (HT1.out _ (by (repeat (first | (with_reducible exact Below.refl _ _) | (with_reducible refine Below.drew ?_) | ((with_reducible refine Below.alloc ?_ ?hB _); case hB => (first | (with_reducible exact Nat.le_refl _) | omega | (simp; done) | (simp; omega))) | ((with_reducible refine Below.setCell ?_ ?hB _); case hB => (first | (with_reducible exact Nat.le_refl _) | omega | (simp; done) | (simp; omega))))); (first | done | exact pc0))).mono ?_; rintro e pw1 ⟨pv, rfl, po, pb1⟩; obtain ⟨pA, pk, rfl, phk⟩ := po.form; have pr1 := Lib.hid po.reads; clear po; have pc1 : Below w1.heap.size w1 pw1 := below_step (by (repeat (first | (with_reducible exact Below.refl _ _) | (with_reducible refine Below.drew ?_) | ((with_reducible refine Below.alloc ?_ ?hB _); case hB => (first | (with_reducible exact Nat.le_refl _) | omega | (simp; done) | (simp; omega))) | ((with_reducible refine Below.setCell ?_ ?hB _); case hB => (first | (with_reducible exact Nat.le_refl _) | omega | (simp; done) | (simp; omega))))); (first | done | exact pc0)) pb1; have pq1 := pc1.size; skip; clear pb1) | (go_at_call 20; refine (toRg_calls _ _ _ _ _ _ _).mono ?_; rintro e pw2 ⟨rfl, pb2⟩; have pg2 : Below pw1.heap.size pw1 pw2 := below_step (by (repeat (first | (with_reducible exact Below.refl _ _) | (with_reducible refine Below.drew ?_) | ((with_reducible refine Below.alloc ?_ ?hB _); case hB => (first | (with_reducible exact Nat.le_refl _) | omega | (simp; done) | (simp; omega))) | ((with_reducible refine Below.setCell ?_ ?hB _); case hB => (first | (with_reducible exact Nat.le_refl _) | omega | (simp; done) | (simp; omega)))))) pb2; have pm2 := pg2.size; clear pg2; have pr2 := Lib.hid ((pr1.out.below (show Below pw1.heap.size pw1 pw2 from below_step (by (repeat (first | (with_reducible exact Below.refl _ _) | (with_reducible refine Below.drew ?_) | ((with_reducible refine Below.alloc ?_ ?hB _); case hB => (first | (with_reducible exact Nat.le_refl _) | omega | (simp; done) | (simp; omega))) | ((with_reducible refine Below.setCell ?_ ?hB _); case hB => (first | (with_reducible exact Nat.le_refl _) | omega | (simp; done) | (simp; omega)))))) pb2)).more (show pw1.heap.size ≤ pw2.heap.size from (show Below pw1.heap.size pw1 pw2 from below_step (by (repeat (first | (with_reducible exact Below.refl _ _) | (with_reducible refine Below.drew ?_) | ((with_reducible refine Below.alloc ?_ ?hB _); case hB => (first | (with_reducible exact Nat.le_refl _) | omega | (simp; done) | (simp; omega))) | ((with_reducible refine Below.setCell ?_ ?hB _); case hB => (first | (with_reducible exact Nat.le_refl _) | omega | (simp; done) | (simp; omega)))))) pb2).size)); have pc2 : Below w1.heap.size w1 pw2 := below_step (by (repeat (first | (with_reducible exact Below.refl _ _) | (with_reducible refine Below.drew ?_) | ((with_reducible refine Below.alloc ?_ ?hB _); case hB => (first | (with_reducible exact Nat.le_refl _) | omega | (simp; done) | (simp; omega))) | ((with_reducible refine Below.setCell ?_ ?hB _); case hB => (first | (with_reducible exact Nat.le_refl _) | omega | (simp; done) | (simp; omega))))); (first | done | exact pc1)) pb2; have pq2 := pc2.size; skip; clear pb2) | (go_at_call 18; refine (HSP.out _ pA pk ((pr2.out.below (show Below pw2.heap.size pw2 _ by (repeat (first | (with_reducible exact Below.refl _ _) | (with_reducible refine Below.drew ?_) | ((with_reducible refine Below.alloc ?_ ?hB _); case hB => (first | (with_reducible exact Nat.le_refl _) | omega | (simp; done) | (simp; omega))) | ((with_reducible refine Below.setCell ?_ ?hB _); case hB => (first | (with_reducible exact Nat.le_refl _) | omega | (simp; done) | (simp; omega))))))).more (show Below pw2.heap.size pw2 _ by (repeat (first | (with_reducible exact Below.refl _ _) | (with_reducible refine Below.drew ?_) | ((with_reducible refine Below.alloc ?_ ?hB _); case hB => (first | (with_reducible exact Nat.le_refl _) | omega | (simp; done) | (simp; omega))) | ((with_reducible refine Below.setCell ?_ ?hB _); case hB => (first | (with_reducible exact Nat.le_refl _) | omega | (simp; done) | (simp; omega)))))).size)).mono ?_; rintro e pw3 ⟨rfl, pb3⟩; have pc3 : Below w1.heap.size w1 pw3 := below_step (by (repeat (first | (with_reducible exact Below.refl _ _) | (with_reducible refine Below.drew ?_) | ((with_reducible refine Below.alloc ?_ ?hB _); case hB => (first | (with_reducible exact Nat.le_refl _) | omega | (simp; done) | (simp; omega))) | ((with_reducible refine Below.setCell ?_ ?hB _); case hB => (first | (with_reducible exact Nat.le_refl _) | omega | (simp; done) | (simp; omega))))); (first | done | exact pc2)) pb3; have pq3 := pc3.size; clear pb3))
      all_goals (go_wp2_with fail)
      all_goals go_meet
      all_goals (first | exact ⟨rfl, rfl, by (repeat (first | (with_reducible exact Below.refl _ _) | (with_reducible refine Below.drew ?_) | ((with_reducible refine Below.alloc ?_ ?hB _); case hB => (first | (with_reducible exact Nat.le_refl _) | omega | (simp; done) | (simp; omega))) | ((with_reducible refine Below.setCell ?_ ?hB _); case hB => (first | (with_reducible exact Nat.le_refl _) | omega | (simp; done) | (simp; omega))))); (first | done | exact pc3)⟩)
    case rest =>
      obtain ⟨rfl, rfl, hb4⟩ := hcut
      obtain ⟨w4, hw4⟩ : ∃ w4, w4 = wc := ⟨_, rfl⟩
      subst hw4

      have HB4 := Lib.hid (HBw1.out.trans (hb4.mono HBw1.out.size))
      have d4 := (HA.out w4 HB4.out).1
      clear  hb4
      go_wp2_with fail
      refine (HT.out _ HB4.out).mono ?_
      rintro e w5 ⟨v5, rfl, ho5, hb5⟩
      obtain ⟨A5, k5, rfl, hk5⟩ := ho5.form
      obtain ⟨w6, hw6⟩ : ∃ w6, w5.alloc (.cells #[.slice A5 m.length k5] 32) = w6 := ⟨_, rfl⟩
      have hb6 : Below w5.heap.size w5 w6 := by rw [← hw6]; exact (Below.refl _ _).alloc (Nat.le_refl _) _
      have HX6 := Lib.hid (show w6.heap[w5.heap.size]? = some (.cells #[.slice A5 m.length k5] 32) by rw [← hw6]; exact heap_alloc_new _ _)
      have HO6 := Lib.hid (ho5.below hb6)

      have HBw6 := Lib.hid ((HB4.out.trans (hb5.mono HB4.out.size)).trans (hb6.mono (Nat.le_trans HB4.out.size hb5.size)))
      have HW6 := Lib.hid hw6
      clear d4 ho5 hb5 hb6 hw6
      have HA6 : Hid (∀ W, Below w6.heap.size w6 W → W.cell? ⟨w5.heap.size, 0, none⟩ = some (.slice A5 m.length k5) ∧ W.cell? ⟨w.heap.size + 1, 0, none⟩ = some (.int .i64 rg.w.arr) ∧ W.cell? ⟨w.heap.size + 1, 1, none⟩ = some (.int .i64 rg.w.start) ∧ W.cell? ⟨w.heap.size + 1, 2, none⟩ = some (.int .i64 rg.w.len) ∧ W.cell? ⟨w.heap.size + 1, 3, none⟩ = some (.int .i64 rg.w.cap) ∧ W.cell? ⟨w.heap.size + 1, 4, none⟩ = some (.int .i64 rg.first) ∧ W.cell? ⟨w.heap.size + 1, 5, none⟩ = some (.int .i64 rg.many)) := Lib.hid fun W hb => ⟨one_cell ((hb.block _ (Array.getElem?_eq_some_iff.1 HX6.out).1).trans HX6.out), (HA.out W (HBw6.out.trans (hb.mono HBw6.out.size))).2⟩
      have HD6 := HBw6.out.size
      go_upto_region 7 with fail
      rw [HW6.out]
      have qc0 := (Below.refl w6.heap.size w6).drew
      have qq0 := qc0.size
      obtain ⟨qa0, qa1, qa2, qa3, qa4, qa5, qa6⟩ := HA6.out w6.drew qc0
      go_cut [9, 10] (fun s9 s10 wx => s9 = .bool p0 ∧ s10 = .bool p1 ∧ Below w6.heap.size w6 wx)
      case first =>
        go_region_held3 (fun W => W.cell? ⟨w5.heap.size, 0, none⟩ = some (.slice A5 m.length k5) ∧ W.cell? ⟨w.heap.size + 1, 0, none⟩ = some (.int .i64 rg.w.arr) ∧ W.cell? ⟨w.heap.size + 1, 1, none⟩ = some (.int .i64 rg.w.start) ∧ W.cell? ⟨w.heap.size + 1, 2, none⟩ = some (.int .i64 rg.w.len) ∧ W.cell? ⟨w.heap.size + 1, 3, none⟩ = some (.int .i64 rg.w.cap) ∧ W.cell? ⟨w.heap.size + 1, 4, none⟩ = some (.int .i64 rg.first) ∧ W.cell? ⟨w.heap.size + 1, 5, none⟩ = some (.int .i64 rg.many))
          (first | (with_reducible exact ⟨qa0, qa1, qa2, qa3, qa4, qa5, qa6⟩) | exact HA6.out _ (by (repeat (first | (with_reducible exact Below.refl _ _) | (with_reducible refine Below.drew ?_) | ((with_reducible refine Below.alloc ?_ ?hB _); case hB => (first | (with_reducible exact Nat.le_refl _) | omega | (simp; done) | (simp; omega))) | ((with_reducible refine Below.setCell ?_ ?hB _); case hB => (first | (with_reducible exact Nat.le_refl _) | omega | (simp; done) | (simp; omega))))); (first | done | exact qc2)) | exact HA6.out _ (by (repeat (first | (with_reducible exact Below.refl _ _) | (with_reducible refine Below.drew ?_) | ((with_reducible refine Below.alloc ?_ ?hB _); case hB => (first | (with_reducible exact Nat.le_refl _) | omega | (simp; done) | (simp; omega))) | ((with_reducible refine Below.setCell ?_ ?hB _); case hB => (first | (with_reducible exact Nat.le_refl _) | omega | (simp; done) | (simp; omega))))); (first | done | exact qc1)) | exact HA6.out _ (by (repeat (first | (with_reducible exact Below.refl _ _) | (with_reducible refine Below.drew ?_) | ((with_reducible refine Below.alloc ?_ ?hB _); case hB => (first | (with_reducible exact Nat.le_refl _) | omega | (simp; done) | (simp; omega))) | ((with_reducible refine Below.setCell ?_ ?hB _); case hB => (first | (with_reducible exact Nat.le_refl _) | omega | (simp; done) | (simp; omega))))); (first | done | exact qc0)) | fail)
          (first | (go_at_call 20; refine (toRg_calls _ _ _ _ _ _ _).mono ?_; rintro e qw1 ⟨rfl, qb1⟩; have qg1 : Below w6.heap.size w6 qw1 := below_step (by (repeat (first | (with_reducible exact Below.refl _ _) | (with_reducible refine Below.drew ?_) | ((with_reducible refine Below.alloc ?_ ?hB _); case hB => (first | (with_reducible exact Nat.le_refl _) | omega | (simp; done) | (simp; omega))) | ((with_reducible refine Below.setCell ?_ ?hB _); case hB => (first | (with_reducible exact Nat.le_refl _) | omega | (simp; done) | (simp; omega)))))) qb1; have qm1 := qg1.size; clear qg1; have qc1 : Below w6.heap.size w6 qw1 := below_step (by (repeat (first | (with_reducible exact Below.refl _ _) | (with_reducible refine Below.drew ?_) | ((with_reducible refine Below.alloc ?_ ?hB _); case hB => (first | (with_reducible exact Nat.le_refl _) | omega | (simp; done) | (simp; omega))) | ((with_reducible refine Below.setCell ?_ ?hB _); case hB => (first | (with_reducible exact Nat.le_refl _) | omega | (simp; done) | (simp; omega))))); (first | done | exact qc0)) qb1; have qq1 := qc1.size; skip; clear qb1) | (go_at_call 21; refine (HIP.out _ A5 k5 (HO6.out.below (show Below w6.heap.size w6 _ by (repeat (first | (with_reducible exact Below.refl _ _) | (with_reducible refine Below.drew ?_) | ((with_reducible refine Below.alloc ?_ ?hB _); case hB => (first | (with_reducible exact Nat.le_refl _) | omega | (simp; done) | (simp; omega))) | ((with_reducible refine Below.setCell ?_ ?hB _); case hB => (first | (with_reducible exact Nat.le_refl _) | omega | (simp; done) | (simp; omega))))); (first | done | exact qc1))).reads).mono ?_; rintro e qw2 ⟨rfl, qb2⟩; have qc2 : Below w6.heap.size w6 qw2 := below_step (by (repeat (first | (with_reducible exact Below.refl _ _) | (with_reducible refine Below.drew ?_) | ((with_reducible refine Below.alloc ?_ ?hB _); case hB => (first | (with_reducible exact Nat.le_refl _) | omega | (simp; done) | (simp; omega))) | ((with_reducible refine Below.setCell ?_ ?hB _); case hB => (first | (with_reducible exact Nat.le_refl _) | omega | (simp; done) | (simp; omega))))); (first | done | exact qc1)) qb2; have qq2 := qc2.size; clear qb2))
        all_goals (go_wp2_with fail)
        all_goals go_meet
        all_goals (first | exact ⟨rfl, rfl, by (repeat (first | (with_reducible exact Below.refl _ _) | (with_reducible refine Below.drew ?_) | ((with_reducible refine Below.alloc ?_ ?hB _); case hB => (first | (with_reducible exact Nat.le_refl _) | omega | (simp; done) | (simp; omega))) | ((with_reducible refine Below.setCell ?_ ?hB _); case hB => (first | (with_reducible exact Nat.le_refl _) | omega | (simp; done) | (simp; omega))))); (first | done | exact qc2)⟩)
      case rest =>
        obtain ⟨rfl, rfl, hb8⟩ := hcut
        obtain ⟨w9, hw8⟩ : ∃ w9, w9 = wc := ⟨_, rfl⟩
        subst hw8

        have HB8 := Lib.hid (HBw6.out.trans (hb8.mono HBw6.out.size))
        have HC8 := Lib.hid hb8

        clear  hb8
        have hself0 : (p0 != p0) = false := by simp
        have hself1 : (p1 != p1) = false := by simp
        have HB9 := HB8
        have HC9 := HC8
        have y1 : w9.drew.cell? ⟨w.heap.size, 0, none⟩ = some (.slice A m.length cap) := (HA.out w9 HB9.out).1
        have y2 : w9.drew.cell? ⟨w5.heap.size, 0, none⟩ = some (.slice A5 m.length k5) := (HA6.out w9 HC9.out).1
        have HDM := Lib.hid (show decide (m = m) = true by simp)
        have HD9 := Lib.hid ((Below.refl w9.heap.size w9).drew)
        go_wp2_with fail
        go_region_held3 (fun W => W.cell? ⟨w.heap.size, 0, none⟩ = some (.slice A m.length cap) ∧ W.cell? ⟨w5.heap.size, 0, none⟩ = some (.slice A5 m.length k5))
          (first | exact ⟨y1, y2⟩ | exact ⟨(HA.out _ (HB9.out.trans (hc9.mono HB9.out.size))).1, (HA6.out _ (HC9.out.trans (hc9.mono HC9.out.size))).1⟩ | exact ⟨(HA.out _ (HB9.out.trans (hc10.mono HB9.out.size))).1, (HA6.out _ (HC9.out.trans (hc10.mono HC9.out.size))).1⟩)
          (first | (go_at_call 19; refine (HT.out _ HB9.out.drew).mono ?_; rintro e w10 ⟨v9, rfl, ho9, hb9⟩; obtain ⟨A9, k9, rfl, hk9⟩ := ho9.form; have hc9 := HD9.out.trans hb9) | (go_at_call 22; refine (HE.out w10 A5 A9 k5 k9 (HO6.out.below (HC9.out.trans (hc9.mono HC9.out.size))).reads ho9.reads).mono ?_; rintro e w11 ⟨rfl, hb10⟩; rw [HDM.out]; have hc10 := hc9.trans (hb10.mono hc9.size)))
        have HB10 := Lib.hid (HB9.out.trans (hc10.mono HB9.out.size))
        clear hb9 hb10 hc9 hc10 y1 y2
        go_wp2_with fail
        go_ret
        exact ⟨rfl, HB.out.trans (HB10.out.mono HB.out.size)⟩
end Go.Proofs.Ytlioamjmkaaooaa
