/-
  FnExactKeyAt: the walk.
-/
import Derived.Test.YtoelagfcapdfpaaBox
import Derived.Deep.DeepCutAuto
import Derived.Test.YtoelagfcapdfpaaKyE
namespace Go.Proofs.Ytoelagfcapdfpaa
open Go.RowKit

theorem key_there9 {W : World} {g : Nat} (h : W.heap[g]? = some (.cells #[.int .u8 0, .int .u8 0, .int .u8 0, .int .u8 0, .int .u8 0, .int .u8 0, .int .u8 0, .int .u8 0, .int .u8 0, .int .u8 0, .int .u8 0, .int .u8 0, .int .u8 0, .int .u8 0, .int .u8 0, .int .u8 0] 28)) {y : List Int} (hy : y.length = 16) : W.there g 0 (intV .u8 y).toArray.size := fun j hj => by
  have hk : KeyBox W g zeroK := ⟨h, by decide⟩
  have hj' : j < zeroK.length := by
    rw [List.size_toArray, intV_len, hy] at hj
    exact hj
  have hc := hk.cell hj'
  have hf := hk.frozen j
  rw [Nat.zero_add]
  exact ⟨by rw [hc]; rfl, hf⟩
theorem below_setCells9 {B g : Nat} {w' : World} : ∀ (vs : List Value) (o : Nat) {w : World}, Below B w' w → B ≤ g → Below B w' (w.setCells g o vs)
  | [], _, _, h, _ => h
  | v :: r, o, w, h, hg => below_setCells9 r (o + 1) (w := w.setCell ⟨g, o, none⟩ v) (h.setCell (p := ⟨g, o, none⟩) hg v) hg
theorem setCells_key9 {W : World} {g : Nat} (h : W.heap[g]? = some (.cells #[.int .u8 0, .int .u8 0, .int .u8 0, .int .u8 0, .int .u8 0, .int .u8 0, .int .u8 0, .int .u8 0, .int .u8 0, .int .u8 0, .int .u8 0, .int .u8 0, .int .u8 0, .int .u8 0, .int .u8 0, .int .u8 0] 28)) {y : List Int} (hy : y.length = 16) : KeyBox (W.setCells g 0 (intV .u8 y)) g y := by
  have hk : KeyBox W g zeroK := ⟨h, by decide⟩
  match y, hy with
  | [a0, a1, a2, a3, a4, a5, a6, a7, a8, a9, a10, a11, a12, a13, a14, a15], _ => exact KeyBox.stored hk

set_option maxRecDepth 100000 in
set_option maxHeartbeats 6400000 in
theorem fnExactKeyAt_walk (A : Option Addr) (len cap : Nat) (m : List (List Int)) (x : Win) (i : Int) (w : World) (h : MArg w A len cap m) (hx : WArg x) (hi : (Lit.int .i64 i).wf = true) :
    Calls Try.prog 3 #[.agg #[.slice A len cap], x.val, .int .i64 i] w fun e w' => e = .returned (.bool true) ∧ Below w.heap.size w w' := by
  obtain ⟨rfl, h1, h2, hr, _⟩ := h
  have hyl := keyAtR_len m x i
  obtain ⟨y, p4, hform⟩ : ∃ (y : List Int) (p4 : Bool), keyAtR m x i = (y, p4) := ⟨_, _, rfl⟩
  rw [hform] at hyl
  have HKL := Lib.hid (show y.length = 16 from hyl)
  have hone : ∀ v ∈ intV .u8 y, v.oneCell' = true := fun v hv => by
    obtain ⟨z, _, rfl⟩ := List.mem_map.1 hv
    rfl
  have hinf : (Try.prog.info? 28).map (·.size) = some (intV .u8 y).toArray.size := size_keyA hyl
  have HXi := Lib.hid hi
  clear hyl hi
  unfold Win.val
  obtain ⟨w0, hw0⟩ : ∃ w0, ((w.alloc (.cells #[.slice A m.length cap] 24)).alloc (.cells #[.int .i64 x.arr, .int .i64 x.start, .int .i64 x.len, .int .i64 x.cap] 26)) = w0 := ⟨_, rfl⟩
  have hb0 : Below w.heap.size w w0 := by rw [← hw0]; (repeat (first | (with_reducible exact Below.refl _ _) | (with_reducible refine Below.drew ?_) | ((with_reducible refine Below.alloc ?_ ?hB _); case hB => (first | (with_reducible exact Nat.le_refl _) | omega | (simp; done) | (simp; omega))) | ((with_reducible refine Below.setCell ?_ ?hB _); case hB => (first | (with_reducible exact Nat.le_refl _) | omega | (simp; done) | (simp; omega)))))
  have hg0 : w0.heap[w.heap.size]? = some (.cells #[.slice A m.length cap] 24) := by rw [← hw0]; exact alloc_old _ (heap_alloc_new _ _)
  have hg1 : w0.heap[w.heap.size + 1]? = some (.cells #[.int .i64 x.arr, .int .i64 x.start, .int .i64 x.len, .int .i64 x.cap] 26) := by rw [← hw0]; exact (by simpa using heap_alloc_new (w.alloc (.cells #[.slice A m.length cap] 24)) (.cells #[.int .i64 x.arr, .int .i64 x.start, .int .i64 x.len, .int .i64 x.cap] 26))
  have hlen : m.length ≤ maxLen := by omega
  have HS := Lib.hid (szMemory_calls A cap m w0 1048576 ((hr.below hb0).more hb0.size) hlen (by omega) (by omega))
  have HB := Lib.hid hb0
  have HW := Lib.hid hw0
  have HR := Lib.hid hr
  have HXx := Lib.hid hx
  have c0 := one_cell hg0
  have HA : Hid (∀ W, Below w0.heap.size w0 W → W.cell? ⟨w.heap.size, 0, none⟩ = some (.slice A m.length cap) ∧ W.cell? ⟨w.heap.size + 1, 0, none⟩ = some (.int .i64 x.arr) ∧ W.cell? ⟨w.heap.size + 1, 1, none⟩ = some (.int .i64 x.start) ∧ W.cell? ⟨w.heap.size + 1, 2, none⟩ = some (.int .i64 x.len) ∧ W.cell? ⟨w.heap.size + 1, 3, none⟩ = some (.int .i64 x.cap)) := Lib.hid fun W hb => by
    obtain ⟨e00, e01, e02, e03⟩ := four_cells ((hb.block _ (Array.getElem?_eq_some_iff.1 hg1).1).trans hg1)
    exact ⟨one_cell ((hb.block _ (Array.getElem?_eq_some_iff.1 hg0).1).trans hg0), e00, e01, e02, e03⟩
  clear hr hb0 hw0 hx hg0 hg1
  go_enter Try.func3, Try.ntmps3
  go_wp2_with fail
  rw [HW.out]
  refine HS.out.mono ?_
  rintro e w1 ⟨⟨r, rfl, hr⟩, hb1⟩
  have HR1 := Lib.hid hr
  have HBw1 := Lib.hid hb1
  clear hb1 c0
  by_cases hneg : r < 0
  · clear hr
    go_wp2_with fail
    go_ret
    exact ⟨rfl, HB.out.trans (HBw1.out.mono HB.out.size)⟩
  · have hsz : m.length ≤ 1048576 ∧ total m ≤ 1048576 := by omega
    have hro : ∀ q ∈ m, q.length ≤ 1048576 := fun q hq => Nat.le_trans (row_le m q hq) hsz.2
    have HT := Lib.hid (fun W (hb : Below w0.heap.size w0 W) => toMemory_calls A cap m W ((HR.out.below (HB.out.trans (hb.mono HB.out.size))).more (Nat.le_trans HB.out.size hb.size)) hsz.1 hro)
    have HT1 : Hid (∀ W (hb : Below w1.heap.size w1 W), Calls Try.prog 20 #[.agg #[.slice A m.length cap]] W fun e w' => ∃ v, e = .returned (.agg #[v]) ∧ OwnM w' W.heap.size w'.heap.size v m ∧ Below W.heap.size W w') := Lib.hid fun W hb => HT.out W (HBw1.out.trans (hb.mono HBw1.out.size))
    have HSP : Hid (∀ W X k, Rd2 W W.heap.size X m → Calls Try.prog 19 #[.agg #[.slice X m.length k], .agg #[.int .i64 x.arr, .int .i64 x.start, .int .i64 x.len, .int .i64 x.cap], .int .i64 i] W fun e w' => e = .returned (.tuple #[.agg (intV .u8 y).toArray, .bool p4]) ∧ Below W.heap.size W w') := Lib.hid fun W X k hx => by have hq := specKeyAt_calls X k m x i W hx hlen; rw [hform] at hq; exact hq
    have HIP : Hid (∀ W X k, Rd2 W W.heap.size X m → Calls Try.prog 22 #[.agg #[.slice X m.length k], .agg #[.int .i64 x.arr, .int .i64 x.start, .int .i64 x.len, .int .i64 x.cap], .int .i64 i] W fun e w' => e = .returned (.tuple #[.agg (intV .u8 y).toArray, .bool p4]) ∧ Below W.heap.size W w') := Lib.hid fun W X k hx => by have hq := implKeyAt_calls X k m x i W hx hlen HXx.out HXi.out; rw [hform] at hq; exact hq
    have HE := Lib.hid (fun W X Y cx cy (hx : Rd2 W W.heap.size X m) (hy : Rd2 W W.heap.size Y m) => eqMemory_calls X Y cx cy m m W hx hy hlen hlen)
    have HA1 : Hid (∀ W, Below w1.heap.size w1 W → W.cell? ⟨w.heap.size, 0, none⟩ = some (.slice A m.length cap) ∧ W.cell? ⟨w.heap.size + 1, 0, none⟩ = some (.int .i64 x.arr) ∧ W.cell? ⟨w.heap.size + 1, 1, none⟩ = some (.int .i64 x.start) ∧ W.cell? ⟨w.heap.size + 1, 2, none⟩ = some (.int .i64 x.len) ∧ W.cell? ⟨w.heap.size + 1, 3, none⟩ = some (.int .i64 x.cap)) := Lib.hid fun W hb => HA.out W (HBw1.out.trans (hb.mono HBw1.out.size))
    clear hr hsz hro hform
    have HD1 := HBw1.out.size
    go_upto_region 5 with fail
    have pc0 := (Below.refl w1.heap.size w1).drew
    have pq0 := pc0.size
    obtain ⟨pa0, pa1, pa2, pa3, pa4⟩ := HA1.out w1.drew pc0
    go_cut [8, 9] (fun s8 s9 wx => ∃ (g8 : Nat), s8 = .pointer (some ⟨g8, 0, none⟩) ∧ KeyBox wx g8 y ∧ s9 = .bool p4 ∧ Below w1.heap.size w1 wx)
    case first =>
      go_region_held3 (fun W => W.cell? ⟨w.heap.size, 0, none⟩ = some (.slice A m.length cap) ∧ W.cell? ⟨w.heap.size + 1, 0, none⟩ = some (.int .i64 x.arr) ∧ W.cell? ⟨w.heap.size + 1, 1, none⟩ = some (.int .i64 x.start) ∧ W.cell? ⟨w.heap.size + 1, 2, none⟩ = some (.int .i64 x.len) ∧ W.cell? ⟨w.heap.size + 1, 3, none⟩ = some (.int .i64 x.cap))
        (first | (with_reducible exact ⟨pa0, pa1, pa2, pa3, pa4⟩) | exact HA1.out _ (below_setCells9 _ _ (by (repeat (first | (with_reducible exact Below.refl _ _) | (with_reducible refine Below.drew ?_) | ((with_reducible refine Below.alloc ?_ ?hB _); case hB => (first | (with_reducible exact Nat.le_refl _) | omega | (simp; done) | (simp; omega))) | ((with_reducible refine Below.setCell ?_ ?hB _); case hB => (first | (with_reducible exact Nat.le_refl _) | omega | (simp; done) | (simp; omega))))); (first | done | exact pc3)) (by omega)) | exact HA1.out _ (by (repeat (first | (with_reducible exact Below.refl _ _) | (with_reducible refine Below.drew ?_) | ((with_reducible refine Below.alloc ?_ ?hB _); case hB => (first | (with_reducible exact Nat.le_refl _) | omega | (simp; done) | (simp; omega))) | ((with_reducible refine Below.setCell ?_ ?hB _); case hB => (first | (with_reducible exact Nat.le_refl _) | omega | (simp; done) | (simp; omega))))); (first | done | exact pc3)) | exact HA1.out _ (by (repeat (first | (with_reducible exact Below.refl _ _) | (with_reducible refine Below.drew ?_) | ((with_reducible refine Below.alloc ?_ ?hB _); case hB => (first | (with_reducible exact Nat.le_refl _) | omega | (simp; done) | (simp; omega))) | ((with_reducible refine Below.setCell ?_ ?hB _); case hB => (first | (with_reducible exact Nat.le_refl _) | omega | (simp; done) | (simp; omega))))); (first | done | exact pc2)) | exact HA1.out _ (by (repeat (first | (with_reducible exact Below.refl _ _) | (with_reducible refine Below.drew ?_) | ((with_reducible refine Below.alloc ?_ ?hB _); case hB => (first | (with_reducible exact Nat.le_refl _) | omega | (simp; done) | (simp; omega))) | ((with_reducible refine Below.setCell ?_ ?hB _); case hB => (first | (with_reducible exact Nat.le_refl _) | omega | (simp; done) | (simp; omega))))); (first | done | exact pc1)) | exact HA1.out _ (by (repeat (first | (with_reducible exact Below.refl _ _) | (with_reducible refine Below.drew ?_) | ((with_reducible refine Below.alloc ?_ ?hB _); case hB => (first | (with_reducible exact Nat.le_refl _) | omega | (simp; done) | (simp; omega))) | ((with_reducible refine Below.setCell ?_ ?hB _); case hB => (first | (with_reducible exact Nat.le_refl _) | omega | (simp; done) | (simp; omega))))); (first | done | exact pc0)) | fail)
        (first | (go_at_call 20; refine (HT1.out _ (by (repeat (first | (with_reducible exact Below.refl _ _) | (with_reducible refine Below.drew ?_) | ((with_reducible refine Below.alloc ?_ ?hB _); case hB => (first | (with_reducible exact Nat.le_refl _) | omega | (simp; done) | (simp; omega))) | ((with_reducible refine Below.setCell ?_ ?hB _); case hB => (first | (with_reducible exact Nat.le_refl _) | omega | (simp; done) | (simp; omega))))); (first | done | exact pc0))).mono ?_; rintro e pw1 ⟨pv, rfl, po, pb1⟩; obtain ⟨pA, pk, rfl, phk⟩ := po.form; have pr1 := Lib.hid po.reads; clear po; have pc1 : Below w1.heap.size w1 pw1 := below_step (by (repeat (first | (with_reducible exact Below.refl _ _) | (with_reducible refine Below.drew ?_) | ((with_reducible refine Below.alloc ?_ ?hB _); case hB => (first | (with_reducible exact Nat.le_refl _) | omega | (simp; done) | (simp; omega))) | ((with_reducible refine Below.setCell ?_ ?hB _); case hB => (first | (with_reducible exact Nat.le_refl _) | omega | (simp; done) | (simp; omega))))); (first | done | exact pc0)) pb1; have pq1 := pc1.size; (first | (with_reducible have pzW0_1 := Lib.hid (show pw1.heap[w1.heap.size]? = some (.cells #[.int .u8 0, .int .u8 0, .int .u8 0, .int .u8 0, .int .u8 0, .int .u8 0, .int .u8 0, .int .u8 0, .int .u8 0, .int .u8 0, .int .u8 0, .int .u8 0, .int .u8 0, .int .u8 0, .int .u8 0, .int .u8 0] 28) from box_new_d pb1)) | skip); clear pb1) | (go_at_call 21; refine (toWin_calls _ _ _ _ _).mono ?_; rintro e pw2 ⟨rfl, pb2⟩; have pg2 : Below pw1.heap.size pw1 pw2 := below_step (by (repeat (first | (with_reducible exact Below.refl _ _) | (with_reducible refine Below.drew ?_) | ((with_reducible refine Below.alloc ?_ ?hB _); case hB => (first | (with_reducible exact Nat.le_refl _) | omega | (simp; done) | (simp; omega))) | ((with_reducible refine Below.setCell ?_ ?hB _); case hB => (first | (with_reducible exact Nat.le_refl _) | omega | (simp; done) | (simp; omega)))))) pb2; clear pg2; have pr2 := Lib.hid ((pr1.out.below (show Below pw1.heap.size pw1 pw2 from below_step (by (repeat (first | (with_reducible exact Below.refl _ _) | (with_reducible refine Below.drew ?_) | ((with_reducible refine Below.alloc ?_ ?hB _); case hB => (first | (with_reducible exact Nat.le_refl _) | omega | (simp; done) | (simp; omega))) | ((with_reducible refine Below.setCell ?_ ?hB _); case hB => (first | (with_reducible exact Nat.le_refl _) | omega | (simp; done) | (simp; omega)))))) pb2)).more (show pw1.heap.size ≤ pw2.heap.size from (show Below pw1.heap.size pw1 pw2 from below_step (by (repeat (first | (with_reducible exact Below.refl _ _) | (with_reducible refine Below.drew ?_) | ((with_reducible refine Below.alloc ?_ ?hB _); case hB => (first | (with_reducible exact Nat.le_refl _) | omega | (simp; done) | (simp; omega))) | ((with_reducible refine Below.setCell ?_ ?hB _); case hB => (first | (with_reducible exact Nat.le_refl _) | omega | (simp; done) | (simp; omega)))))) pb2).size)); have pc2 : Below w1.heap.size w1 pw2 := below_step (by (repeat (first | (with_reducible exact Below.refl _ _) | (with_reducible refine Below.drew ?_) | ((with_reducible refine Below.alloc ?_ ?hB _); case hB => (first | (with_reducible exact Nat.le_refl _) | omega | (simp; done) | (simp; omega))) | ((with_reducible refine Below.setCell ?_ ?hB _); case hB => (first | (with_reducible exact Nat.le_refl _) | omega | (simp; done) | (simp; omega))))); (first | done | exact pc1)) pb2; have pq2 := pc2.size; (first | (with_reducible have pzW1_2 := Lib.hid (show pw2.heap[pw1.heap.size]? = some (.cells #[.int .u8 0, .int .u8 0, .int .u8 0, .int .u8 0, .int .u8 0, .int .u8 0, .int .u8 0, .int .u8 0, .int .u8 0, .int .u8 0, .int .u8 0, .int .u8 0, .int .u8 0, .int .u8 0, .int .u8 0, .int .u8 0] 28) from box_new pb2)) | skip); (first | (with_reducible have pzW0_2 := Lib.hid (box_keep pzW0_1.out pb2)) | (with_reducible have pzW0_2 := Lib.hid (box_keep_a pzW0_1.out pb2)) | skip); clear pb2) | (go_at_call 19; refine (HSP.out _ pA pk ((pr2.out.below (show Below pw2.heap.size pw2 _ by (repeat (first | (with_reducible exact Below.refl _ _) | (with_reducible refine Below.drew ?_) | ((with_reducible refine Below.alloc ?_ ?hB _); case hB => (first | (with_reducible exact Nat.le_refl _) | omega | (simp; done) | (simp; omega))) | ((with_reducible refine Below.setCell ?_ ?hB _); case hB => (first | (with_reducible exact Nat.le_refl _) | omega | (simp; done) | (simp; omega))))))).more (show Below pw2.heap.size pw2 _ by (repeat (first | (with_reducible exact Below.refl _ _) | (with_reducible refine Below.drew ?_) | ((with_reducible refine Below.alloc ?_ ?hB _); case hB => (first | (with_reducible exact Nat.le_refl _) | omega | (simp; done) | (simp; omega))) | ((with_reducible refine Below.setCell ?_ ?hB _); case hB => (first | (with_reducible exact Nat.le_refl _) | omega | (simp; done) | (simp; omega)))))).size)).mono ?_; rintro e pw3 ⟨rfl, pb3⟩; have pc3 : Below w1.heap.size w1 pw3 := below_step (by (repeat (first | (with_reducible exact Below.refl _ _) | (with_reducible refine Below.drew ?_) | ((with_reducible refine Below.alloc ?_ ?hB _); case hB => (first | (with_reducible exact Nat.le_refl _) | omega | (simp; done) | (simp; omega))) | ((with_reducible refine Below.setCell ?_ ?hB _); case hB => (first | (with_reducible exact Nat.le_refl _) | omega | (simp; done) | (simp; omega))))); (first | done | exact pc2)) pb3; have pq3 := pc3.size; (first | (with_reducible have pzW2_3 := Lib.hid (show pw3.heap[pw2.heap.size]? = some (.cells #[.int .u8 0, .int .u8 0, .int .u8 0, .int .u8 0, .int .u8 0, .int .u8 0, .int .u8 0, .int .u8 0, .int .u8 0, .int .u8 0, .int .u8 0, .int .u8 0, .int .u8 0, .int .u8 0, .int .u8 0, .int .u8 0] 28) from box_new pb3)) | skip); (first | (with_reducible have pzW0_3 := Lib.hid (box_keep pzW0_2.out pb3)) | (with_reducible have pzW0_3 := Lib.hid (box_keep_a pzW0_2.out pb3)) | skip); (first | (with_reducible have pzW1_3 := Lib.hid (box_keep pzW1_2.out pb3)) | (with_reducible have pzW1_3 := Lib.hid (box_keep_a pzW1_2.out pb3)) | skip); (try have pt0 := key_there9 pzW0_3.out HKL.out); (try have pzlW0 := (Array.getElem?_eq_some_iff.1 pzW0_3.out).1); (try have pt1 := key_there9 pzW1_3.out HKL.out); (try have pzlW1 := (Array.getElem?_eq_some_iff.1 pzW1_3.out).1); (try have pt2 := key_there9 pzW2_3.out HKL.out); (try have pzlW2 := (Array.getElem?_eq_some_iff.1 pzW2_3.out).1); have ptN := key_there9 (heap_alloc_new pw3 (.cells #[.int .u8 0, .int .u8 0, .int .u8 0, .int .u8 0, .int .u8 0, .int .u8 0, .int .u8 0, .int .u8 0, .int .u8 0, .int .u8 0, .int .u8 0, .int .u8 0, .int .u8 0, .int .u8 0, .int .u8 0, .int .u8 0] 28)) HKL.out; clear pb3))
      all_goals (go_wp2_with fail)
      all_goals go_meet
      all_goals (first | (exact ⟨w1.heap.size, rfl, (by with_reducible exact setCells_key9 pzW0_3.out HKL.out), rfl, below_setCells9 _ _ (by (repeat (first | (with_reducible exact Below.refl _ _) | (with_reducible refine Below.drew ?_) | ((with_reducible refine Below.alloc ?_ ?hB _); case hB => (first | (with_reducible exact Nat.le_refl _) | omega | (simp; done) | (simp; omega))) | ((with_reducible refine Below.setCell ?_ ?hB _); case hB => (first | (with_reducible exact Nat.le_refl _) | omega | (simp; done) | (simp; omega))))); (first | done | exact pc3)) (by omega)⟩) | (exact ⟨pw1.heap.size, rfl, (by with_reducible exact setCells_key9 pzW1_3.out HKL.out), rfl, below_setCells9 _ _ (by (repeat (first | (with_reducible exact Below.refl _ _) | (with_reducible refine Below.drew ?_) | ((with_reducible refine Below.alloc ?_ ?hB _); case hB => (first | (with_reducible exact Nat.le_refl _) | omega | (simp; done) | (simp; omega))) | ((with_reducible refine Below.setCell ?_ ?hB _); case hB => (first | (with_reducible exact Nat.le_refl _) | omega | (simp; done) | (simp; omega))))); (first | done | exact pc3)) (by omega)⟩) | (exact ⟨pw2.heap.size, rfl, (by with_reducible exact setCells_key9 pzW2_3.out HKL.out), rfl, below_setCells9 _ _ (by (repeat (first | (with_reducible exact Below.refl _ _) | (with_reducible refine Below.drew ?_) | ((with_reducible refine Below.alloc ?_ ?hB _); case hB => (first | (with_reducible exact Nat.le_refl _) | omega | (simp; done) | (simp; omega))) | ((with_reducible refine Below.setCell ?_ ?hB _); case hB => (first | (with_reducible exact Nat.le_refl _) | omega | (simp; done) | (simp; omega))))); (first | done | exact pc3)) (by omega)⟩) | (exact ⟨pw3.heap.size, rfl, (by with_reducible exact setCells_key9 (heap_alloc_new _ _) HKL.out), rfl, below_setCells9 _ _ (by (repeat (first | (with_reducible exact Below.refl _ _) | (with_reducible refine Below.drew ?_) | ((with_reducible refine Below.alloc ?_ ?hB _); case hB => (first | (with_reducible exact Nat.le_refl _) | omega | (simp; done) | (simp; omega))) | ((with_reducible refine Below.setCell ?_ ?hB _); case hB => (first | (with_reducible exact Nat.le_refl _) | omega | (simp; done) | (simp; omega))))); (first | done | exact pc3)) (by omega)⟩))
    case rest =>
      obtain ⟨g4, rfl, hx4, rfl, hb4⟩ := hcut
      obtain ⟨w4, hw4⟩ : ∃ w4, w4 = wc := ⟨_, rfl⟩
      subst hw4
      have HX4 := Lib.hid hx4
      have HB4 := Lib.hid (HBw1.out.trans (hb4.mono HBw1.out.size))
      have d4 := (HA.out w4 HB4.out).1
      clear hx4 hb4
      go_wp2_with fail
      refine (HT.out _ HB4.out).mono ?_
      rintro e w5 ⟨v5, rfl, ho5, hb5⟩
      obtain ⟨A5, k5, rfl, hk5⟩ := ho5.form
      obtain ⟨w6, hw6⟩ : ∃ w6, w5.alloc (.cells #[.slice A5 m.length k5] 31) = w6 := ⟨_, rfl⟩
      have hb6 : Below w5.heap.size w5 w6 := by rw [← hw6]; exact (Below.refl _ _).alloc (Nat.le_refl _) _
      have HX6 := Lib.hid (show w6.heap[w5.heap.size]? = some (.cells #[.slice A5 m.length k5] 31) by rw [← hw6]; exact heap_alloc_new _ _)
      have HO6 := Lib.hid (ho5.below hb6)
      have HX46 := Lib.hid ((HX4.out.below hb5).below hb6)
      have HBw6 := Lib.hid ((HB4.out.trans (hb5.mono HB4.out.size)).trans (hb6.mono (Nat.le_trans HB4.out.size hb5.size)))
      have HW6 := Lib.hid hw6
      clear d4 ho5 hb5 hb6 hw6
      have HA6 : Hid (∀ W, Below w6.heap.size w6 W → W.cell? ⟨w5.heap.size, 0, none⟩ = some (.slice A5 m.length k5) ∧ W.cell? ⟨w.heap.size + 1, 0, none⟩ = some (.int .i64 x.arr) ∧ W.cell? ⟨w.heap.size + 1, 1, none⟩ = some (.int .i64 x.start) ∧ W.cell? ⟨w.heap.size + 1, 2, none⟩ = some (.int .i64 x.len) ∧ W.cell? ⟨w.heap.size + 1, 3, none⟩ = some (.int .i64 x.cap)) := Lib.hid fun W hb => ⟨one_cell ((hb.block _ (Array.getElem?_eq_some_iff.1 HX6.out).1).trans HX6.out), (HA.out W (HBw6.out.trans (hb.mono HBw6.out.size))).2⟩
      have HD6 := HBw6.out.size
      go_upto_region 7 with fail
      rw [HW6.out]
      have qc0 := (Below.refl w6.heap.size w6).drew
      have qq0 := qc0.size
      obtain ⟨qa0, qa1, qa2, qa3, qa4⟩ := HA6.out w6.drew qc0
      go_cut [11, 12] (fun s11 s12 wx => ∃ (g11 : Nat), s11 = .pointer (some ⟨g11, 0, none⟩) ∧ KeyBox wx g11 y ∧ s12 = .bool p4 ∧ Below w6.heap.size w6 wx)
      case first =>
        go_region_held3 (fun W => W.cell? ⟨w5.heap.size, 0, none⟩ = some (.slice A5 m.length k5) ∧ W.cell? ⟨w.heap.size + 1, 0, none⟩ = some (.int .i64 x.arr) ∧ W.cell? ⟨w.heap.size + 1, 1, none⟩ = some (.int .i64 x.start) ∧ W.cell? ⟨w.heap.size + 1, 2, none⟩ = some (.int .i64 x.len) ∧ W.cell? ⟨w.heap.size + 1, 3, none⟩ = some (.int .i64 x.cap))
          (first | (with_reducible exact ⟨qa0, qa1, qa2, qa3, qa4⟩) | exact HA6.out _ (below_setCells9 _ _ (by (repeat (first | (with_reducible exact Below.refl _ _) | (with_reducible refine Below.drew ?_) | ((with_reducible refine Below.alloc ?_ ?hB _); case hB => (first | (with_reducible exact Nat.le_refl _) | omega | (simp; done) | (simp; omega))) | ((with_reducible refine Below.setCell ?_ ?hB _); case hB => (first | (with_reducible exact Nat.le_refl _) | omega | (simp; done) | (simp; omega))))); (first | done | exact qc2)) (by omega)) | exact HA6.out _ (by (repeat (first | (with_reducible exact Below.refl _ _) | (with_reducible refine Below.drew ?_) | ((with_reducible refine Below.alloc ?_ ?hB _); case hB => (first | (with_reducible exact Nat.le_refl _) | omega | (simp; done) | (simp; omega))) | ((with_reducible refine Below.setCell ?_ ?hB _); case hB => (first | (with_reducible exact Nat.le_refl _) | omega | (simp; done) | (simp; omega))))); (first | done | exact qc2)) | exact HA6.out _ (by (repeat (first | (with_reducible exact Below.refl _ _) | (with_reducible refine Below.drew ?_) | ((with_reducible refine Below.alloc ?_ ?hB _); case hB => (first | (with_reducible exact Nat.le_refl _) | omega | (simp; done) | (simp; omega))) | ((with_reducible refine Below.setCell ?_ ?hB _); case hB => (first | (with_reducible exact Nat.le_refl _) | omega | (simp; done) | (simp; omega))))); (first | done | exact qc1)) | exact HA6.out _ (by (repeat (first | (with_reducible exact Below.refl _ _) | (with_reducible refine Below.drew ?_) | ((with_reducible refine Below.alloc ?_ ?hB _); case hB => (first | (with_reducible exact Nat.le_refl _) | omega | (simp; done) | (simp; omega))) | ((with_reducible refine Below.setCell ?_ ?hB _); case hB => (first | (with_reducible exact Nat.le_refl _) | omega | (simp; done) | (simp; omega))))); (first | done | exact qc0)) | fail)
          (first | (go_at_call 21; refine (toWin_calls _ _ _ _ _).mono ?_; rintro e qw1 ⟨rfl, qb1⟩; have qg1 : Below w6.heap.size w6 qw1 := below_step (by (repeat (first | (with_reducible exact Below.refl _ _) | (with_reducible refine Below.drew ?_) | ((with_reducible refine Below.alloc ?_ ?hB _); case hB => (first | (with_reducible exact Nat.le_refl _) | omega | (simp; done) | (simp; omega))) | ((with_reducible refine Below.setCell ?_ ?hB _); case hB => (first | (with_reducible exact Nat.le_refl _) | omega | (simp; done) | (simp; omega)))))) qb1; clear qg1; have qc1 : Below w6.heap.size w6 qw1 := below_step (by (repeat (first | (with_reducible exact Below.refl _ _) | (with_reducible refine Below.drew ?_) | ((with_reducible refine Below.alloc ?_ ?hB _); case hB => (first | (with_reducible exact Nat.le_refl _) | omega | (simp; done) | (simp; omega))) | ((with_reducible refine Below.setCell ?_ ?hB _); case hB => (first | (with_reducible exact Nat.le_refl _) | omega | (simp; done) | (simp; omega))))); (first | done | exact qc0)) qb1; have qq1 := qc1.size; (first | (with_reducible have qzW0_1 := Lib.hid (show qw1.heap[w6.heap.size]? = some (.cells #[.int .u8 0, .int .u8 0, .int .u8 0, .int .u8 0, .int .u8 0, .int .u8 0, .int .u8 0, .int .u8 0, .int .u8 0, .int .u8 0, .int .u8 0, .int .u8 0, .int .u8 0, .int .u8 0, .int .u8 0, .int .u8 0] 28) from box_new_d qb1)) | skip); clear qb1) | (go_at_call 22; refine (HIP.out _ A5 k5 (HO6.out.below (show Below w6.heap.size w6 _ by (repeat (first | (with_reducible exact Below.refl _ _) | (with_reducible refine Below.drew ?_) | ((with_reducible refine Below.alloc ?_ ?hB _); case hB => (first | (with_reducible exact Nat.le_refl _) | omega | (simp; done) | (simp; omega))) | ((with_reducible refine Below.setCell ?_ ?hB _); case hB => (first | (with_reducible exact Nat.le_refl _) | omega | (simp; done) | (simp; omega))))); (first | done | exact qc1))).reads).mono ?_; rintro e qw2 ⟨rfl, qb2⟩; have qc2 : Below w6.heap.size w6 qw2 := below_step (by (repeat (first | (with_reducible exact Below.refl _ _) | (with_reducible refine Below.drew ?_) | ((with_reducible refine Below.alloc ?_ ?hB _); case hB => (first | (with_reducible exact Nat.le_refl _) | omega | (simp; done) | (simp; omega))) | ((with_reducible refine Below.setCell ?_ ?hB _); case hB => (first | (with_reducible exact Nat.le_refl _) | omega | (simp; done) | (simp; omega))))); (first | done | exact qc1)) qb2; have qq2 := qc2.size; (first | (with_reducible have qzW1_2 := Lib.hid (show qw2.heap[qw1.heap.size]? = some (.cells #[.int .u8 0, .int .u8 0, .int .u8 0, .int .u8 0, .int .u8 0, .int .u8 0, .int .u8 0, .int .u8 0, .int .u8 0, .int .u8 0, .int .u8 0, .int .u8 0, .int .u8 0, .int .u8 0, .int .u8 0, .int .u8 0] 28) from box_new qb2)) | skip); (first | (with_reducible have qzW0_2 := Lib.hid (box_keep qzW0_1.out qb2)) | (with_reducible have qzW0_2 := Lib.hid (box_keep_a qzW0_1.out qb2)) | skip); (try have qt0 := key_there9 qzW0_2.out HKL.out); (try have qzlW0 := (Array.getElem?_eq_some_iff.1 qzW0_2.out).1); (try have qt1 := key_there9 qzW1_2.out HKL.out); (try have qzlW1 := (Array.getElem?_eq_some_iff.1 qzW1_2.out).1); have qtN := key_there9 (heap_alloc_new qw2 (.cells #[.int .u8 0, .int .u8 0, .int .u8 0, .int .u8 0, .int .u8 0, .int .u8 0, .int .u8 0, .int .u8 0, .int .u8 0, .int .u8 0, .int .u8 0, .int .u8 0, .int .u8 0, .int .u8 0, .int .u8 0, .int .u8 0] 28)) HKL.out; clear qb2))
        all_goals (go_wp2_with fail)
        all_goals go_meet
        all_goals (first | (exact ⟨w6.heap.size, rfl, (by with_reducible exact setCells_key9 qzW0_2.out HKL.out), rfl, below_setCells9 _ _ (by (repeat (first | (with_reducible exact Below.refl _ _) | (with_reducible refine Below.drew ?_) | ((with_reducible refine Below.alloc ?_ ?hB _); case hB => (first | (with_reducible exact Nat.le_refl _) | omega | (simp; done) | (simp; omega))) | ((with_reducible refine Below.setCell ?_ ?hB _); case hB => (first | (with_reducible exact Nat.le_refl _) | omega | (simp; done) | (simp; omega))))); (first | done | exact qc2)) (by omega)⟩) | (exact ⟨qw1.heap.size, rfl, (by with_reducible exact setCells_key9 qzW1_2.out HKL.out), rfl, below_setCells9 _ _ (by (repeat (first | (with_reducible exact Below.refl _ _) | (with_reducible refine Below.drew ?_) | ((with_reducible refine Below.alloc ?_ ?hB _); case hB => (first | (with_reducible exact Nat.le_refl _) | omega | (simp; done) | (simp; omega))) | ((with_reducible refine Below.setCell ?_ ?hB _); case hB => (first | (with_reducible exact Nat.le_refl _) | omega | (simp; done) | (simp; omega))))); (first | done | exact qc2)) (by omega)⟩) | (exact ⟨qw2.heap.size, rfl, (by with_reducible exact setCells_key9 (heap_alloc_new _ _) HKL.out), rfl, below_setCells9 _ _ (by (repeat (first | (with_reducible exact Below.refl _ _) | (with_reducible refine Below.drew ?_) | ((with_reducible refine Below.alloc ?_ ?hB _); case hB => (first | (with_reducible exact Nat.le_refl _) | omega | (simp; done) | (simp; omega))) | ((with_reducible refine Below.setCell ?_ ?hB _); case hB => (first | (with_reducible exact Nat.le_refl _) | omega | (simp; done) | (simp; omega))))); (first | done | exact qc2)) (by omega)⟩))
      case rest =>
        obtain ⟨g8, rfl, hx8, rfl, hb8⟩ := hcut
        obtain ⟨w8, hw8⟩ : ∃ w8, w8 = wc := ⟨_, rfl⟩
        subst hw8
        have HX8 := Lib.hid hx8
        have HB8 := Lib.hid (HBw6.out.trans (hb8.mono HBw6.out.size))
        have HC8 := Lib.hid hb8
        have HX48 := Lib.hid (HX46.out.below (hb8.mono (Nat.le_refl _)))
        clear hx8 hb8
        have hself4 : (p4 != p4) = false := by simp
        go_wp2_with (first | (refine KeyBox.ld HX8.out rfl _ rfl rfl ?_) | (refine KeyBox.ld HX48.out rfl _ rfl rfl ?_))
        refine (eqByteA16_calls y w8 HKL.out).mono ?_
        rintro e w9 ⟨rfl, hb9⟩
        have HC9 := Lib.hid (HC8.out.trans (hb9.mono HC8.out.size))
        have HB9 := Lib.hid (HB8.out.trans (hb9.mono HB8.out.size))
        clear hb9
        have y1 : w9.drew.cell? ⟨w.heap.size, 0, none⟩ = some (.slice A m.length cap) := (HA.out w9 HB9.out).1
        have y2 : w9.drew.cell? ⟨w5.heap.size, 0, none⟩ = some (.slice A5 m.length k5) := (HA6.out w9 HC9.out).1
        have HDM := Lib.hid (show decide (m = m) = true by simp)
        have HD9 := Lib.hid ((Below.refl w9.heap.size w9).drew)
        go_wp2_with fail
        go_region_held3 (fun W => W.cell? ⟨w.heap.size, 0, none⟩ = some (.slice A m.length cap) ∧ W.cell? ⟨w5.heap.size, 0, none⟩ = some (.slice A5 m.length k5))
          (first | exact ⟨y1, y2⟩ | exact ⟨(HA.out _ (HB9.out.trans (hc9.mono HB9.out.size))).1, (HA6.out _ (HC9.out.trans (hc9.mono HC9.out.size))).1⟩ | exact ⟨(HA.out _ (HB9.out.trans (hc10.mono HB9.out.size))).1, (HA6.out _ (HC9.out.trans (hc10.mono HC9.out.size))).1⟩)
          (first | (go_at_call 20; refine (HT.out _ HB9.out.drew).mono ?_; rintro e w10 ⟨v9, rfl, ho9, hb9⟩; obtain ⟨A9, k9, rfl, hk9⟩ := ho9.form; have hc9 := HD9.out.trans hb9) | (go_at_call 24; refine (HE.out w10 A5 A9 k5 k9 (HO6.out.below (HC9.out.trans (hc9.mono HC9.out.size))).reads ho9.reads).mono ?_; rintro e w11 ⟨rfl, hb10⟩; rw [HDM.out]; have hc10 := hc9.trans (hb10.mono hc9.size)))
        have HB10 := Lib.hid (HB9.out.trans (hc10.mono HB9.out.size))
        clear hb9 hb10 hc9 hc10 y1 y2
        go_wp2_with fail
        go_ret
        exact ⟨rfl, HB.out.trans (HB10.out.mono HB.out.size)⟩
end Go.Proofs.Ytoelagfcapdfpaa
