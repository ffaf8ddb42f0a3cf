/-
  FnExactPartText: the walk.
-/
import Derived.Test.YtomebbapjolnlaaBox2
import Derived.Test.YtomebbapjolnlaaRpH
import Derived.Deep.DeepCutAuto
import Derived.Test.YtomebbapjolnlaaRpW
import Derived.Test.YtomebbapjolnlaaRqP
namespace Go.Proofs.Ytomebbapjolnlaa
open Go.RowKit

set_option maxRecDepth 100000 in
set_option maxHeartbeats 6400000 in
theorem fnExactPartText_walk (A : Option Addr) (len cap : Nat) (m : List (List Int)) (AL : Option Addr) (lenL capL : Nat) (L : List Win) (i : Int) (i2 : Int) (w : World) (h : MArg w A len cap m) (hL : WsArg w AL lenL capL L) (hi : (Lit.int .i64 i).wf = true) (hi2 : (Lit.int .i64 i2).wf = true) :
    Calls Try.prog 11 #[.agg #[.slice A len cap], .agg #[.slice AL lenL capL], .int .i64 i, .int .i64 i2] w fun e w' => e = .returned (.bool true) ∧ Below w.heap.size w w' := by
  obtain ⟨rfl, h1, h2, hr, hzz⟩ := h
  obtain ⟨rfl, g1L, g2L, hrL, hwaL⟩ := hL
  have hsm := partR_small m L i i2
  obtain ⟨R, p1, hform⟩ : ∃ (R : List Win) (p1 : Bool), partR m L i i2 = (R, p1) := ⟨_, _, rfl⟩
  rw [hform] at hsm
  have hR1 : R.length ≤ 1048576 := hsm
  clear hsm
  obtain ⟨w0, hw0⟩ : ∃ w0, ((w.alloc (.cells #[.slice A m.length cap] 24)).alloc (.cells #[.slice AL L.length capL] 27)) = w0 := ⟨_, rfl⟩
  have hb0 : Below w.heap.size w w0 := by rw [← hw0]; (repeat (first | (with_reducible exact Below.refl _ _) | (with_reducible refine Below.drew ?_) | ((with_reducible refine Below.alloc ?_ ?hB _); case hB => (first | (with_reducible exact Nat.le_refl _) | omega | (simp; done) | (simp; omega))) | ((with_reducible refine Below.setCell ?_ ?hB _); case hB => (first | (with_reducible exact Nat.le_refl _) | omega | (simp; done) | (simp; omega)))))
  have hg0 : w0.heap[w.heap.size]? = some (.cells #[.slice A m.length cap] 24) := by rw [← hw0]; exact alloc_old _ ((by simpa using heap_alloc_new w (.cells #[.slice A m.length cap] 24)))
  have hg1 : w0.heap[w.heap.size + 1]? = some (.cells #[.slice AL L.length capL] 27) := by rw [← hw0]; exact (by simpa using heap_alloc_new (w.alloc (.cells #[.slice A m.length cap] 24)) (.cells #[.slice AL L.length capL] 27))
  have hlen : m.length ≤ maxLen := by omega
  have HS := Lib.hid (szMemory_calls A cap m w0 1048576 ((hr.below hb0).more hb0.size) hlen (by omega) (by omega))
  have HB := Lib.hid hb0
  have HW := Lib.hid hw0
  have HR := Lib.hid hr
  have HRL := Lib.hid hrL
  have HWAL := Lib.hid hwaL
  have hlenL : L.length ≤ maxLen := by omega
  have HIi := Lib.hid hi
  have HIi2 := Lib.hid hi2
  have HA : Hid (∀ W, Below w0.heap.size w0 W → W.cell? ⟨w.heap.size, 0, none⟩ = some (.slice A m.length cap) ∧ W.cell? ⟨w.heap.size + 1, 0, none⟩ = some (.slice AL L.length capL)) := Lib.hid fun W hb => ⟨one_cell ((hb.block _ (Array.getElem?_eq_some_iff.1 hg0).1).trans hg0), one_cell ((hb.block _ (Array.getElem?_eq_some_iff.1 hg1).1).trans hg1)⟩
  obtain ⟨c0, c1⟩ := HA.out w0 (Below.refl _ _)
  clear hr hzz hb0 hw0 hrL hwaL hg0 hg1 hi hi2
  go_enter Try.func11, Try.ntmps11
  go_wp2_with fail
  rw [HW.out]
  refine HS.out.mono ?_
  rintro e w1 ⟨⟨r, rfl, hr⟩, hb1⟩
  have HR1 := Lib.hid hr
  have HBw := Lib.hid hb1
  clear hb1 c0 c1
  by_cases hneg : r < 0
  · clear hr
    go_wp2_with fail
    go_ret
    exact ⟨rfl, HB.out.trans (HBw.out.mono HB.out.size)⟩
  have hsz : m.length ≤ 1048576 ∧ total m ≤ 1048576 ∧ 0 ≤ r ∧ r ≤ 1048576 := by omega
  have hr0 := hsz.2.2.1
  have hr1 := hsz.2.2.2
  have HSL := Lib.hid (szRope_calls AL L.length capL w1 (r) hlenL (by omega) (by omega))
  have d0 := (HA.out w1 HBw.out).2
  clear hr
  by_cases hneg2 : r < L.length
  · rw [if_pos hneg2] at HSL
    clear hneg2
    go_wp2_with fail
    refine HSL.out.mono ?_
    rintro e w2 ⟨rfl, hbn⟩
    replace HBw := Lib.hid (HBw.out.trans (hbn.mono HBw.out.size))
    clear hbn
    go_wp2_with fail
    go_ret
    exact ⟨rfl, HB.out.trans (HBw.out.mono HB.out.size)⟩
  rw [if_neg hneg2] at HSL
  have hl20L : L.length ≤ 1048576 := by omega
  have hrl0 : ¬ (r - (L.length : Int)) < 0 := by omega
  clear hneg2
  go_wp2_with fail
  refine HSL.out.mono ?_
  rintro e w2 ⟨rfl, hbn⟩
  replace HBw := Lib.hid (HBw.out.trans (hbn.mono HBw.out.size))
  clear hbn d0 HSL
  have hro : ∀ q ∈ m, q.length ≤ 1048576 := fun q hq => Nat.le_trans (row_le m q hq) hsz.2.1
  have HMS := Lib.hid (show m.length ≤ 2097152 ∧ total m ≤ 2097152 by omega)
  have HT := Lib.hid (fun W (hb : Below w0.heap.size w0 W) => toMemory_calls A cap m W ((HR.out.below (HB.out.trans (hb.mono HB.out.size))).more (Nat.le_trans HB.out.size hb.size)) hsz.1 hro)
  have HTL := Lib.hid (fun W (hb : Below w0.heap.size w0 W) => toRope_calls AL capL L W ((HRL.out.below (HB.out.trans (hb.mono HB.out.size))).more (Nat.le_trans HB.out.size hb.size)) hl20L)
  have HSP : Hid (∀ W X k YL kL, Rd2 W W.heap.size X m → RdW W W.heap.size YL L → Calls Try.prog 48 #[.agg #[.slice X m.length k], .agg #[.slice YL L.length kL], .int .i64 i, .int .i64 i2] W (fun e w' => ∃ vB, e = .returned (.tuple #[.agg #[vB], .bool p1]) ∧ OwnW w' W.heap.size w'.heap.size vB R ∧ Below W.heap.size W w')) := Lib.hid (fun W X k YL kL (hx : Rd2 W W.heap.size X m) (hyL : RdW W W.heap.size YL L) => by have hq := specPartText_calls X k m YL kL L i i2 W hx hlen hyL hlenL; rw [hform] at hq; exact hq)
  have HIP : Hid (∀ W X k YL kL, Rd2 W W.heap.size X m → RdW W W.heap.size YL L → Calls Try.prog 49 #[.agg #[.slice X m.length k], .agg #[.slice YL L.length kL], .int .i64 i, .int .i64 i2] W (fun e w' => ∃ vB, e = .returned (.tuple #[.agg #[vB], .bool p1]) ∧ OwnW w' W.heap.size w'.heap.size vB R ∧ Below W.heap.size W w')) := Lib.hid (fun W X k YL kL (hx : Rd2 W W.heap.size X m) (hyL : RdW W W.heap.size YL L) => by have hq := implPartText_calls X k m YL kL L i i2 W hx hlen hyL hlenL HWAL.out HIi.out HIi2.out; rw [hform] at hq; exact hq)
  have HE := Lib.hid (fun W X Y cx cy (hx : Rd2 W W.heap.size X m) (hy : Rd2 W W.heap.size Y m) => eqSame_calls X Y cx cy m W hx hy hlen)
  have HEL := Lib.hid (fun W X Y cx cy (hx : RdW W W.heap.size X L) (hy : RdW W W.heap.size Y L) => eqRope_calls X Y cx cy L W hx hy hl20L)
  have HER := Lib.hid (fun W X Y cx cy (hx : RdW W W.heap.size X R) (hy : RdW W W.heap.size Y R) => eqRope_calls X Y cx cy R W hx hy hR1)
  have hself1 : (p1 != p1) = false := by simp
  clear hsz hro hform HR1 HRL HWAL HR HIi HIi2
  go_upto_region 8 with fail
  have pc0 : Below w2.heap.size w2 w2.drew := (Below.refl w2.heap.size w2).drew
  have pq0 := pc0.size
  obtain ⟨pa0, pa1⟩ := HA.out _ (HBw.out.trans (pc0.mono HBw.out.size))
  have pS : Hid (∀ W, Below w2.heap.size w2 W → W.cell? ⟨w.heap.size, 0, none⟩ = some (.slice A m.length cap) ∧ W.cell? ⟨w.heap.size + 1, 0, none⟩ = some (.slice AL L.length capL)) := Lib.hid fun W hb => HA.out _ (HBw.out.trans (hb.mono HBw.out.size))
  go_cut [10, 11] (fun s10 s11 wx => ∃ (g lo hi : Nat) (v : Value), s10 = .pointer (some ⟨g, 0, none⟩) ∧ LBox wx w2.heap.size g lo hi v R ∧ s11 = .bool p1 ∧ Below w2.heap.size w2 wx)
  case first =>
    go_region_held3 (fun W => W.cell? ⟨w.heap.size, 0, none⟩ = some (.slice A m.length cap) ∧ W.cell? ⟨w.heap.size + 1, 0, none⟩ = some (.slice AL L.length capL))
      (first | (with_reducible exact ⟨pa0, pa1⟩) | exact pS.out _ (by (repeat (first | (with_reducible exact Below.refl _ _) | (with_reducible refine Below.drew ?_) | ((with_reducible refine Below.alloc ?_ ?hB _); case hB => (first | (with_reducible exact Nat.le_refl _) | omega | (simp; done) | (simp; omega))) | ((with_reducible refine Below.setCell ?_ ?hB _); case hB => (first | (with_reducible exact Nat.le_refl _) | omega | (simp; done) | (simp; omega))))); (first | done | exact pc3)) | exact pS.out _ (by (repeat (first | (with_reducible exact Below.refl _ _) | (with_reducible refine Below.drew ?_) | ((with_reducible refine Below.alloc ?_ ?hB _); case hB => (first | (with_reducible exact Nat.le_refl _) | omega | (simp; done) | (simp; omega))) | ((with_reducible refine Below.setCell ?_ ?hB _); case hB => (first | (with_reducible exact Nat.le_refl _) | omega | (simp; done) | (simp; omega))))); (first | done | exact pc2)) | exact pS.out _ (by (repeat (first | (with_reducible exact Below.refl _ _) | (with_reducible refine Below.drew ?_) | ((with_reducible refine Below.alloc ?_ ?hB _); case hB => (first | (with_reducible exact Nat.le_refl _) | omega | (simp; done) | (simp; omega))) | ((with_reducible refine Below.setCell ?_ ?hB _); case hB => (first | (with_reducible exact Nat.le_refl _) | omega | (simp; done) | (simp; omega))))); (first | done | exact pc1)) | exact pS.out _ (by (repeat (first | (with_reducible exact Below.refl _ _) | (with_reducible refine Below.drew ?_) | ((with_reducible refine Below.alloc ?_ ?hB _); case hB => (first | (with_reducible exact Nat.le_refl _) | omega | (simp; done) | (simp; omega))) | ((with_reducible refine Below.setCell ?_ ?hB _); case hB => (first | (with_reducible exact Nat.le_refl _) | omega | (simp; done) | (simp; omega))))); (first | done | exact pc0)) | fail)
      (first | (go_at_call 48; refine (HSP.out _ pA pk pAL pkL ((pr.out.below (show Below pw2.heap.size pw2 _ by (repeat (first | (with_reducible exact Below.refl _ _) | (with_reducible refine Below.drew ?_) | ((with_reducible refine Below.alloc ?_ ?hB _); case hB => (first | (with_reducible exact Nat.le_refl _) | omega | (simp; done) | (simp; omega))) | ((with_reducible refine Below.setCell ?_ ?hB _); case hB => (first | (with_reducible exact Nat.le_refl _) | omega | (simp; done) | (simp; omega))))))).more (show Below pw2.heap.size pw2 _ by (repeat (first | (with_reducible exact Below.refl _ _) | (with_reducible refine Below.drew ?_) | ((with_reducible refine Below.alloc ?_ ?hB _); case hB => (first | (with_reducible exact Nat.le_refl _) | omega | (simp; done) | (simp; omega))) | ((with_reducible refine Below.setCell ?_ ?hB _); case hB => (first | (with_reducible exact Nat.le_refl _) | omega | (simp; done) | (simp; omega)))))).size) ((prL.out.below (show Below pw2.heap.size pw2 _ by (repeat (first | (with_reducible exact Below.refl _ _) | (with_reducible refine Below.drew ?_) | ((with_reducible refine Below.alloc ?_ ?hB _); case hB => (first | (with_reducible exact Nat.le_refl _) | omega | (simp; done) | (simp; omega))) | ((with_reducible refine Below.setCell ?_ ?hB _); case hB => (first | (with_reducible exact Nat.le_refl _) | omega | (simp; done) | (simp; omega))))))).more (show Below pw2.heap.size pw2 _ by (repeat (first | (with_reducible exact Below.refl _ _) | (with_reducible refine Below.drew ?_) | ((with_reducible refine Below.alloc ?_ ?hB _); case hB => (first | (with_reducible exact Nat.le_refl _) | omega | (simp; done) | (simp; omega))) | ((with_reducible refine Below.setCell ?_ ?hB _); case hB => (first | (with_reducible exact Nat.le_refl _) | omega | (simp; done) | (simp; omega)))))).size)).mono ?_; rintro e pw3 ⟨pV, rfl, po, pb3⟩; have pc3 : Below w2.heap.size w2 pw3 := below_step (by (repeat (first | (with_reducible exact Below.refl _ _) | (with_reducible refine Below.drew ?_) | ((with_reducible refine Below.alloc ?_ ?hB _); case hB => (first | (with_reducible exact Nat.le_refl _) | omega | (simp; done) | (simp; omega))) | ((with_reducible refine Below.setCell ?_ ?hB _); case hB => (first | (with_reducible exact Nat.le_refl _) | omega | (simp; done) | (simp; omega))))); (first | done | exact pc2)) pb3; have pq3 := pc3.size; skip; (first | (with_reducible have pO := Lib.hid (show OwnW pw3 (pw2.heap.size + 1) pw3.heap.size pV R from ownW_al po)) | (have pO := Lib.hid (show OwnW pw3 pw2.heap.size pw3.heap.size pV R from po))); (first | (with_reducible have pt : pw2.heap.size + 1 ≤ pw3.heap.size := al_le pb3) | (have pt : pw2.heap.size ≤ pw3.heap.size := pb3.size)); obtain ⟨pVA, pVk, rfl⟩ := po.form; clear po; (first | (with_reducible have pz2_3 := Lib.hid (show pw3.heap[pw2.heap.size]? = some (.cells #[.slice none 0 0] 36) from box_new pb3)) | skip); (first | (with_reducible have pz0_3 := Lib.hid (box_keep pz0_2.out pb3)) | (with_reducible have pz0_3 := Lib.hid (box_keep_a pz0_2.out pb3)) | skip); (first | (with_reducible have pz1_3 := Lib.hid (box_keep pz1_2.out pb3)) | (with_reducible have pz1_3 := Lib.hid (box_keep_a pz1_2.out pb3)) | skip); (try have pzc0 := one_cell pz0_3.out); (try have pzf0 := one_frozen pz0_3.out); (try have pzc1 := one_cell pz1_3.out); (try have pzf1 := one_frozen pz1_3.out); (try have pzc2 := one_cell pz2_3.out); (try have pzf2 := one_frozen pz2_3.out); clear pb3) | (go_at_call 22; refine (HTL.out _ (HBw.out.trans ((show Below w2.heap.size w2 _ by (repeat (first | (with_reducible exact Below.refl _ _) | (with_reducible refine Below.drew ?_) | ((with_reducible refine Below.alloc ?_ ?hB _); case hB => (first | (with_reducible exact Nat.le_refl _) | omega | (simp; done) | (simp; omega))) | ((with_reducible refine Below.setCell ?_ ?hB _); case hB => (first | (with_reducible exact Nat.le_refl _) | omega | (simp; done) | (simp; omega))))); (first | done | exact pc1)).mono HBw.out.size))).mono ?_; rintro e pw2 ⟨pvL, rfl, poL, pb2⟩; have pc2 : Below w2.heap.size w2 pw2 := below_step (by (repeat (first | (with_reducible exact Below.refl _ _) | (with_reducible refine Below.drew ?_) | ((with_reducible refine Below.alloc ?_ ?hB _); case hB => (first | (with_reducible exact Nat.le_refl _) | omega | (simp; done) | (simp; omega))) | ((with_reducible refine Below.setCell ?_ ?hB _); case hB => (first | (with_reducible exact Nat.le_refl _) | omega | (simp; done) | (simp; omega))))); (first | done | exact pc1)) pb2; have pq2 := pc2.size; replace pr := Lib.hid ((pr.out.below (show Below pw1.heap.size pw1 pw2 from below_step (by (repeat (first | (with_reducible exact Below.refl _ _) | (with_reducible refine Below.drew ?_) | ((with_reducible refine Below.alloc ?_ ?hB _); case hB => (first | (with_reducible exact Nat.le_refl _) | omega | (simp; done) | (simp; omega))) | ((with_reducible refine Below.setCell ?_ ?hB _); case hB => (first | (with_reducible exact Nat.le_refl _) | omega | (simp; done) | (simp; omega)))))) pb2)).more (show Below pw1.heap.size pw1 pw2 from below_step (by (repeat (first | (with_reducible exact Below.refl _ _) | (with_reducible refine Below.drew ?_) | ((with_reducible refine Below.alloc ?_ ?hB _); case hB => (first | (with_reducible exact Nat.le_refl _) | omega | (simp; done) | (simp; omega))) | ((with_reducible refine Below.setCell ?_ ?hB _); case hB => (first | (with_reducible exact Nat.le_refl _) | omega | (simp; done) | (simp; omega)))))) pb2).size); obtain ⟨pAL, pkL, rfl⟩ := poL.form; have prL := Lib.hid poL.rd; clear poL; (first | (with_reducible have pz1_2 := Lib.hid (show pw2.heap[pw1.heap.size]? = some (.cells #[.slice none 0 0] 36) from box_new pb2)) | skip); (first | (with_reducible have pz0_2 := Lib.hid (box_keep pz0_1.out pb2)) | (with_reducible have pz0_2 := Lib.hid (box_keep_a pz0_1.out pb2)) | skip); clear pb2) | (go_at_call 21; refine (HT.out _ (HBw.out.trans ((show Below w2.heap.size w2 _ by (repeat (first | (with_reducible exact Below.refl _ _) | (with_reducible refine Below.drew ?_) | ((with_reducible refine Below.alloc ?_ ?hB _); case hB => (first | (with_reducible exact Nat.le_refl _) | omega | (simp; done) | (simp; omega))) | ((with_reducible refine Below.setCell ?_ ?hB _); case hB => (first | (with_reducible exact Nat.le_refl _) | omega | (simp; done) | (simp; omega))))); (first | done | exact pc0)).mono HBw.out.size))).mono ?_; rintro e pw1 ⟨pv, rfl, po, pb1⟩; have pc1 : Below w2.heap.size w2 pw1 := below_step (by (repeat (first | (with_reducible exact Below.refl _ _) | (with_reducible refine Below.drew ?_) | ((with_reducible refine Below.alloc ?_ ?hB _); case hB => (first | (with_reducible exact Nat.le_refl _) | omega | (simp; done) | (simp; omega))) | ((with_reducible refine Below.setCell ?_ ?hB _); case hB => (first | (with_reducible exact Nat.le_refl _) | omega | (simp; done) | (simp; omega))))); (first | done | exact pc0)) pb1; have pq1 := pc1.size; obtain ⟨pA, pk, rfl, phk⟩ := po.form; have pr := Lib.hid po.reads; clear po phk; (first | (with_reducible have pz0_1 := Lib.hid (show pw1.heap[w2.heap.size]? = some (.cells #[.slice none 0 0] 36) from box_new_d pb1)) | skip); clear pb1))
    all_goals (go_wp2_with fail)
    all_goals go_meet
    all_goals (first | (have pzz := pz0_3.out; exact ⟨w2.heap.size, pw2.heap.size, pw3.heap.size, _, rfl, LBox.mk' (by with_reducible exact one_set pz0_3.out) (ownW_set2 pO.out (.inl (Array.getElem?_eq_some_iff.1 pz0_2.out).1)) (by first | omega | (simp; omega)) (by first | omega | (simp; omega)) (by rw [World.size_setCell]; exact Nat.le_refl _) (by first | omega | (simp; omega)) (.inl (Array.getElem?_eq_some_iff.1 pz0_2.out).1), rfl, by (repeat (first | (with_reducible exact Below.refl _ _) | (with_reducible refine Below.drew ?_) | ((with_reducible refine Below.alloc ?_ ?hB _); case hB => (first | (with_reducible exact Nat.le_refl _) | omega | (simp; done) | (simp; omega))) | ((with_reducible refine Below.setCell ?_ ?hB _); case hB => (first | (with_reducible exact Nat.le_refl _) | omega | (simp; done) | (simp; omega))))); (first | done | exact pc3)⟩) | (have pzz := pz1_3.out; exact ⟨pw1.heap.size, pw2.heap.size, pw3.heap.size, _, rfl, LBox.mk' (by with_reducible exact one_set pz1_3.out) (ownW_set2 pO.out (.inl (Array.getElem?_eq_some_iff.1 pz1_2.out).1)) (by first | omega | (simp; omega)) (by first | omega | (simp; omega)) (by rw [World.size_setCell]; exact Nat.le_refl _) (by first | omega | (simp; omega)) (.inl (Array.getElem?_eq_some_iff.1 pz1_2.out).1), rfl, by (repeat (first | (with_reducible exact Below.refl _ _) | (with_reducible refine Below.drew ?_) | ((with_reducible refine Below.alloc ?_ ?hB _); case hB => (first | (with_reducible exact Nat.le_refl _) | omega | (simp; done) | (simp; omega))) | ((with_reducible refine Below.setCell ?_ ?hB _); case hB => (first | (with_reducible exact Nat.le_refl _) | omega | (simp; done) | (simp; omega))))); (first | done | exact pc3)⟩) | (have pzz := pz2_3.out; exact ⟨pw2.heap.size, (pw2.heap.size + 1), pw3.heap.size, _, rfl, LBox.mk' (by with_reducible exact one_set pz2_3.out) (ownW_set2 pO.out (.inl (Nat.lt_succ_self _))) (by first | omega | (simp; omega)) (by first | omega | (simp; omega)) (by rw [World.size_setCell]; exact Nat.le_refl _) (by first | omega | (simp; omega)) (.inl (Nat.lt_succ_self _)), rfl, by (repeat (first | (with_reducible exact Below.refl _ _) | (with_reducible refine Below.drew ?_) | ((with_reducible refine Below.alloc ?_ ?hB _); case hB => (first | (with_reducible exact Nat.le_refl _) | omega | (simp; done) | (simp; omega))) | ((with_reducible refine Below.setCell ?_ ?hB _); case hB => (first | (with_reducible exact Nat.le_refl _) | omega | (simp; done) | (simp; omega))))); (first | done | exact pc3)⟩) | (exact ⟨pw3.heap.size, pw2.heap.size, pw3.heap.size, _, rfl, LBox.mk' (by with_reducible exact heap_alloc_new _ _) (pO.out.below (by (repeat (first | (with_reducible exact Below.refl _ _) | (with_reducible refine Below.drew ?_) | ((with_reducible refine Below.alloc ?_ ?hB _); case hB => (first | (with_reducible exact Nat.le_refl _) | omega | (simp; done) | (simp; omega))) | ((with_reducible refine Below.setCell ?_ ?hB _); case hB => (first | (with_reducible exact Nat.le_refl _) | omega | (simp; done) | (simp; omega))))))) (by first | omega | (simp; omega)) (by first | omega | (simp; omega)) (by simp) (by first | omega | (simp; omega)) (.inr (Nat.le_refl _)), rfl, by (repeat (first | (with_reducible exact Below.refl _ _) | (with_reducible refine Below.drew ?_) | ((with_reducible refine Below.alloc ?_ ?hB _); case hB => (first | (with_reducible exact Nat.le_refl _) | omega | (simp; done) | (simp; omega))) | ((with_reducible refine Below.setCell ?_ ?hB _); case hB => (first | (with_reducible exact Nat.le_refl _) | omega | (simp; done) | (simp; omega))))); (first | done | exact pc3)⟩))
  case rest =>
    obtain ⟨gP, loP, hiP, vP, rfl, hmP, rfl, hbn⟩ := hcut
    obtain ⟨w3, hww3⟩ : ∃ w3, w3 = wc := ⟨_, rfl⟩
    subst hww3
    obtain ⟨AP, cP, rfl⟩ := hmP.own.form
    have HMP := Lib.hid hmP
    have hbP := hmP.hiW
    have hgP := hmP.gW
    clear hmP
    replace HBw := Lib.hid (HBw.out.trans (hbn.mono HBw.out.size))
    clear hbn
    have lo_P := HBw.out.size
    have d0 := (HA.out w3 HBw.out).1
    go_wp2_with fail
    refine (HT.out _ HBw.out).mono ?_
    rintro e w4 ⟨v5, rfl, ho5, hb5⟩
    obtain ⟨AX, kX, rfl, hk5⟩ := ho5.form
    obtain ⟨w5, hw6⟩ : ∃ w5, w4.alloc (.cells #[.slice AX m.length kX] 32) = w5 := ⟨_, rfl⟩
    have hb6 : Below w4.heap.size w4 w5 := by rw [← hw6]; exact (Below.refl _ _).alloc (Nat.le_refl _) _
    have hx6 : w5.heap[w4.heap.size]? = some (.cells #[.slice AX m.length kX] 32) := by rw [← hw6]; exact heap_alloc_new _ _
    have HX := Lib.hid (MBox.mk' (b := w3.heap.size) hx6 (ho5.below hb6) hb5.size (Nat.le_refl _) hb6.size (Nat.le_trans hb5.size hb6.size) (.inr (Nat.le_refl _)))
    have loX : w3.heap.size ≤ w4.heap.size := hb5.size
    have upX : w4.heap.size + 1 ≤ w5.heap.size := (Array.getElem?_eq_some_iff.1 hx6).1
    replace HMP := Lib.hid (HMP.out.below hb5)
    replace HBw := Lib.hid (HBw.out.trans (hb5.mono HBw.out.size))
    replace HMP := Lib.hid (HMP.out.below hb6)
    replace HBw := Lib.hid (HBw.out.trans (hb6.mono HBw.out.size))
    have HW6 := Lib.hid hw6
    clear hb5 hb6 hx6 ho5 hw6 d0 hk5
    go_upto_region 10 with fail
    rw [HW6.out]
    clear HW6
    have d0 := (HA.out w5 HBw.out).2
    go_wp2_with fail
    refine (HTL.out _ HBw.out).mono ?_
    rintro e w6 ⟨v5, rfl, ho5, hb5⟩
    obtain ⟨AXL, kXL, rfl⟩ := ho5.form
    obtain ⟨w7, hw6⟩ : ∃ w7, w6.alloc (.cells #[.slice AXL L.length kXL] 36) = w7 := ⟨_, rfl⟩
    have hb6 : Below w6.heap.size w6 w7 := by rw [← hw6]; exact (Below.refl _ _).alloc (Nat.le_refl _) _
    have hx6 : w7.heap[w6.heap.size]? = some (.cells #[.slice AXL L.length kXL] 36) := by rw [← hw6]; exact heap_alloc_new _ _
    have HXL := Lib.hid (LBox.mk' (b := w5.heap.size) hx6 (ho5.below hb6) hb5.size (Nat.le_refl _) hb6.size (Nat.le_trans hb5.size hb6.size) (.inr (Nat.le_refl _)))
    have loXL : w5.heap.size ≤ w6.heap.size := hb5.size
    have upXL : w6.heap.size + 1 ≤ w7.heap.size := (Array.getElem?_eq_some_iff.1 hx6).1
    replace HMP := Lib.hid (HMP.out.below hb5)
    replace HX := Lib.hid (HX.out.below hb5)
    replace HBw := Lib.hid (HBw.out.trans (hb5.mono HBw.out.size))
    replace HMP := Lib.hid (HMP.out.below hb6)
    replace HX := Lib.hid (HX.out.below hb6)
    replace HBw := Lib.hid (HBw.out.trans (hb6.mono HBw.out.size))
    have HW6 := Lib.hid hw6
    clear hb5 hb6 hx6 ho5 hw6 d0 
    go_upto_region 11 with fail
    rw [HW6.out]
    clear HW6
    have x0 := HX.out.cell
    have x1 := HXL.out.cell
    go_wp2_with fail
    refine (HIP.out w7 AX kX AXL kXL HX.out.own.reads HXL.out.own.rd).mono ?_
    rintro e w8 ⟨vQ, rfl, hoQ, hbn⟩
    obtain ⟨AQ, cQ, rfl⟩ := hoQ.form
    obtain ⟨w9, hw6⟩ : ∃ w9, w8.alloc (.cells #[.slice AQ R.length cQ] 36) = w9 := ⟨_, rfl⟩
    have hb6 : Below w8.heap.size w8 w9 := by rw [← hw6]; exact (Below.refl _ _).alloc (Nat.le_refl _) _
    have hx6 : w9.heap[w8.heap.size]? = some (.cells #[.slice AQ R.length cQ] 36) := by rw [← hw6]; exact heap_alloc_new _ _
    have HMQ := Lib.hid (LBox.mk' (b := w7.heap.size) hx6 (hoQ.below hb6) hbn.size (Nat.le_refl _) hb6.size (Nat.le_trans hbn.size hb6.size) (.inr (Nat.le_refl _)))
    have hloQ : w7.heap.size ≤ w8.heap.size := hbn.size
    replace HMP := Lib.hid (HMP.out.below hbn)
    replace HX := Lib.hid (HX.out.below hbn)
    replace HXL := Lib.hid (HXL.out.below hbn)
    replace HBw := Lib.hid (HBw.out.trans (hbn.mono HBw.out.size))
    replace HMP := Lib.hid (HMP.out.below hb6)
    replace HX := Lib.hid (HX.out.below hb6)
    replace HXL := Lib.hid (HXL.out.below hb6)
    replace HBw := Lib.hid (HBw.out.trans (hb6.mono HBw.out.size))
    have HW6 := Lib.hid hw6
    clear hbn hb6 hx6 hoQ hw6 x0 x1
    go_upto_region 12 with fail
    rw [HW6.out]
    clear HW6
    have s0 := HMQ.out.cell
    have t0 := HMP.out.cell
    go_wp2_with fail
    refine (HER.out w9 AQ AP cQ cP HMQ.out.own.rd HMP.out.own.rd).mono ?_
    rintro e w10 ⟨rfl, hbn⟩
    replace HMP := Lib.hid (HMP.out.below hbn)
    replace HX := Lib.hid (HX.out.below hbn)
    replace HXL := Lib.hid (HXL.out.below hbn)
    replace HMQ := Lib.hid (HMQ.out.below hbn)
    replace HBw := Lib.hid (HBw.out.trans (hbn.mono HBw.out.size))
    clear hbn s0 t0
    go_wp2_with fail
    have yD := Lib.hid ((Below.refl w10.heap.size w10).drew)
    have y0 := (HA.out w10 HBw.out).1
    have y1 := HX.out.cell
    have y2 : w10.drew.cell? ⟨w.heap.size, 0, none⟩ = some (.slice A m.length cap) := y0
    have y3 : w10.drew.cell? ⟨w4.heap.size, 0, none⟩ = some (.slice AX m.length kX) := y1
    go_region_held3 (fun W => W.cell? ⟨w.heap.size, 0, none⟩ = some (.slice A m.length cap) ∧ W.cell? ⟨w4.heap.size, 0, none⟩ = some (.slice AX m.length kX))
      (first | exact ⟨y2, y3⟩ | exact ⟨(HA.out _ (HBw.out.trans (yc1.mono HBw.out.size))).1, (HX.out.below yc1).cell⟩ | exact ⟨(HA.out _ (HBw.out.trans (yc2.mono HBw.out.size))).1, (HX.out.below yc2).cell⟩)
      (first | (go_at_call 21; refine (HT.out _ HBw.out.drew).mono ?_; rintro e yw1 ⟨yv, rfl, yo, yb1⟩; obtain ⟨yA, yk, rfl, yhk⟩ := yo.form; have yc1 := yD.out.trans yb1) | (go_at_call 24; refine (HE.out yw1 AX yA kX yk (HX.out.below yc1).own.reads yo.reads).mono ?_; rintro e yw2 ⟨rfl, yb2⟩; have yc2 := yc1.trans (yb2.mono yc1.size)))
    replace HMP := Lib.hid (HMP.out.below yc2)
    replace HX := Lib.hid (HX.out.below yc2)
    replace HXL := Lib.hid (HXL.out.below yc2)
    replace HMQ := Lib.hid (HMQ.out.below yc2)
    replace HBw := Lib.hid (HBw.out.trans (yc2.mono HBw.out.size))
    clear yb1 yb2 yc1 yc2 y0 y1 y2 y3 yo yhk yD
    go_wp2_with fail
    have zLD := Lib.hid ((Below.refl yw2.heap.size yw2).drew)
    have zL0 := (HA.out yw2 HBw.out).2
    have zL1 := HXL.out.cell
    have zL2 : yw2.drew.cell? ⟨w.heap.size + 1, 0, none⟩ = some (.slice AL L.length capL) := zL0
    have zL3 : yw2.drew.cell? ⟨w6.heap.size, 0, none⟩ = some (.slice AXL L.length kXL) := zL1
    go_region_held3 (fun W => W.cell? ⟨w.heap.size + 1, 0, none⟩ = some (.slice AL L.length capL) ∧ W.cell? ⟨w6.heap.size, 0, none⟩ = some (.slice AXL L.length kXL))
      (first | exact ⟨zL2, zL3⟩ | exact ⟨(HA.out _ (HBw.out.trans (zLc1.mono HBw.out.size))).2, (HXL.out.below zLc1).cell⟩ | exact ⟨(HA.out _ (HBw.out.trans (zLc2.mono HBw.out.size))).2, (HXL.out.below zLc2).cell⟩)
      (first | (go_at_call 22; refine (HTL.out _ HBw.out.drew).mono ?_; rintro e zLw1 ⟨zLv, rfl, zLo, zLb1⟩; obtain ⟨zLA, zLk, rfl⟩ := zLo.form; have zLc1 := zLD.out.trans zLb1) | (go_at_call 25; refine (HEL.out zLw1 AXL zLA kXL zLk (HXL.out.below zLc1).own.rd zLo.rd).mono ?_; rintro e zLw2 ⟨rfl, zLb2⟩; have zLc2 := zLc1.trans (zLb2.mono zLc1.size)))
    replace HMP := Lib.hid (HMP.out.below zLc2)
    replace HX := Lib.hid (HX.out.below zLc2)
    replace HXL := Lib.hid (HXL.out.below zLc2)
    replace HMQ := Lib.hid (HMQ.out.below zLc2)
    replace HBw := Lib.hid (HBw.out.trans (zLc2.mono HBw.out.size))
    clear zLb1 zLb2 zLc1 zLc2 zL0 zL1 zL2 zL3 zLo zLD
    -- marks
    have hXlo := HX.out.loW
    have hXhi := HX.out.hiW
    have HK := Lib.hid (mark1_calls AX kX _ _ m zLw2 HX.out.own HMS.out.1 HMS.out.2 hXlo hXhi)
    have x0 := HX.out.cell
    go_wp2_with fail
    refine HK.out.mono ?_
    rintro e w11 ⟨rfl, ho12, hs12⟩
    replace HMP := Lib.hid (HMP.out.span hs12 (.inl (by omega)) (.inl (by omega)))
    replace HMQ := Lib.hid (HMQ.out.span hs12 (.inr (by omega)) (.inr (by omega)))
    replace HXL := Lib.hid (HXL.out.span hs12 (.inr (by omega)) (.inr (by omega)))
    replace HBw := Lib.hid (HBw.out.trans ((hs12.below hXlo).mono (by have := lo_P; omega)))
    clear ho12 hs12 x0 hXlo hXhi HX HK
    have hXlo := HXL.out.loW
    have HK : Hid (Calls Try.prog 30 #[.agg #[.slice AXL L.length kXL], .int .i64 (1 + (total m : Nat))] w11 fun e w' => e = .returned (.int .i64 (1 + (total m : Nat) + 4 * (L.length : Nat))) ∧ Span w5.heap.size w6.heap.size w11 w') := Lib.hid (by
      have hq := markRopeW_calls AXL kXL w5.heap.size w6.heap.size L (1 + total m) w11 HXL.out.own (by omega) (by have := HMS.out.2; omega)
      rw [show (((1 + total m : Nat) : Int)) = 1 + (total m : Nat) by omega] at hq
      exact hq)
    have x0 := HXL.out.cell
    go_wp2_with fail
    refine HK.out.mono ?_
    rintro e w12 ⟨rfl, hs12⟩
    replace HMP := Lib.hid (HMP.out.span hs12 (.inl (by omega)) (.inl (by omega)))
    replace HMQ := Lib.hid (HMQ.out.span hs12 (.inr (by omega)) (.inr (by omega)))
    replace HBw := Lib.hid (HBw.out.trans ((hs12.below hXlo).mono (by have := lo_P; omega)))
    clear hs12 x0 hXlo HXL HK
    have hpos : ¬ ((1 : Int) + (total m : Nat) + 4 * (L.length : Nat)) < 0 := by omega
    have s0 := HMQ.out.cell
    have t0 := HMP.out.cell
    go_wp2_with fail
    refine (HER.out w12 AQ AP cQ cP HMQ.out.own.rd HMP.out.own.rd).mono ?_
    rintro e w13 ⟨rfl, hbn⟩
    replace HMP := Lib.hid (HMP.out.below hbn)
    replace HMQ := Lib.hid (HMQ.out.below hbn)
    replace HBw := Lib.hid (HBw.out.trans (hbn.mono HBw.out.size))
    clear hbn s0 t0
    clear hpos
    have hlohi := HMQ.out.loW
    have HK2 := Lib.hid (markRope1_calls AQ cQ _ _ R w13 HMQ.out.own (by omega))
    have s0 := HMQ.out.cell
    go_wp2_with fail
    refine HK2.out.mono ?_
    rintro e w14 ⟨rfl, ho14, hs14⟩
    replace HMQ := Lib.hid (HMQ.out.marked hs14 ho14)
    replace HMP := Lib.hid (HMP.out.span hs14 (.inl (by omega)) (.inl (by omega)))
    replace HBw := Lib.hid (HBw.out.trans ((hs14.below hlohi).mono (by have := lo_P; omega)))
    clear ho14 hs14 HK2 s0
    have hposR : ¬ ((1 : Int) + 4 * (R.length : Nat)) < 0 := by omega
    have HH := Lib.hid (heldRope1_calls AQ cQ R.length _ _ w14 HMQ.out.own (by omega))
    have s0 := HMQ.out.cell
    go_wp2_with fail
    refine HH.out.mono ?_
    rintro e w15 ⟨rfl, hbn⟩
    replace HMP := Lib.hid (HMP.out.below hbn)
    replace HMQ := Lib.hid (HMQ.out.below hbn)
    replace HBw := Lib.hid (HBw.out.trans (hbn.mono HBw.out.size))
    clear hbn HH s0
    have hselfR : (((1 : Int) + 4 * (R.length : Nat)) != 1 + 4 * (R.length : Nat)) = false := by simp
    go_upto_region 31 with fail
    have rc0 : Below w15.heap.size w15 w15.drew := (Below.refl w15.heap.size w15).drew
    have rq0 := rc0.size
    obtain ⟨ra0, ra1⟩ := HA.out _ (HBw.out.trans (rc0.mono HBw.out.size))
    have rS : Hid (∀ W, Below w15.heap.size w15 W → W.cell? ⟨w.heap.size, 0, none⟩ = some (.slice A m.length cap) ∧ W.cell? ⟨w.heap.size + 1, 0, none⟩ = some (.slice AL L.length capL)) := Lib.hid fun W hb => HA.out _ (HBw.out.trans (hb.mono HBw.out.size))
    go_cut [19, 20] (fun s19 s20 wx => ∃ (g lo hi : Nat) (v : Value), s19 = .pointer (some ⟨g, 0, none⟩) ∧ LBox wx w15.heap.size g lo hi v R ∧ s20 = .bool p1 ∧ Below w15.heap.size w15 wx)
    case first =>
      go_region_held3 (fun W => W.cell? ⟨w.heap.size, 0, none⟩ = some (.slice A m.length cap) ∧ W.cell? ⟨w.heap.size + 1, 0, none⟩ = some (.slice AL L.length capL))
        (first | (with_reducible exact ⟨ra0, ra1⟩) | exact rS.out _ (by (repeat (first | (with_reducible exact Below.refl _ _) | (with_reducible refine Below.drew ?_) | ((with_reducible refine Below.alloc ?_ ?hB _); case hB => (first | (with_reducible exact Nat.le_refl _) | omega | (simp; done) | (simp; omega))) | ((with_reducible refine Below.setCell ?_ ?hB _); case hB => (first | (with_reducible exact Nat.le_refl _) | omega | (simp; done) | (simp; omega))))); (first | done | exact rc3)) | exact rS.out _ (by (repeat (first | (with_reducible exact Below.refl _ _) | (with_reducible refine Below.drew ?_) | ((with_reducible refine Below.alloc ?_ ?hB _); case hB => (first | (with_reducible exact Nat.le_refl _) | omega | (simp; done) | (simp; omega))) | ((with_reducible refine Below.setCell ?_ ?hB _); case hB => (first | (with_reducible exact Nat.le_refl _) | omega | (simp; done) | (simp; omega))))); (first | done | exact rc2)) | exact rS.out _ (by (repeat (first | (with_reducible exact Below.refl _ _) | (with_reducible refine Below.drew ?_) | ((with_reducible refine Below.alloc ?_ ?hB _); case hB => (first | (with_reducible exact Nat.le_refl _) | omega | (simp; done) | (simp; omega))) | ((with_reducible refine Below.setCell ?_ ?hB _); case hB => (first | (with_reducible exact Nat.le_refl _) | omega | (simp; done) | (simp; omega))))); (first | done | exact rc1)) | exact rS.out _ (by (repeat (first | (with_reducible exact Below.refl _ _) | (with_reducible refine Below.drew ?_) | ((with_reducible refine Below.alloc ?_ ?hB _); case hB => (first | (with_reducible exact Nat.le_refl _) | omega | (simp; done) | (simp; omega))) | ((with_reducible refine Below.setCell ?_ ?hB _); case hB => (first | (with_reducible exact Nat.le_refl _) | omega | (simp; done) | (simp; omega))))); (first | done | exact rc0)) | fail)
        (first | (go_at_call 49; refine (HIP.out _ rA rk rAL rkL ((rr.out.below (show Below rw2.heap.size rw2 _ by (repeat (first | (with_reducible exact Below.refl _ _) | (with_reducible refine Below.drew ?_) | ((with_reducible refine Below.alloc ?_ ?hB _); case hB => (first | (with_reducible exact Nat.le_refl _) | omega | (simp; done) | (simp; omega))) | ((with_reducible refine Below.setCell ?_ ?hB _); case hB => (first | (with_reducible exact Nat.le_refl _) | omega | (simp; done) | (simp; omega))))))).more (show Below rw2.heap.size rw2 _ by (repeat (first | (with_reducible exact Below.refl _ _) | (with_reducible refine Below.drew ?_) | ((with_reducible refine Below.alloc ?_ ?hB _); case hB => (first | (with_reducible exact Nat.le_refl _) | omega | (simp; done) | (simp; omega))) | ((with_reducible refine Below.setCell ?_ ?hB _); case hB => (first | (with_reducible exact Nat.le_refl _) | omega | (simp; done) | (simp; omega)))))).size) ((rrL.out.below (show Below rw2.heap.size rw2 _ by (repeat (first | (with_reducible exact Below.refl _ _) | (with_reducible refine Below.drew ?_) | ((with_reducible refine Below.alloc ?_ ?hB _); case hB => (first | (with_reducible exact Nat.le_refl _) | omega | (simp; done) | (simp; omega))) | ((with_reducible refine Below.setCell ?_ ?hB _); case hB => (first | (with_reducible exact Nat.le_refl _) | omega | (simp; done) | (simp; omega))))))).more (show Below rw2.heap.size rw2 _ by (repeat (first | (with_reducible exact Below.refl _ _) | (with_reducible refine Below.drew ?_) | ((with_reducible refine Below.alloc ?_ ?hB _); case hB => (first | (with_reducible exact Nat.le_refl _) | omega | (simp; done) | (simp; omega))) | ((with_reducible refine Below.setCell ?_ ?hB _); case hB => (first | (with_reducible exact Nat.le_refl _) | omega | (simp; done) | (simp; omega)))))).size)).mono ?_; rintro e rw3 ⟨rV, rfl, ro, rb3⟩; have rc3 : Below w15.heap.size w15 rw3 := below_step (by (repeat (first | (with_reducible exact Below.refl _ _) | (with_reducible refine Below.drew ?_) | ((with_reducible refine Below.alloc ?_ ?hB _); case hB => (first | (with_reducible exact Nat.le_refl _) | omega | (simp; done) | (simp; omega))) | ((with_reducible refine Below.setCell ?_ ?hB _); case hB => (first | (with_reducible exact Nat.le_refl _) | omega | (simp; done) | (simp; omega))))); (first | done | exact rc2)) rb3; have rq3 := rc3.size; skip; (first | (with_reducible have rO := Lib.hid (show OwnW rw3 (rw2.heap.size + 1) rw3.heap.size rV R from ownW_al ro)) | (have rO := Lib.hid (show OwnW rw3 rw2.heap.size rw3.heap.size rV R from ro))); (first | (with_reducible have rt : rw2.heap.size + 1 ≤ rw3.heap.size := al_le rb3) | (have rt : rw2.heap.size ≤ rw3.heap.size := rb3.size)); obtain ⟨rVA, rVk, rfl⟩ := ro.form; clear ro; (first | (with_reducible have rz2_3 := Lib.hid (show rw3.heap[rw2.heap.size]? = some (.cells #[.slice none 0 0] 36) from box_new rb3)) | skip); (first | (with_reducible have rz0_3 := Lib.hid (box_keep rz0_2.out rb3)) | (with_reducible have rz0_3 := Lib.hid (box_keep_a rz0_2.out rb3)) | skip); (first | (with_reducible have rz1_3 := Lib.hid (box_keep rz1_2.out rb3)) | (with_reducible have rz1_3 := Lib.hid (box_keep_a rz1_2.out rb3)) | skip); (try have rzc0 := one_cell rz0_3.out); (try have rzf0 := one_frozen rz0_3.out); (try have rzc1 := one_cell rz1_3.out); (try have rzf1 := one_frozen rz1_3.out); (try have rzc2 := one_cell rz2_3.out); (try have rzf2 := one_frozen rz2_3.out); clear rb3) | (go_at_call 22; refine (HTL.out _ (HBw.out.trans ((show Below w15.heap.size w15 _ by (repeat (first | (with_reducible exact Below.refl _ _) | (with_reducible refine Below.drew ?_) | ((with_reducible refine Below.alloc ?_ ?hB _); case hB => (first | (with_reducible exact Nat.le_refl _) | omega | (simp; done) | (simp; omega))) | ((with_reducible refine Below.setCell ?_ ?hB _); case hB => (first | (with_reducible exact Nat.le_refl _) | omega | (simp; done) | (simp; omega))))); (first | done | exact rc1)).mono HBw.out.size))).mono ?_; rintro e rw2 ⟨rvL, rfl, roL, rb2⟩; have rc2 : Below w15.heap.size w15 rw2 := below_step (by (repeat (first | (with_reducible exact Below.refl _ _) | (with_reducible refine Below.drew ?_) | ((with_reducible refine Below.alloc ?_ ?hB _); case hB => (first | (with_reducible exact Nat.le_refl _) | omega | (simp; done) | (simp; omega))) | ((with_reducible refine Below.setCell ?_ ?hB _); case hB => (first | (with_reducible exact Nat.le_refl _) | omega | (simp; done) | (simp; omega))))); (first | done | exact rc1)) rb2; have rq2 := rc2.size; replace rr := Lib.hid ((rr.out.below (show Below rw1.heap.size rw1 rw2 from below_step (by (repeat (first | (with_reducible exact Below.refl _ _) | (with_reducible refine Below.drew ?_) | ((with_reducible refine Below.alloc ?_ ?hB _); case hB => (first | (with_reducible exact Nat.le_refl _) | omega | (simp; done) | (simp; omega))) | ((with_reducible refine Below.setCell ?_ ?hB _); case hB => (first | (with_reducible exact Nat.le_refl _) | omega | (simp; done) | (simp; omega)))))) rb2)).more (show Below rw1.heap.size rw1 rw2 from below_step (by (repeat (first | (with_reducible exact Below.refl _ _) | (with_reducible refine Below.drew ?_) | ((with_reducible refine Below.alloc ?_ ?hB _); case hB => (first | (with_reducible exact Nat.le_refl _) | omega | (simp; done) | (simp; omega))) | ((with_reducible refine Below.setCell ?_ ?hB _); case hB => (first | (with_reducible exact Nat.le_refl _) | omega | (simp; done) | (simp; omega)))))) rb2).size); obtain ⟨rAL, rkL, rfl⟩ := roL.form; have rrL := Lib.hid roL.rd; clear roL; (first | (with_reducible have rz1_2 := Lib.hid (show rw2.heap[rw1.heap.size]? = some (.cells #[.slice none 0 0] 36) from box_new rb2)) | skip); (first | (with_reducible have rz0_2 := Lib.hid (box_keep rz0_1.out rb2)) | (with_reducible have rz0_2 := Lib.hid (box_keep_a rz0_1.out rb2)) | skip); clear rb2) | (go_at_call 21; refine (HT.out _ (HBw.out.trans ((show Below w15.heap.size w15 _ by (repeat (first | (with_reducible exact Below.refl _ _) | (with_reducible refine Below.drew ?_) | ((with_reducible refine Below.alloc ?_ ?hB _); case hB => (first | (with_reducible exact Nat.le_refl _) | omega | (simp; done) | (simp; omega))) | ((with_reducible refine Below.setCell ?_ ?hB _); case hB => (first | (with_reducible exact Nat.le_refl _) | omega | (simp; done) | (simp; omega))))); (first | done | exact rc0)).mono HBw.out.size))).mono ?_; rintro e rw1 ⟨rv, rfl, ro, rb1⟩; have rc1 : Below w15.heap.size w15 rw1 := below_step (by (repeat (first | (with_reducible exact Below.refl _ _) | (with_reducible refine Below.drew ?_) | ((with_reducible refine Below.alloc ?_ ?hB _); case hB => (first | (with_reducible exact Nat.le_refl _) | omega | (simp; done) | (simp; omega))) | ((with_reducible refine Below.setCell ?_ ?hB _); case hB => (first | (with_reducible exact Nat.le_refl _) | omega | (simp; done) | (simp; omega))))); (first | done | exact rc0)) rb1; have rq1 := rc1.size; obtain ⟨rA, rk, rfl, rhk⟩ := ro.form; have rr := Lib.hid ro.reads; clear ro rhk; (first | (with_reducible have rz0_1 := Lib.hid (show rw1.heap[w15.heap.size]? = some (.cells #[.slice none 0 0] 36) from box_new_d rb1)) | skip); clear rb1))
      all_goals (go_wp2_with fail)
      all_goals go_meet
      all_goals (first | (have rzz := rz0_3.out; exact ⟨w15.heap.size, rw2.heap.size, rw3.heap.size, _, rfl, LBox.mk' (by with_reducible exact one_set rz0_3.out) (ownW_set2 rO.out (.inl (Array.getElem?_eq_some_iff.1 rz0_2.out).1)) (by first | omega | (simp; omega)) (by first | omega | (simp; omega)) (by rw [World.size_setCell]; exact Nat.le_refl _) (by first | omega | (simp; omega)) (.inl (Array.getElem?_eq_some_iff.1 rz0_2.out).1), rfl, by (repeat (first | (with_reducible exact Below.refl _ _) | (with_reducible refine Below.drew ?_) | ((with_reducible refine Below.alloc ?_ ?hB _); case hB => (first | (with_reducible exact Nat.le_refl _) | omega | (simp; done) | (simp; omega))) | ((with_reducible refine Below.setCell ?_ ?hB _); case hB => (first | (with_reducible exact Nat.le_refl _) | omega | (simp; done) | (simp; omega))))); (first | done | exact rc3)⟩) | (have rzz := rz1_3.out; exact ⟨rw1.heap.size, rw2.heap.size, rw3.heap.size, _, rfl, LBox.mk' (by with_reducible exact one_set rz1_3.out) (ownW_set2 rO.out (.inl (Array.getElem?_eq_some_iff.1 rz1_2.out).1)) (by first | omega | (simp; omega)) (by first | omega | (simp; omega)) (by rw [World.size_setCell]; exact Nat.le_refl _) (by first | omega | (simp; omega)) (.inl (Array.getElem?_eq_some_iff.1 rz1_2.out).1), rfl, by (repeat (first | (with_reducible exact Below.refl _ _) | (with_reducible refine Below.drew ?_) | ((with_reducible refine Below.alloc ?_ ?hB _); case hB => (first | (with_reducible exact Nat.le_refl _) | omega | (simp; done) | (simp; omega))) | ((with_reducible refine Below.setCell ?_ ?hB _); case hB => (first | (with_reducible exact Nat.le_refl _) | omega | (simp; done) | (simp; omega))))); (first | done | exact rc3)⟩) | (have rzz := rz2_3.out; exact ⟨rw2.heap.size, (rw2.heap.size + 1), rw3.heap.size, _, rfl, LBox.mk' (by with_reducible exact one_set rz2_3.out) (ownW_set2 rO.out (.inl (Nat.lt_succ_self _))) (by first | omega | (simp; omega)) (by first | omega | (simp; omega)) (by rw [World.size_setCell]; exact Nat.le_refl _) (by first | omega | (simp; omega)) (.inl (Nat.lt_succ_self _)), rfl, by (repeat (first | (with_reducible exact Below.refl _ _) | (with_reducible refine Below.drew ?_) | ((with_reducible refine Below.alloc ?_ ?hB _); case hB => (first | (with_reducible exact Nat.le_refl _) | omega | (simp; done) | (simp; omega))) | ((with_reducible refine Below.setCell ?_ ?hB _); case hB => (first | (with_reducible exact Nat.le_refl _) | omega | (simp; done) | (simp; omega))))); (first | done | exact rc3)⟩) | (exact ⟨rw3.heap.size, rw2.heap.size, rw3.heap.size, _, rfl, LBox.mk' (by with_reducible exact heap_alloc_new _ _) (rO.out.below (by (repeat (first | (with_reducible exact Below.refl _ _) | (with_reducible refine Below.drew ?_) | ((with_reducible refine Below.alloc ?_ ?hB _); case hB => (first | (with_reducible exact Nat.le_refl _) | omega | (simp; done) | (simp; omega))) | ((with_reducible refine Below.setCell ?_ ?hB _); case hB => (first | (with_reducible exact Nat.le_refl _) | omega | (simp; done) | (simp; omega))))))) (by first | omega | (simp; omega)) (by first | omega | (simp; omega)) (by simp) (by first | omega | (simp; omega)) (.inr (Nat.le_refl _)), rfl, by (repeat (first | (with_reducible exact Below.refl _ _) | (with_reducible refine Below.drew ?_) | ((with_reducible refine Below.alloc ?_ ?hB _); case hB => (first | (with_reducible exact Nat.le_refl _) | omega | (simp; done) | (simp; omega))) | ((with_reducible refine Below.setCell ?_ ?hB _); case hB => (first | (with_reducible exact Nat.le_refl _) | omega | (simp; done) | (simp; omega))))); (first | done | exact rc3)⟩))
    case rest =>
      obtain ⟨gT, loT, hiT, vT, rfl, hmT, rfl, hbn⟩ := hcut
      obtain ⟨w16, hww16⟩ : ∃ w16, w16 = wc := ⟨_, rfl⟩
      subst hww16
      obtain ⟨AT, cT, rfl⟩ := hmT.own.form
      have HMT := Lib.hid hmT
      have hbT := hmT.hiW
      have hgT := hmT.gW
      clear hmT
      replace HMP := Lib.hid (HMP.out.below hbn)
      replace HMQ := Lib.hid (HMQ.out.below hbn)
      replace HBw := Lib.hid (HBw.out.trans (hbn.mono HBw.out.size))
      clear hbn
      have s0 := HMT.out.cell
      have t0 := HMP.out.cell
      go_wp2_with fail
      refine (HER.out w16 AT AP cT cP HMT.out.own.rd HMP.out.own.rd).mono ?_
      rintro e w17 ⟨rfl, hbn⟩
      replace HMP := Lib.hid (HMP.out.below hbn)
      replace HMQ := Lib.hid (HMQ.out.below hbn)
      replace HMT := Lib.hid (HMT.out.below hbn)
      replace HBw := Lib.hid (HBw.out.trans (hbn.mono HBw.out.size))
      clear hbn s0 t0
      have HH := Lib.hid (heldRope1_calls AQ cQ R.length _ _ w17 HMQ.out.own (by omega))
      have s0 := HMQ.out.cell
      go_wp2_with fail
      refine HH.out.mono ?_
      rintro e w18 ⟨rfl, hbn⟩
      replace HMP := Lib.hid (HMP.out.below hbn)
      replace HMQ := Lib.hid (HMQ.out.below hbn)
      replace HMT := Lib.hid (HMT.out.below hbn)
      replace HBw := Lib.hid (HBw.out.trans (hbn.mono HBw.out.size))
      clear hbn HH s0
      go_wp2_with fail
      go_ret
      exact ⟨rfl, HB.out.trans (HBw.out.mono HB.out.size)⟩

end Go.Proofs.Ytomebbapjolnlaa
