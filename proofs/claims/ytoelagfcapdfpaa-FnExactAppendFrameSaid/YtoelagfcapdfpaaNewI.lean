/-
  NewArray of impl: a memory with one more array of bytes 0.
-/
import Derived.Test.YtoelagfcapdfpaaNew
import Derived.Test.YtoelagfcapdfpaaImplA
namespace Go.Proofs.Ytoelagfcapdfpaa
open Go.RowKit

/-- What NewArray answers. -/
def newR (m : List (List Int)) (i : Int) : List (List Int) × Win × Bool :=
  if MemOK m ∧ m.length < 16 ∧ 1 ≤ i ∧ i ≤ 64 then (m ++ [List.replicate i.toNat 0], ⟨m.length, 0, i, i⟩, true) else ([], ⟨0, 0, 0, 0⟩, false)
theorem small_snoc {m : List (List Int)} {xs : List Int} (h : MemOK m) (h2 : m.length < 16) (h3 : xs.length ≤ 64) : Small (m ++ [xs]) :=
  ⟨by simp; omega, fun r hr => by
    rcases List.mem_append.1 hr with h1 | h1
    · exact (h.2 r h1).2
    · rw [List.mem_singleton.1 h1]; exact h3⟩
theorem newR_small (m : List (List Int)) (i : Int) : Small (newR m i).1 := by
  unfold newR
  split
  · rename_i h
    exact small_snoc h.1 h.2.1 (by simp; omega)
  · exact ⟨by simp, fun r hr => by simp at hr⟩

set_option maxRecDepth 100000 in
set_option maxHeartbeats 6400000 in
theorem implNewArray_calls (A : Option Addr) (c : Nat) (m : List (List Int)) (i : Int) (w : World) (hr : Rd2 w w.heap.size A m) (hn : m.length ≤ maxLen) :
    Calls Try.prog 129 #[.agg #[.slice A m.length c], .int .i64 i] w fun e w' => ∃ v, e = .returned (.tuple #[.agg #[v], .agg #[.int .i64 (newR m i).2.1.arr, .int .i64 (newR m i).2.1.start, .int .i64 (newR m i).2.1.len, .int .i64 (newR m i).2.1.cap], .bool (newR m i).2.2]) ∧ OwnM w' w.heap.size w'.heap.size v (newR m i).1 ∧ Below w.heap.size w w' := by
  obtain ⟨w0, hw0, hb0, hz0, hmw⟩ := enterMMW A m.length c w
  obtain ⟨i0, hi0, hz0', hz1, hz2⟩ := info_parts info_u8s
  obtain ⟨i1, hi1, hy0, hy1, hy2⟩ := info_parts info_u8
  have HC := Lib.hid (implIsMemory_calls A c m w0 ((hr.below hb0).more hb0.size) hn)
  have HR := Lib.hid hr
  have HB := Lib.hid hb0
  have HW := Lib.hid hw0
  have HMW := Lib.hid hmw
  have c1 := one_cell hmw.mem
  clear hr hb0 hmw hw0
  go_enter Try.func129, Try.ntmps129
  go_wp2_with fail
  rw [HW.out]
  refine HC.out.mono ?_
  rintro e w2 ⟨rfl, hb2⟩
  have HB2 := Lib.hid (HB.out.trans (hb2.mono HB.out.size))
  have HMW2 := Lib.hid (HMW.out.below hb2)
  have hs02 := hb2.size
  have HB02 := Lib.hid hb2
  clear c1
  have c1 := one_cell HMW2.out.mem
  have r0 := one_cell HMW2.out.resM
  have rf := one_frozen HMW2.out.resM
  obtain ⟨q0, q1, q2, q3⟩ := four_cells HMW2.out.resW
  obtain ⟨f0, f1, f2, f3'⟩ := oneM HMW2.out.resW
  clear hb2
  by_cases hm : MemOK m
  · have hd : decide (MemOK m) = true := decide_eq_true hm
    rw [hd]
    clear hd
    by_cases h16 : m.length = 16
    · have e16 : ((m.length : Int) == 16) = true := by simp; omega
      have HV : Hid (newR m i = ([], ⟨0, 0, 0, 0⟩, false)) := Lib.hid (by rw [newR, if_neg (by omega)])
      clear hm
      go_wp2_with fail
      refine bodyPost_ret (v := .tuple #[.agg #[.slice none 0 0], .agg #[.int .i64 0, .int .i64 0, .int .i64 0, .int .i64 0], .bool false]) (by simp [results, Try.results129, go_sem, r0, q0, q1, q2, q3]) rfl ⟨_, by rw [HV.out], by rw [HV.out]; exact own_none _ _ _, by (repeat (first | (with_reducible exact Below.refl _ _) | (with_reducible refine Below.drew ?_) | ((with_reducible refine Below.alloc ?_ ?hB _); case hB => (first | (with_reducible exact Nat.le_refl _) | omega | (simp; done) | (simp; omega))) | ((with_reducible refine Below.setCell ?_ ?hB _); case hB => (first | (with_reducible exact Nat.le_refl _) | omega | (simp; done) | (simp; omega))))); exact HB2.out⟩
    · have e16 : ((m.length : Int) == 16) = false := by simp; omega
      by_cases h1 : i < 1
      · have HV : Hid (newR m i = ([], ⟨0, 0, 0, 0⟩, false)) := Lib.hid (by rw [newR, if_neg (by omega)])
        clear hm
        go_wp2_with fail
        refine bodyPost_ret (v := .tuple #[.agg #[.slice none 0 0], .agg #[.int .i64 0, .int .i64 0, .int .i64 0, .int .i64 0], .bool false]) (by simp [results, Try.results129, go_sem, r0, q0, q1, q2, q3]) rfl ⟨_, by rw [HV.out], by rw [HV.out]; exact own_none _ _ _, by (repeat (first | (with_reducible exact Below.refl _ _) | (with_reducible refine Below.drew ?_) | ((with_reducible refine Below.alloc ?_ ?hB _); case hB => (first | (with_reducible exact Nat.le_refl _) | omega | (simp; done) | (simp; omega))) | ((with_reducible refine Below.setCell ?_ ?hB _); case hB => (first | (with_reducible exact Nat.le_refl _) | omega | (simp; done) | (simp; omega))))); exact HB2.out⟩
      · by_cases h64 : 64 < i
        · have HV : Hid (newR m i = ([], ⟨0, 0, 0, 0⟩, false)) := Lib.hid (by rw [newR, if_neg (by omega)])
          clear hm
          go_wp2_with fail
          refine bodyPost_ret (v := .tuple #[.agg #[.slice none 0 0], .agg #[.int .i64 0, .int .i64 0, .int .i64 0, .int .i64 0], .bool false]) (by simp [results, Try.results129, go_sem, r0, q0, q1, q2, q3]) rfl ⟨_, by rw [HV.out], by rw [HV.out]; exact own_none _ _ _, by (repeat (first | (with_reducible exact Below.refl _ _) | (with_reducible refine Below.drew ?_) | ((with_reducible refine Below.alloc ?_ ?hB _); case hB => (first | (with_reducible exact Nat.le_refl _) | omega | (simp; done) | (simp; omega))) | ((with_reducible refine Below.setCell ?_ ?hB _); case hB => (first | (with_reducible exact Nat.le_refl _) | omega | (simp; done) | (simp; omega))))); exact HB2.out⟩
        · obtain ⟨n, rfl⟩ : ∃ n : Nat, i = n := ⟨i.toNat, by omega⟩
          have hm16 := hm.1
          have HV : Hid (newR m n = (m ++ [List.replicate n 0], ⟨m.length, 0, n, n⟩, true)) := Lib.hid (by rw [newR, if_pos ⟨hm, by omega, by omega, by omega⟩]; rfl)
          have HCP := Lib.hid (copyMemory_calls A c m w2 ((HR.out.below HB2.out).more HB2.out.size) hm)
          have hn0 : (0 : Int) ≤ n := by omega
          clear hm
          go_wp2_with fail
          refine HCP.out.mono ?_
          rintro e w3' ⟨v, rfl, ho, hb3'⟩
          obtain ⟨Ao, co, rfl, hcv⟩ := ho.form
          have hs23 := hb3'.size
          obtain ⟨w3, hw3⟩ : ∃ w3, w3'.alloc (.cells #[.slice Ao m.length co] 31) = w3 := ⟨_, rfl⟩
          have hb3 : Below w3'.heap.size w3' w3 := by rw [← hw3]; exact (Below.refl _ _).alloc (Nat.le_refl _) _
          have hx3 : w3.heap[w3'.heap.size]? = some (.cells #[.slice Ao m.length co] 31) := by rw [← hw3]; exact heap_alloc_new _ _
          have hsz3 : w3.heap.size = w3'.heap.size + 1 := by rw [← hw3]; simp
          have HB23 := Lib.hid (hb3'.trans (hb3.mono hb3'.size))
          have HX3 := Lib.hid hx3
          have HW3 := Lib.hid hw3
          obtain ⟨hd, hov, hrw⟩ := ho.rows
          have hdl : hd.length = m.length := hrw.len
          have ho3 : w3.ownsRow w2.heap.size 64 1 (.slice Ao m.length co) m.length hd := by
            have h := (hov.below hb3).1
            rw [hdl] at h
            exact h
          have HRr := Lib.hid ((hrw.below hb3).mono (Nat.le_refl _) hb3.size)
          have c3 := one_cell hx3
          have f3 := one_frozen hx3
          have l3 : w3'.heap.size < w3.heap.size := by omega
          have HSZ3 := Lib.hid hsz3
          have n3 := ne_some (own_far ho3 hx3 (by decide))
          have HO := Lib.hid ho3
          have HXL := Lib.hid (show (List.replicate n (0 : Int)).length = n by simp)
          clear hsz3 ho ho3 hov hrw hb3' hb3 hx3 hw3 hcv c1 r0 rf q0 q1 q2 q3 f0 f1 f2 f3'
          go_upto_region 4 with fail
          rw [HW3.out]
          have d3 : w3.drew.cell? ⟨w3'.heap.size, 0, none⟩ = some (.slice Ao m.length co) := c3
          have N3 := Lib.hid n3
          clear n3
          obtain ⟨w4, hrun, hown1, hg1⟩ := run_make_full (P := Try.prog) w3.drew w3.heap.size 64 5 i1 _ 1 Try.underlying64 hi1 hy0 hy1 .i64 .i64 n (by rw [hy2]; omega) (by simp only [maxLen]; omega) (Nat.le_refl _)
          have hbel1 : Below w3.drew.heap.size w3.drew w4 := (Below.refl _ _).grown hg1 (Nat.le_refl _) (by simp)
          rw [show (madeCells (Value.int .u8 0).cells (n * 1)).toList = intV .u8 (List.replicate n 0) by rw [Nat.mul_one]; exact (toList_madeCells_one _ _).trans (by simp [intV])] at hown1
          have e3 := (hbel1.cell (p := ⟨w3'.heap.size, 0, none⟩) l3).trans d3
          have ef := (hbel1.frozen (p := ⟨w3'.heap.size, 0, none⟩) l3).trans f3
          have HO1 := Lib.hid ((own_below HO.out (show Below w3.heap.size w3 w4 from ⟨hbel1.os, hbel1.tape, hbel1.output, hbel1.size, hbel1.block⟩)).alloc (.cells #[.slice (some ⟨w3.heap.size, 0, none⟩) n n] 64))
          have HOW1 := Lib.hid hown1
          have HBE1 := Lib.hid hbel1
          have e3b := cell_alloc e3 (.cells #[.slice (some ⟨w3.heap.size, 0, none⟩) n n] 64)
          clear hown1 hbel1 hg1
          go_region_law (first | (refine step_append_lies _ (by rfl) _ _ _ (by rfl) w2.heap.size 64 i0 _ 1 24 Try.underlying22 hi0 hz0' hz1 hz2 rfl (by decide) (.slice Ao m.length co) m.length hd (by rfl) HO1.out ⟨w4.heap.size, 0, none⟩ 1 1 [.slice (some ⟨w3.heap.size, 0, none⟩) n n] (by rfl) (by rfl) (cell_one_new _ _ _) (by simp [Value.oneCell']) (by omega) (by simp only [maxLen]; omega) (by omega) (by have h1 := HBE1.out.size; have h2 := HB23.out.size; simp at h1 ⊢; omega) (w4.heap.size + 1) (by simp) ?_; intro gg2 cap2 w5 hown2 hgrow2 hat2 hlt2; have x3 := cell_grown hgrow2 (cell_alloc e3 (.cells #[.slice (some ⟨w3.heap.size, 0, none⟩) n n] 64)) N3.out; have xf := frozen_grown hgrow2 (frozen_alloc ef (cell_lt e3) (.cells #[.slice (some ⟨w3.heap.size, 0, none⟩) n n] 64)) (cell_lt (cell_alloc e3 (.cells #[.slice (some ⟨w3.heap.size, 0, none⟩) n n] 64))) N3.out; have HOW2 := Lib.hid hown2; have HGR2 := Lib.hid hgrow2; clear hat2 hown2 hgrow2))
          all_goals clear hrun
          all_goals (
            have hq := snoc_step (wr := w3) (base := w2.heap.size) (b := w3'.heap.size) (xs := List.replicate n 0) (gg := w3.heap.size) (cap1 := n) HB23.out.size hs23 HX3.out HO.out HRr.out (by rw [HXL.out]; exact HOW1.out) (row1 := none) (grown_of_below (show Below w3.heap.size w3 w4 from ⟨HBE1.out.os, HBE1.out.tape, HBE1.out.output, HBE1.out.size, HBE1.out.block⟩) none) (fun g e => by cases e) (by rw [HXL.out]; exact HOW2.out) HGR2.out
            obtain ⟨hbel, hbox, _, hom⟩ := hq
            have hb6 := hbel _ HB23.out
            clear hbel
            generalize w5.setCell ⟨w3'.heap.size, 0, none⟩ (.slice (some ⟨gg2, 0, none⟩) (m.length + 1) cap2) = w6 at hbox hom hb6 ⊢
            have HB6 := Lib.hid (HB2.out.trans (hb6.mono HB2.out.size))
            have HMW6 := Lib.hid (HMW2.out.below hb6)
            have HOM := Lib.hid hom
            have c1 := one_cell HMW6.out.mem
            have x6 := one_cell hbox
            have x6d : w6.drew.cell? ⟨w3'.heap.size, 0, none⟩ = some (.slice (some ⟨gg2, 0, none⟩) (m.length + 1) cap2) := x6
            have c1d : w6.drew.cell? ⟨w.heap.size, 0, none⟩ = some (.slice A m.length c) := c1
            have r0 := one_cell HMW6.out.resM
            have rf := one_frozen HMW6.out.resM
            obtain ⟨q0, q1, q2, q3⟩ := four_cells HMW6.out.resW
            obtain ⟨f0, f1, f2, f3'⟩ := oneM HMW6.out.resW
            clear hom hbox hb6 x3 xf hlt2 e3 ef e3b c3 f3 d3
            go_wp2_with fail
            go_region_held3 (fun W => W.cell? ⟨w3'.heap.size, 0, none⟩ = some (.slice (some ⟨gg2, 0, none⟩) (m.length + 1) cap2) ∧ W.cell? ⟨w.heap.size, 0, none⟩ = some (.slice A m.length c))
              (first | (with_reducible exact ⟨x6d, c1d⟩) | (with_reducible exact ⟨kd1 x6 (by omega), kd1 c1 (by omega)⟩) | (with_reducible exact ⟨kd5 x6 (by omega) (by omega), kd5 c1 (by omega) (by omega)⟩) | (with_reducible exact ⟨kd4 x6 (by omega), kd4 c1 (by omega)⟩)) (fail)
            go_wp2_with fail
            refine bodyPost_ret (v := .tuple #[.agg #[.slice (some ⟨gg2, 0, none⟩) (m.length + 1) cap2], .agg #[.int .i64 m.length, .int .i64 0, .int .i64 n, .int .i64 n], .bool true]) (by simp [results, Try.results129, go_sem, r0, q0, q1, q2, q3]) rfl ⟨_, by rw [HV.out], ?_, by (repeat (first | (with_reducible exact Below.refl _ _) | (with_reducible refine Below.drew ?_) | ((with_reducible refine Below.alloc ?_ ?hB _); case hB => (first | (with_reducible exact Nat.le_refl _) | omega | (simp; done) | (simp; omega))) | ((with_reducible refine Below.setCell ?_ ?hB _); case hB => (first | (with_reducible exact Nat.le_refl _) | omega | (simp; done) | (simp; omega))))); exact HB6.out⟩
            rw [HV.out]
            with_reducible exact own_fin5 HOM.out (by omega) (by omega) (by omega))
  · have hd : decide (MemOK m) = false := decide_eq_false hm
    have HV : Hid (newR m i = ([], ⟨0, 0, 0, 0⟩, false)) := Lib.hid (by rw [newR, if_neg (fun h => hm h.1)])
    rw [hd]
    clear hm hd
    go_wp2_with fail
    refine bodyPost_ret (v := .tuple #[.agg #[.slice none 0 0], .agg #[.int .i64 0, .int .i64 0, .int .i64 0, .int .i64 0], .bool false]) (by simp [results, Try.results129, go_sem, r0, q0, q1, q2, q3]) rfl ⟨_, by rw [HV.out], by rw [HV.out]; exact own_none _ _ _, by (repeat (first | (with_reducible exact Below.refl _ _) | (with_reducible refine Below.drew ?_) | ((with_reducible refine Below.alloc ?_ ?hB _); case hB => (first | (with_reducible exact Nat.le_refl _) | omega | (simp; done) | (simp; omega))) | ((with_reducible refine Below.setCell ?_ ?hB _); case hB => (first | (with_reducible exact Nat.le_refl _) | omega | (simp; done) | (simp; omega))))); exact HB2.out⟩
end Go.Proofs.Ytoelagfcapdfpaa
