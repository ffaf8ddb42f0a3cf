/-
  A rope cut in two, and a part of a rope (SplitRope, PartText): XRpO, XRqC0, XRqC, XRqD and XRqE in one.
-/
import Derived.Test.YtomebbapjolnlaaRpV
import Derived.Test.YtomebbapjolnlaaRqA
import Derived.Deep.DeepCutAuto
namespace Go.Proofs.Ytomebbapjolnlaa
open Go.RowKit

theorem splitRopeR_small (m : List (List Int)) (L : List Win) (i : Int) : (splitRopeR m L i).1.length ≤ 1048576 ∧ (splitRopeR m L i).2.1.length ≤ 1048576 := by
  unfold splitRopeR
  split
  · rename_i h
    have := h.1.2.1
    have := splitR_len L i
    exact ⟨by simp only []; omega, by simp only []; omega⟩
  · exact ⟨Nat.zero_le _, Nat.zero_le _⟩
/-- The cells of two results, held behind what is written beside them. -/
theorem enterMP4 (A : Option Addr) (n c : Nat) (B : Option Addr) (l k : Nat) (w : World) :
    ∃ w0, (((w.alloc (.cells #[.slice A n c] 32)).alloc (.cells #[.slice B l k] 36)).alloc (.cells #[.slice none 0 0] 36)).alloc (.cells #[.slice none 0 0] 36) = w0 ∧ Below w.heap.size w w0 ∧ MP w0 w.heap.size A n c B l k ∧ w0.heap[w.heap.size + 1 + 1]? = some (.cells #[.slice none 0 0] 36) ∧ w0.heap[w.heap.size + 1 + 1 + 1]? = some (.cells #[.slice none 0 0] 36) ∧ w0.heap.size = w.heap.size + 4 := by
  obtain ⟨w1, hw1, hb1, hg1⟩ := enterMP A n c B l k w
  have hs : w1.heap.size = w.heap.size + 1 + 1 := by rw [← hw1]; simp
  rw [hw1]
  obtain ⟨h1, h2, h3, h4⟩ := enter2 w1 (.cells #[.slice none 0 0] 36) (.cells #[.slice none 0 0] 36)
  refine ⟨_, rfl, hb1.trans (h1.mono hb1.size), hg1.below h1, ?_, ?_, ?_⟩
  · rw [← hs]; exact h2
  · rw [← hs]; exact h3
  · simp [hs]
/-- Two cells, held behind what is written beside them. -/
theorem held_two {W : World} {p q a b : Nat} {x y : Value} (hx : W.cell? ⟨p, 0, none⟩ = some x) (hy : W.cell? ⟨q, 0, none⟩ = some y) (h1 : p ≠ a) (h2 : p ≠ b) (h3 : q ≠ a) (h4 : q ≠ b) :
    ∀ V, (V = W ∨ (∃ u, V = W.setCell ⟨a, 0, none⟩ u) ∨ (∃ u, V = W.setCell ⟨b, 0, none⟩ u) ∨ (∃ u u', V = (W.setCell ⟨a, 0, none⟩ u).setCell ⟨b, 0, none⟩ u')) → V.cell? ⟨p, 0, none⟩ = some x ∧ V.cell? ⟨q, 0, none⟩ = some y := fun V h => by
  rcases h with rfl | ⟨u, rfl⟩ | ⟨u, rfl⟩ | ⟨u, u', rfl⟩
  · exact ⟨hx, hy⟩
  · exact ⟨cell_other hx h1, cell_other hy h3⟩
  · exact ⟨cell_other hx h2, cell_other hy h4⟩
  · exact ⟨cell_other (cell_other hx h1) h2, cell_other (cell_other hy h3) h4⟩
/-- The cells of two results behind the stores into them. -/
theorem two_set {W : World} {a b : Nat} {t : TypeId} {z1 z2 : Value} (h1 : W.heap[a]? = some (.cells #[z1] t)) (h2 : W.heap[b]? = some (.cells #[z2] t)) (hab : a ≠ b) (v1 v2 : Value) :
    ((W.setCell ⟨a, 0, none⟩ v1).setCell ⟨b, 0, none⟩ v2).cell? ⟨a, 0, none⟩ = some v1 ∧ ((W.setCell ⟨a, 0, none⟩ v1).setCell ⟨b, 0, none⟩ v2).cell? ⟨b, 0, none⟩ = some v2 :=
  ⟨cell_other (one_cell (one_set h1)) hab, one_cell (one_set ((Below.heap_setCell W ⟨a, 0, none⟩ v1 b (by simpa using hab.symm)).trans h2))⟩
set_option maxRecDepth 100000 in
theorem specSplitRope_of (A : Option Addr) (c : Nat) (m : List (List Int)) (B : Option Addr) (k : Nat) (L : List Win) (i : Int) (w : World) (hr : Rd2 w w.heap.size A m) (hn : m.length ≤ maxLen) (hx : RdW w w.heap.size B L) (hl : L.length ≤ maxLen)
    (hS : ∀ W, Below w.heap.size w W → CutOK m L i → Calls Try.prog 91 #[.agg #[.slice B L.length k], .int .i64 i] W fun e w' => ∃ v1 v2, e = .returned (.tuple #[.agg #[v1], .agg #[v2]]) ∧ OwnW w' W.heap.size w'.heap.size v1 (splitR L i).1 ∧ OwnW w' W.heap.size w'.heap.size v2 (splitR L i).2 ∧ Below W.heap.size W w') :
    Calls Try.prog 40 #[.agg #[.slice A m.length c], .agg #[.slice B L.length k], .int .i64 i] w fun e w' => ∃ v1 v2, e = .returned (.tuple #[.agg #[v1], .agg #[v2], .bool (splitRopeR m L i).2.2]) ∧ OwnW w' w.heap.size w'.heap.size v1 (splitRopeR m L i).1 ∧ OwnW w' w.heap.size w'.heap.size v2 (splitRopeR m L i).2.1 ∧ Below w.heap.size w w' := by
  obtain ⟨w0, hw0, hb0, hg0, hr1, hr2, hz0⟩ := enterMP4 A m.length c B L.length k w
  have HC := Lib.hid (specCut_calls A c m B k L i w0 ((hr.below hb0).more hb0.size) hn ((hx.below hb0).more hb0.size) hl)
  have HS := Lib.hid hS
  have HB := Lib.hid hb0
  have HW := Lib.hid hw0
  have HG := Lib.hid hg0
  have HZ := Lib.hid hz0
  have HR1 := Lib.hid (fun W (hb : Below w0.heap.size w0 W) => (hb.block _ (Array.getElem?_eq_some_iff.1 hr1).1).trans hr1)
  have HR2 := Lib.hid (fun W (hb : Below w0.heap.size w0 W) => (hb.block _ (Array.getElem?_eq_some_iff.1 hr2).1).trans hr2)
  have c0 := one_cell hg0.m
  have c1 := one_cell hg0.p
  clear hr hx hb0 hw0 hg0 hr1 hr2 hz0 hS
  go_enter Try.func40, Try.ntmps40
  go_upto_region 1 with fail
  rw [HW.out]
  go_wp2_with fail
  refine HC.out.mono ?_
  rintro e w2 ⟨rfl, hb2⟩
  have HB2 := Lib.hid hb2
  have c2 := one_cell (HG.out.below hb2).p
  clear hb2 c0 c1
  by_cases hw : CutOK m L i
  · rw [show decide (CutOK m L i) = true from decide_eq_true hw]
    have HV : Hid (splitRopeR m L i = ((splitR L i).1, (splitR L i).2, true)) := Lib.hid (if_pos hw)
    have HSC := Lib.hid (HS.out w2 (HB.out.trans (HB2.out.mono HB.out.size)) hw)
    clear hw
    go_wp2_with fail
    refine HSC.out.mono ?_
    rintro e w3 ⟨v1, v2, rfl, ho1, ho2, hb3⟩
    have HB3 := Lib.hid (HB2.out.trans (hb3.mono HB2.out.size))
    have HO1 := Lib.hid ho1
    have HO2 := Lib.hid ho2
    obtain ⟨A1, k1, hv1⟩ := ho1.form
    obtain ⟨A2, k2, hv2⟩ := ho2.form
    subst hv1 hv2
    clear hb3 ho1 ho2 c2
    go_upto_region 4 with fail
    obtain ⟨hb5, g1, g2, hs5⟩ := enter2 w3 (.cells #[.slice A1 (splitR L i).1.length k1] 36) (.cells #[.slice A2 (splitR L i).2.length k2] 36)
    obtain ⟨w5, hw5⟩ : ∃ w5, (w3.alloc (.cells #[.slice A1 (splitR L i).1.length k1] 36)).alloc (.cells #[.slice A2 (splitR L i).2.length k2] 36) = w5 := ⟨_, rfl⟩
    rw [hw5] at hb5 g1 g2 hs5 ⊢
    have HB5 := Lib.hid (HB3.out.trans (hb5.mono HB3.out.size))
    have HP1 := Lib.hid ((HO1.out.below hb5).mono HB2.out.size hb5.size)
    have HP2 := Lib.hid ((HO2.out.below hb5).mono HB2.out.size hb5.size)
    have z1 := HR1.out w5 HB5.out
    have z2 := HR2.out w5 HB5.out
    have u1 := one_cell z1
    have u2 := one_cell z2
    have v1 := one_frozen z1
    have v2 := one_frozen z2
    have x0 := one_cell g1
    have x1 := one_cell g2
    have hz := HZ.out
    have hz3 := HB3.out.size
    have HQ0 := Lib.hid (held_two x0 x1 (a := w.heap.size + 1 + 1) (b := w.heap.size + 1 + 1 + 1) (by omega) (by omega) (by omega) (by omega))
    have HE := Lib.hid (two_set z1 z2 (by omega) (.slice A1 (splitR L i).1.length k1) (.slice A2 (splitR L i).2.length k2))
    have HD0 : Hid (∀ V : World, (V.cell? ⟨w3.heap.size, 0, none⟩ = some (.slice A1 (splitR L i).1.length k1) ∧ V.cell? ⟨w3.heap.size + 1, 0, none⟩ = some (.slice A2 (splitR L i).2.length k2)) → V.drew.cell? ⟨w3.heap.size, 0, none⟩ = some (.slice A1 (splitR L i).1.length k1) ∧ V.drew.cell? ⟨w3.heap.size + 1, 0, none⟩ = some (.slice A2 (splitR L i).2.length k2)) := Lib.hid fun _ h => h
    have HDR : Hid (∀ V : World, (V.cell? ⟨w.heap.size + 1 + 1, 0, none⟩ = some (.slice A1 (splitR L i).1.length k1) ∧ V.cell? ⟨w.heap.size + 1 + 1 + 1, 0, none⟩ = some (.slice A2 (splitR L i).2.length k2)) → V.drew.cell? ⟨w.heap.size + 1 + 1, 0, none⟩ = some (.slice A1 (splitR L i).1.length k1) ∧ V.drew.cell? ⟨w.heap.size + 1 + 1 + 1, 0, none⟩ = some (.slice A2 (splitR L i).2.length k2)) := Lib.hid fun _ h => h
    clear hb5 g1 g2 hs5 z1 z2 hz hz3 hw5
    go_region_held3 (fun W => W.cell? ⟨w3.heap.size, 0, none⟩ = some (.slice A1 (splitR L i).1.length k1) ∧ W.cell? ⟨w3.heap.size + 1, 0, none⟩ = some (.slice A2 (splitR L i).2.length k2))
      (first | exact ⟨x0, x1⟩ | exact HQ0.out _ (.inl rfl) | exact HQ0.out _ (.inr (.inl ⟨_, rfl⟩)) | exact HQ0.out _ (.inr (.inr (.inl ⟨_, rfl⟩))) | exact HQ0.out _ (.inr (.inr (.inr ⟨_, _, rfl⟩))) | exact HD0.out _ (HQ0.out _ (.inl rfl)) | exact HD0.out _ (HQ0.out _ (.inr (.inl ⟨_, rfl⟩))) | exact HD0.out _ (HQ0.out _ (.inr (.inr (.inl ⟨_, rfl⟩)))) | exact HD0.out _ (HQ0.out _ (.inr (.inr (.inr ⟨_, _, rfl⟩)))))
      (fail)
    have HD1 := Lib.hid (HDR.out _ HE.out)
    go_wp2_with fail
    refine bodyPost_ret (v := .tuple #[.agg #[.slice A1 (splitR L i).1.length k1], .agg #[.slice A2 (splitR L i).2.length k2], .bool true]) (by simp [results, Try.results40, go_sem, HD1.out.1, HD1.out.2]) rfl ⟨_, _, by rw [HV.out], ?_, ?_, ?_⟩
    · rw [HV.out]
      exact ((ownW_set (ownW_set HP1.out (by have := HZ.out; omega)) (by have := HZ.out; omega)).below (Below.refl _ _).drew).mono HB.out.size (by simp [World.size_setCell, World.drew])
    · rw [HV.out]
      exact ((ownW_set (ownW_set HP2.out (by have := HZ.out; omega)) (by have := HZ.out; omega)).below (Below.refl _ _).drew).mono HB.out.size (by simp [World.size_setCell, World.drew])
    · exact (((HB.out.trans (HB5.out.mono HB.out.size)).setCell (p := ⟨w.heap.size + 1 + 1, 0, none⟩) (by simp; omega) _).setCell (p := ⟨w.heap.size + 1 + 1 + 1, 0, none⟩) (by simp; omega) _).drew
  · rw [show decide (CutOK m L i) = false from decide_eq_false hw]
    have HV : Hid (splitRopeR m L i = ([], [], false)) := Lib.hid (if_neg hw)
    have z1 := HR1.out w2 HB2.out
    have z2 := HR2.out w2 HB2.out
    have u1 := one_cell z1
    have u2 := one_cell z2
    have v1 := one_frozen z1
    have v2 := one_frozen z2
    have HE := Lib.hid (two_set z1 z2 (by omega) (.slice none 0 0) (.slice none 0 0))
    clear hw z1 z2
    go_wp2_with fail
    obtain ⟨e1, e2⟩ := HE.out
    refine bodyPost_ret (v := .tuple #[.agg #[.slice none 0 0], .agg #[.slice none 0 0], .bool false]) (by simp [results, Try.results40, go_sem, e1, e2]) rfl ⟨_, _, by rw [HV.out], ?_, ?_, ?_⟩
    · rw [HV.out]; exact ownW_nil _ _ _
    · rw [HV.out]; exact ownW_nil _ _ _
    · exact ((HB.out.trans (HB2.out.mono HB.out.size)).setCell (p := ⟨w.heap.size + 1 + 1, 0, none⟩) (by simp; omega) _).setCell (p := ⟨w.heap.size + 1 + 1 + 1, 0, none⟩) (by simp; omega) _

theorem splitTo_sum {i t : Int} {L : List Win} (hq : Tiny L) (hi : 0 ≤ i) : ∀ k, k ≤ L.length → rpLen (splitTo i t L k).1 = if rpLen (L.take k) ≤ i then rpLen (L.take k) else i := by
  intro k
  induction k with
  | zero => intro _; simp [splitTo, rpLen, hi]
  | succ k ih =>
    intro hk
    have hlt : k < L.length := by omega
    have h := ih (by omega)
    rw [splitTo_step i t L k hlt, rpLen_append, h, rpLen_take L k hlt]
    have hx := hq L[k] (List.getElem_mem hlt)
    generalize L[k] = x at *
    generalize rpLen (L.take k) = d at *
    by_cases h1 : d + x.len ≤ i ∧ (0 < x.len ∨ d < i ∨ i = t)
    · rw [show cutOne i t d x = ([x], []) from if_pos h1]
      simp only [rpLen]
      split <;> split <;> omega
    · by_cases h2 : i ≤ d
      · rw [show cutOne i t d x = ([], [x]) by unfold cutOne; rw [if_neg h1, if_pos h2]]
        simp only [rpLen]
        split <;> split <;> omega
      · rw [show cutOne i t d x = ([⟨x.arr, x.start, i - d, i - d⟩], [⟨x.arr, x.start + (i - d), x.len - (i - d), x.cap - (i - d)⟩]) by unfold cutOne; rw [if_neg h1, if_neg h2]]
        have h3 : ¬ d + x.len ≤ i := fun h9 => h1 ⟨h9, .inr (.inl (by omega))⟩
        simp only [rpLen]
        split <;> omega
theorem splitR_sum {L : List Win} {i : Int} (hq : Tiny L) (hi : 0 ≤ i ∧ i ≤ rpLen L) : rpLen (splitR L i).1 = i := by
  have h := splitTo_sum (i := i) (t := rpLen L) hq hi.1 L.length (Nat.le_refl _)
  rw [List.take_length] at h
  rw [splitR, h]
  split <;> omega
theorem splitTo_ok {m : List (List Int)} {i t : Int} {L : List Win} (hw : ∀ x ∈ L, WinOK m x) : ∀ k, k ≤ L.length → ∀ x ∈ (splitTo i t L k).1, WinOK m x := by
  intro k
  induction k with
  | zero => intro _ x hx; simp [splitTo] at hx
  | succ k ih =>
    intro hk y hy
    have hlt : k < L.length := by omega
    rw [splitTo_step i t L k hlt] at hy
    rcases List.mem_append.1 hy with hy | hy
    · exact ih (by omega) y hy
    · have hx := hw L[k] (List.getElem_mem hlt)
      generalize L[k] = x at *
      generalize rpLen (L.take k) = d at *
      by_cases h1 : d + x.len ≤ i ∧ (0 < x.len ∨ d < i ∨ i = t)
      · rw [show cutOne i t d x = ([x], []) from if_pos h1] at hy
        simp only [List.mem_singleton] at hy; subst hy; exact hx
      · by_cases h2 : i ≤ d
        · rw [show cutOne i t d x = ([], [x]) by unfold cutOne; rw [if_neg h1, if_pos h2]] at hy
          simp at hy
        · rw [show cutOne i t d x = ([⟨x.arr, x.start, i - d, i - d⟩], [⟨x.arr, x.start + (i - d), x.len - (i - d), x.cap - (i - d)⟩]) by unfold cutOne; rw [if_neg h1, if_neg h2]] at hy
          have h3 : ¬ d + x.len ≤ i := fun h9 => h1 ⟨h9, .inr (.inl (by omega))⟩
          simp only [List.mem_singleton] at hy
          subst hy
          obtain ⟨q0, q1, q2, q3, q4, q5, q6⟩ := hx
          exact ⟨q0, q1, q2, q3, by simp only []; omega, by simp only []; omega, by simp only []; omega⟩
theorem split_watched {m : List (List Int)} {L : List Win} {i : Int} (hw : Watched m L) : Watched m (splitR L i).1 :=
  ⟨hw.1, by have := (splitR_len L i).1; have := hw.2.1; omega, splitTo_ok hw.2.2 _ (Nat.le_refl _)⟩
theorem partR_small (m : List (List Int)) (L : List Win) (i j : Int) : (partR m L i j).1.length ≤ 1048576 := by
  unfold partR
  split
  · have := keptR_len (splitR (splitR L j).1 i).2; omega
  · simp

set_option maxRecDepth 100000 in
set_option maxHeartbeats 1600000 in
theorem specPartText_calls (A : Option Addr) (c : Nat) (m : List (List Int)) (B : Option Addr) (k : Nat) (L : List Win) (i j : Int) (w : World) (hr : Rd2 w w.heap.size A m) (hn : m.length ≤ maxLen) (hx : RdW w w.heap.size B L) (hl : L.length ≤ maxLen) :
    Calls Try.prog 48 #[.agg #[.slice A m.length c], .agg #[.slice B L.length k], .int .i64 i, .int .i64 j] w fun e w' => ∃ v, e = .returned (.tuple #[.agg #[v], .bool (partR m L i j).2]) ∧ OwnW w' w.heap.size w'.heap.size v (partR m L i j).1 ∧ Below w.heap.size w w' := by
  obtain ⟨w0, hw0, hb0, hg0, hr0, hz0⟩ := enterMPR A m.length c B L.length k w
  have HC := Lib.hid (specRange_calls A c m B k L i j w0 ((hr.below hb0).more hb0.size) hn ((hx.below hb0).more hb0.size) hl)
  have HX := Lib.hid (hx.below hb0)
  have HB := Lib.hid hb0
  have HW := Lib.hid hw0
  have HG := Lib.hid hg0
  have HZ := Lib.hid hz0
  have HRV := Lib.hid (fun W (hb : Below w0.heap.size w0 W) => ropeVar hr0 hb)
  have c0 := one_cell hg0.m
  have c1 := one_cell hg0.p
  clear hr hx hb0 hw0 hg0 hr0 hz0
  go_enter Try.func48, Try.ntmps48
  go_upto_region 1 with fail
  rw [HW.out]
  go_wp2_with fail
  refine HC.out.mono ?_
  rintro e w2 ⟨rfl, hb2⟩
  have HB2 := Lib.hid hb2
  have c2 := one_cell (HG.out.below hb2).p
  clear hb2 c0 c1
  by_cases hw : RangeOK m L i j
  · rw [show decide (RangeOK m L i j) = true from decide_eq_true hw]
    have HV : Hid (partR m L i j = keptR (splitR (splitR L j).1 i).2) := Lib.hid (if_pos hw)
    have h12 := hw.1.1.2.1
    have HWT := Lib.hid hw.1.1
    have hsl1 := (splitR_len L j).1
    have hi0 := hw.2.1
    have hij := hw.2.2
    have hj := hw.1.2.2
    have hj0 := hw.1.2.1
    have HWS := Lib.hid (split_watched (i := j) hw.1.1)
    have HSM := Lib.hid (splitR_sum (i := j) HWT.out.len64 ⟨hj0, hj⟩)
    have HS1 := Lib.hid (specSplit_calls B k L j w2 ((HX.out.below (HB2.out.mono HB.out.size)).more (Nat.le_trans HB.out.size HB2.out.size)) h12 HWT.out.len64 ⟨hj0, hj⟩ HWT.out.room64)
    clear hw
    go_wp2_with fail
    refine HS1.out.mono ?_
    rintro e w3 ⟨v1, v2, rfl, ho1, ho2, hb3⟩
    obtain ⟨A1, k1, rfl⟩ := ho1.form
    obtain ⟨A2, k2, rfl⟩ := ho2.form
    obtain ⟨F1, hF1⟩ : ∃ F, (splitR L j).1 = F := ⟨_, rfl⟩
    obtain ⟨F2, hF2⟩ : ∃ F, (splitR L j).2 = F := ⟨_, rfl⟩
    rw [hF1] at ho1 HV hsl1 HWS HSM ⊢
    rw [hF2] at ho2 ⊢
    obtain ⟨hb4, g1, g2, hs4⟩ := enter2 w3 (.cells #[.slice A1 F1.length k1] 36) (.cells #[.slice A2 F2.length k2] 36)
    obtain ⟨w4, hw4⟩ : ∃ w4, (w3.alloc (.cells #[.slice A1 F1.length k1] 36)).alloc (.cells #[.slice A2 F2.length k2] 36) = w4 := ⟨_, rfl⟩
    rw [hw4] at hb4 g1 g2 hs4
    have hb34 := hb3.trans (hb4.mono hb3.size)
    have HB4 := Lib.hid (HB2.out.trans (hb34.mono HB2.out.size))
    have HO4 := Lib.hid ((ho1.below hb4).mono (Nat.le_refl _) hb4.size)
    have HW4 := Lib.hid hw4
    have x4 := one_cell g1
    have HS2 := Lib.hid (specSplit_calls A1 k1 F1 i w4 HO4.out.rd (by omega) HWS.out.len64 ⟨hi0, by rw [HSM.out]; exact hij⟩ HWS.out.room64)
    have hsl3 := (splitR_len F1 i).2
    clear hb3 hb4 ho1 ho2 g1 g2 hs4 hw4 hb34 hF1 hF2 c2
    go_upto_region 4 with fail
    rw [HW4.out]
    go_wp2_with fail
    refine HS2.out.mono ?_
    rintro e w5 ⟨v3, v4, rfl, ho3, ho4, hb5⟩
    obtain ⟨A3, k3, rfl⟩ := ho3.form
    obtain ⟨A4, k4, rfl⟩ := ho4.form
    obtain ⟨F3, hF3⟩ : ∃ F, (splitR F1 i).1 = F := ⟨_, rfl⟩
    obtain ⟨F4, hF4⟩ : ∃ F, (splitR F1 i).2 = F := ⟨_, rfl⟩
    rw [hF3] at ho3 ⊢
    rw [hF4] at ho4 HV hsl3 ⊢
    obtain ⟨hb6, g3, g4, hs6⟩ := enter2 w5 (.cells #[.slice A3 F3.length k3] 36) (.cells #[.slice A4 F4.length k4] 36)
    obtain ⟨w6, hw6⟩ : ∃ w6, (w5.alloc (.cells #[.slice A3 F3.length k3] 36)).alloc (.cells #[.slice A4 F4.length k4] 36) = w6 := ⟨_, rfl⟩
    rw [hw6] at hb6 g3 g4 hs6
    have hb46 := hb5.trans (hb6.mono hb5.size)
    have HB6 := Lib.hid (HB4.out.trans (hb46.mono HB4.out.size))
    have x1 := one_cell g4
    have HO7 := Lib.hid ((ho4.below hb6).mono (Nat.le_refl _) hb6.size)
    have HW6 := Lib.hid hw6
    have HSZ5 := Lib.hid (HB4.out.trans (hb5.mono HB4.out.size)).size
    have hlq : F4.length ≤ 1000 := by omega
    have HK := Lib.hid (specKept_calls A4 k4 F4 w6 hlq)
    clear hb5 hb6 ho3 ho4 g3 g4 hs6 hw6 hb46 hF3 hF4 x4
    go_upto_region 5 with fail
    rw [HW6.out]
    go_wp2_with fail
    refine HK.out.mono ?_
    rintro e w8 ⟨rfl, hb8⟩
    have HB8 := Lib.hid (HB6.out.trans (hb8.mono HB6.out.size))
    have ho8 := keptV_own (HO7.out.below hb8)
    obtain ⟨A8, k8, hk8⟩ := keptV_form A4 F4 k4
    rw [hk8] at ho8 ⊢
    have HO8 := Lib.hid (ho8.mono (Nat.le_refl _) hb8.size)
    clear hb8 ho8 hk8 x1
    obtain ⟨r0, r1, r2⟩ := HRV.out w8 HB8.out
    have r3 := r2 (.slice A8 (keptR F4).1.length k8)
    clear r2
    have HSZ := Lib.hid HB4.out.size
    obtain ⟨E1, hE1⟩ : ∃ E1, (keptR F4).1 = E1 := ⟨_, rfl⟩
    rw [hE1] at HO8 r3 ⊢
    have HE1 := Lib.hid hE1
    clear hE1
    go_wp2_with fail
    refine bodyPost_ret (v := .tuple #[.agg #[.slice A8 E1.length k8], .bool (keptR F4).2]) (by simp [results, Try.results48, go_sem, r3]) rfl ⟨_, by rw [HV.out], ?_, ?_⟩
    · rw [HV.out, HE1.out, World.size_setCell]
      exact (ownW_set HO8.out (by have := HSZ.out; have := HZ.out; omega)).mono (Nat.le_trans HB.out.size HSZ.out) (Nat.le_refl _)
    · exact (HB.out.trans (HB8.out.mono HB.out.size)).setCell (p := ⟨w.heap.size + 1 + 1, 0, none⟩) (by simp; omega) _
  · rw [show decide (RangeOK m L i j) = false from decide_eq_false hw]
    have HV : Hid (partR m L i j = ([], false)) := Lib.hid (if_neg hw)
    obtain ⟨r0, r1, r2⟩ := HRV.out w2 HB2.out
    have r3 := r2 (.slice none 0 0)
    clear hw r2
    go_wp2_with fail
    refine bodyPost_ret (v := .tuple #[.agg #[.slice none 0 0], .bool false]) (by simp [results, Try.results48, go_sem, r3]) rfl ⟨_, by rw [HV.out], ?_, ?_⟩
    · rw [HV.out]; exact ownW_nil _ _ _
    · exact (HB.out.trans (HB2.out.mono HB.out.size)).setCell (p := ⟨w.heap.size + 1 + 1, 0, none⟩) (by simp; omega) _

theorem run_strandS (w : World) (t1 : TypeId) (v1 : Value) : (Instr.buildSlice 111 1 #[(0, .iface t1 v1)]).run Try.prog w = .ok (.slice (some ⟨w.heap.size, 0, none⟩) 1 1) (w.alloc (.cells #[.iface t1 v1] 95)) := by
  have hi := info_strand
  cases hie : Try.prog.info? 95 with
  | none => simp [hie] at hi
  | some ie =>
    simp only [hie, Option.map_some, Option.some.injEq, Prod.mk.injEq] at hi
    obtain ⟨hz, hs, _⟩ := hi
    exact run_buildSlice w _ _ 1 _ _ ie _ Try.underlying111 hie hz (by rw [hs]; decide) (by rw [hs]; decide) (by rw [hs, show Array.range (1 * 1) = #[0] by decide]; simp [Instr.fill, Value.cells])
theorem Br.oneD {w : World} {d : Nat} {u : Value} {L : List Win} (h1 : Str w w.heap.size d u L) : Br (w.alloc (.cells #[u] 95)) (w.alloc (.cells #[u] 95)).heap.size d (some ⟨w.heap.size, 0, none⟩) [u] [L] := by
  have hb : Below w.heap.size w (w.alloc (.cells #[u] 95)) := (Below.refl _ _).alloc (Nat.le_refl _) _
  refine ⟨rfl, by simp, (rd_new w [u] 95).more (by simp), fun i x y hx hy => ?_⟩
  match i, hx, hy with
  | 0, hx, hy =>
    simp only [List.getElem?_cons_zero, Option.some.injEq] at hx hy
    subst hx; subst hy
    exact (h1.below hb).more hb.size
theorem ropeOf_oneD (d : Nat) (u : Value) (F : List Win) (w : World) (h1 : Str w w.heap.size d u F) (hn : F.length ≤ 12) :
    Calls Try.prog 88 #[.slice (some ⟨w.heap.size, 0, none⟩) 1 1] (w.alloc (.cells #[u] 95)) fun e w' => ∃ v', e = .returned (.tuple #[.agg #[v'], .bool true]) ∧ OwnW w' w.heap.size w'.heap.size v' F ∧ Below w.heap.size w w' := by
  have hb : Below w.heap.size w (w.alloc (.cells #[u] 95)) := (Below.refl _ _).alloc (Nat.le_refl _) _
  refine (ropeOf_calls d (some ⟨w.heap.size, 0, none⟩) 1 [u] [F] _ F (Br.oneD h1) (by simp) (by omega)).mono ?_
  rintro e w' ⟨v', rfl, ho, hb'⟩
  have hk : keptR F = (F, true) := if_pos hn
  rw [hk] at ho ⊢
  exact ⟨v', rfl, ho.mono hb.size (Nat.le_refl _), hb.trans (hb'.mono hb.size)⟩
theorem Str.form' {w : World} {B d : Nat} {u : Value} {Q : List Win} (h : Str w B d u Q) : ∃ t v, u = .iface t v := by
  cases d with
  | zero => obtain ⟨x, rfl, _⟩ := h; exact ⟨_, _, rfl⟩
  | succ d =>
    rcases h with ⟨x, rfl, _⟩ | ⟨A, c, vs, Ls, rfl, _⟩
    · exact ⟨_, _, rfl⟩
    · exact ⟨_, _, rfl⟩
set_option maxRecDepth 100000 in
set_option maxHeartbeats 1600000 in
theorem implSplitRope_calls (A : Option Addr) (c : Nat) (m : List (List Int)) (B : Option Addr) (k : Nat) (L : List Win) (i : Int) (w : World) (hr : Rd2 w w.heap.size A m) (hn : m.length ≤ maxLen) (hx : RdW w w.heap.size B L) (hl : L.length ≤ maxLen) (hwa : ∀ x ∈ L, WArg x) (_ : (Lit.int .i64 i).wf = true) :
    Calls Try.prog 41 #[.agg #[.slice A m.length c], .agg #[.slice B L.length k], .int .i64 i] w fun e w' => ∃ v1 v2, e = .returned (.tuple #[.agg #[v1], .agg #[v2], .bool (splitRopeR m L i).2.2]) ∧ OwnW w' w.heap.size w'.heap.size v1 (splitRopeR m L i).1 ∧ OwnW w' w.heap.size w'.heap.size v2 (splitRopeR m L i).2.1 ∧ Below w.heap.size w w' := by
  obtain ⟨w0, hw0, hb0, hg0, hr1, hr2, hz0⟩ := enterMP4 A m.length c B L.length k w
  have HC := Lib.hid (implCutRope_calls A c m B k L i w0 ((hr.below hb0).more hb0.size) hn ((hx.below hb0).more hb0.size) hl hwa)
  have HB := Lib.hid hb0
  have HW := Lib.hid hw0
  have HZ := Lib.hid hz0
  have HR1 := Lib.hid (fun W (hb : Below w0.heap.size w0 W) => (hb.block _ (Array.getElem?_eq_some_iff.1 hr1).1).trans hr1)
  have HR2 := Lib.hid (fun W (hb : Below w0.heap.size w0 W) => (hb.block _ (Array.getElem?_eq_some_iff.1 hr2).1).trans hr2)
  have c0 := one_cell hg0.m
  have c1 := one_cell hg0.p
  clear hr hx hb0 hw0 hg0 hr1 hr2 hz0 hwa
  go_enter Try.func41, Try.ntmps41
  go_upto_region 1 with fail
  rw [HW.out]
  go_wp2_with fail
  refine HC.out.mono ?_
  rintro e w2 ⟨u, v, rfl, hu, hv, hb2⟩
  have HB2 := Lib.hid hb2
  have HU := Lib.hid hu
  have HVV := Lib.hid hv
  clear hb2 c0 c1 hu hv
  by_cases hw : CutOK m L i
  · rw [show decide (CutOK m L i) = true from decide_eq_true hw]
    have HV : Hid (splitRopeR m L i = ((splitR L i).1, (splitR L i).2, true)) := Lib.hid (if_pos hw)
    have h12 := hw.1.2.1
    have hsl1 := (splitR_len L i).1
    have hsl2 := (splitR_len L i).2
    have hu := HU.out
    have hv := HVV.out
    rw [HV.out] at hu hv
    obtain ⟨F1, hF1⟩ : ∃ F, (splitR L i).1 = F := ⟨_, rfl⟩
    obtain ⟨F2, hF2⟩ : ∃ F, (splitR L i).2 = F := ⟨_, rfl⟩
    rw [hF1, hF2] at HV
    rw [hF1] at hu hsl1
    rw [hF2] at hv hsl2
    obtain ⟨t1, x1, rfl⟩ := hu.form'
    obtain ⟨t2, x2, rfl⟩ := hv.form'
    have HVV := Lib.hid hv
    have hrb := run_strandS
    have HRO1 := Lib.hid (ropeOf_oneD 2 _ F1 w2 hu (by omega))
    clear hw hu hv HU hF1 hF2
    go_wp2_with fail
    refine HRO1.out.mono ?_
    rintro e w3 ⟨v3, rfl, ho3, hb3⟩
    obtain ⟨A3, k3, rfl⟩ := ho3.form
    obtain ⟨w4, hw4⟩ : ∃ w4, w3.alloc (.cells #[.slice A3 F1.length k3] 36) = w4 := ⟨_, rfl⟩
    have hb34 : Below w3.heap.size w3 w4 := by rw [← hw4]; exact (Below.refl _ _).alloc (Nat.le_refl _) _
    have g1 : w4.heap[w3.heap.size]? = some (.cells #[.slice A3 F1.length k3] 36) := by rw [← hw4]; exact heap_alloc_new _ _
    have hb24 := hb3.trans (hb34.mono hb3.size)
    have HB4 := Lib.hid (HB2.out.trans (hb24.mono HB2.out.size))
    have HO4 := Lib.hid ((ho3.below hb34).mono HB2.out.size hb34.size)
    have HG4 := Lib.hid g1
    have HS3 := Lib.hid (Nat.le_trans HB2.out.size hb3.size)
    have HW4 := Lib.hid hw4
    have HRO2 := Lib.hid (ropeOf_oneD 2 _ F2 w4 ((HVV.out.below hb24).more hb24.size) (by omega))
    clear hb3 ho3 hw4 hb34 g1 hb24
    go_upto_region 5 with fail
    rw [HW4.out]
    go_wp2_with fail
    refine HRO2.out.mono ?_
    rintro e w5 ⟨v5, rfl, ho5, hb5⟩
    obtain ⟨A5, k5, rfl⟩ := ho5.form
    obtain ⟨w6, hw6⟩ : ∃ w6, w5.alloc (.cells #[.slice A5 F2.length k5] 36) = w6 := ⟨_, rfl⟩
    have hb56 : Below w5.heap.size w5 w6 := by rw [← hw6]; exact (Below.refl _ _).alloc (Nat.le_refl _) _
    have g2 : w6.heap[w5.heap.size]? = some (.cells #[.slice A5 F2.length k5] 36) := by rw [← hw6]; exact heap_alloc_new _ _
    have hb46 := hb5.trans (hb56.mono hb5.size)
    have HB6 := Lib.hid (HB4.out.trans (hb46.mono HB4.out.size))
    have HP1 := Lib.hid ((HO4.out.below hb46).mono (Nat.le_refl _) hb46.size)
    have HP2 := Lib.hid ((ho5.below hb56).mono HB4.out.size hb56.size)
    have x0 := one_cell ((hb46.block _ (Array.getElem?_eq_some_iff.1 HG4.out).1).trans HG4.out)
    have x1 := one_cell g2
    have HW6 := Lib.hid hw6
    have z1 := HR1.out w6 HB6.out
    have z2 := HR2.out w6 HB6.out
    have u1 := one_cell z1
    have u2 := one_cell z2
    have v1 := one_frozen z1
    have v2 := one_frozen z2
    have hz := HZ.out
    have hz3 := HS3.out
    have hz5 := Nat.le_trans HB4.out.size hb5.size
    have HQ0 := Lib.hid (held_two x0 x1 (a := w.heap.size + 1 + 1) (b := w.heap.size + 1 + 1 + 1) (by omega) (by omega) (by omega) (by omega))
    have HE := Lib.hid (two_set z1 z2 (by omega) (.slice A3 F1.length k3) (.slice A5 F2.length k5))
    have HD0 : Hid (∀ V : World, (V.cell? ⟨w3.heap.size, 0, none⟩ = some (.slice A3 F1.length k3) ∧ V.cell? ⟨w5.heap.size, 0, none⟩ = some (.slice A5 F2.length k5)) → V.drew.cell? ⟨w3.heap.size, 0, none⟩ = some (.slice A3 F1.length k3) ∧ V.drew.cell? ⟨w5.heap.size, 0, none⟩ = some (.slice A5 F2.length k5)) := Lib.hid fun _ h => h
    have HDR : Hid (∀ V : World, (V.cell? ⟨w.heap.size + 1 + 1, 0, none⟩ = some (.slice A3 F1.length k3) ∧ V.cell? ⟨w.heap.size + 1 + 1 + 1, 0, none⟩ = some (.slice A5 F2.length k5)) → V.drew.cell? ⟨w.heap.size + 1 + 1, 0, none⟩ = some (.slice A3 F1.length k3) ∧ V.drew.cell? ⟨w.heap.size + 1 + 1 + 1, 0, none⟩ = some (.slice A5 F2.length k5)) := Lib.hid fun _ h => h
    clear hb5 ho5 hw6 hb56 g2 hb46 z1 z2 hz hz3 hz5 hrb
    go_upto_region 6 with fail
    rw [HW6.out]
    go_region_held3 (fun W => W.cell? ⟨w3.heap.size, 0, none⟩ = some (.slice A3 F1.length k3) ∧ W.cell? ⟨w5.heap.size, 0, none⟩ = some (.slice A5 F2.length k5))
      (first | exact ⟨x0, x1⟩ | exact HQ0.out _ (.inl rfl) | exact HQ0.out _ (.inr (.inl ⟨_, rfl⟩)) | exact HQ0.out _ (.inr (.inr (.inl ⟨_, rfl⟩))) | exact HQ0.out _ (.inr (.inr (.inr ⟨_, _, rfl⟩))) | exact HD0.out _ (HQ0.out _ (.inl rfl)) | exact HD0.out _ (HQ0.out _ (.inr (.inl ⟨_, rfl⟩))) | exact HD0.out _ (HQ0.out _ (.inr (.inr (.inl ⟨_, rfl⟩)))) | exact HD0.out _ (HQ0.out _ (.inr (.inr (.inr ⟨_, _, rfl⟩)))))
      (fail)
    have HD1 := Lib.hid (HDR.out _ HE.out)
    go_wp2_with fail
    refine bodyPost_ret (v := .tuple #[.agg #[.slice A3 F1.length k3], .agg #[.slice A5 F2.length k5], .bool true]) (by simp [results, Try.results41, go_sem, HD1.out.1, HD1.out.2]) rfl ⟨_, _, by rw [HV.out], ?_, ?_, ?_⟩
    · rw [HV.out]
      exact ((ownW_set (ownW_set HP1.out (by have := HZ.out; omega)) (by have := HZ.out; omega)).below (Below.refl _ _).drew).mono HB.out.size (by simp [World.size_setCell, World.drew])
    · rw [HV.out]
      exact ((ownW_set (ownW_set HP2.out (by have := HZ.out; omega)) (by have := HZ.out; omega)).below (Below.refl _ _).drew).mono HB.out.size (by simp [World.size_setCell, World.drew])
    · exact (((HB.out.trans (HB6.out.mono HB.out.size)).setCell (p := ⟨w.heap.size + 1 + 1, 0, none⟩) (by simp; omega) _).setCell (p := ⟨w.heap.size + 1 + 1 + 1, 0, none⟩) (by simp; omega) _).drew
  · rw [show decide (CutOK m L i) = false from decide_eq_false hw]
    have HV : Hid (splitRopeR m L i = ([], [], false)) := Lib.hid (if_neg hw)
    have z1 := HR1.out w2 HB2.out
    have z2 := HR2.out w2 HB2.out
    have u1 := one_cell z1
    have u2 := one_cell z2
    have v1 := one_frozen z1
    have v2 := one_frozen z2
    have HE := Lib.hid (two_set z1 z2 (by omega) (.slice none 0 0) (.slice none 0 0))
    clear hw z1 z2
    go_wp2_with fail
    obtain ⟨e1, e2⟩ := HE.out
    refine bodyPost_ret (v := .tuple #[.agg #[.slice none 0 0], .agg #[.slice none 0 0], .bool false]) (by simp [results, Try.results41, go_sem, e1, e2]) rfl ⟨_, _, by rw [HV.out], ?_, ?_, ?_⟩
    · rw [HV.out]; exact ownW_nil _ _ _
    · rw [HV.out]; exact ownW_nil _ _ _
    · exact ((HB.out.trans (HB2.out.mono HB.out.size)).setCell (p := ⟨w.heap.size + 1 + 1, 0, none⟩) (by simp; omega) _).setCell (p := ⟨w.heap.size + 1 + 1 + 1, 0, none⟩) (by simp; omega) _

theorem wf_small {z : Int} (h1 : 0 ≤ z) (h2 : z ≤ 1000) : (Lit.int .i64 z).wf = true := by
  simp [Lit.wf, IntKind.min, IntKind.max, IntKind.signed, IntKind.bits]; omega
theorem wargs_ok {m : List (List Int)} {L : List Win} (h : ∀ x ∈ L, WinOK m x) : ∀ x ∈ L, WArg x := fun x hx => by
  obtain ⟨n, s, l, c, rfl, hn, hl, hc, h1, h64, h16⟩ := (h x hx).nat
  exact ⟨wf_small (by simp) (by simp only []; omega), wf_small (by simp) (by simp only []; omega), wf_small (by simp) (by simp only []; omega), wf_small (by simp) (by simp only []; omega)⟩
theorem part_cases {m : List (List Int)} {L : List Win} {i j : Int} (hj : CutOK m L j) : (RangeOK m L i j ↔ CutOK m (splitR L j).1 i) := by
  have hs := splitR_sum (i := j) hj.1.len64 ⟨hj.2.1, hj.2.2⟩
  exact ⟨fun h => ⟨split_watched hj.1, h.2.1, by rw [hs]; exact h.2.2⟩, fun h => ⟨hj, h.2.1, by have := h.2.2; rw [hs] at this; exact this⟩⟩
set_option maxRecDepth 100000 in
set_option maxHeartbeats 1600000 in
theorem implPartText_calls (A : Option Addr) (c : Nat) (m : List (List Int)) (B : Option Addr) (k : Nat) (L : List Win) (i j : Int) (w : World) (hr : Rd2 w w.heap.size A m) (hn : m.length ≤ maxLen) (hx : RdW w w.heap.size B L) (hl : L.length ≤ maxLen) (hwa : ∀ x ∈ L, WArg x) (hwi : (Lit.int .i64 i).wf = true) (hwj : (Lit.int .i64 j).wf = true) :
    Calls Try.prog 49 #[.agg #[.slice A m.length c], .agg #[.slice B L.length k], .int .i64 i, .int .i64 j] w fun e w' => ∃ v, e = .returned (.tuple #[.agg #[v], .bool (partR m L i j).2]) ∧ OwnW w' w.heap.size w'.heap.size v (partR m L i j).1 ∧ Below w.heap.size w w' := by
  obtain ⟨w0, hw0, hb0, hg0, hr0, hz0⟩ := enterMPR A m.length c B L.length k w
  have HC := Lib.hid (implSplitRope_calls A c m B k L j w0 ((hr.below hb0).more hb0.size) hn ((hx.below hb0).more hb0.size) hl hwa hwj)
  have HRM := Lib.hid (hr.below hb0)
  have HB := Lib.hid hb0
  have HW := Lib.hid hw0
  have HG := Lib.hid hg0
  have HZ := Lib.hid hz0
  have HRV := Lib.hid (fun W (hb : Below w0.heap.size w0 W) => ropeVar hr0 hb)
  have c0 := one_cell hg0.m
  have c1 := one_cell hg0.p
  clear hr hx hb0 hw0 hg0 hr0 hz0 hwa
  go_enter Try.func49, Try.ntmps49
  go_upto_region 1 with fail
  rw [HW.out]
  go_wp2_with fail
  refine HC.out.mono ?_
  rintro e w3 ⟨v1, v2, rfl, ho1, ho2, hb3⟩
  obtain ⟨A1, k1, rfl⟩ := ho1.form
  obtain ⟨A2, k2, rfl⟩ := ho2.form
  obtain ⟨F1, hF1⟩ : ∃ F, (splitRopeR m L j).1 = F := ⟨_, rfl⟩
  obtain ⟨F2, hF2⟩ : ∃ F, (splitRopeR m L j).2.1 = F := ⟨_, rfl⟩
  rw [hF1] at ho1 ⊢
  rw [hF2] at ho2 ⊢
  obtain ⟨hb4, g1, g2, hs4⟩ := enter2 w3 (.cells #[.slice A1 F1.length k1] 36) (.cells #[.slice A2 F2.length k2] 36)
  obtain ⟨w4, hw4⟩ : ∃ w4, (w3.alloc (.cells #[.slice A1 F1.length k1] 36)).alloc (.cells #[.slice A2 F2.length k2] 36) = w4 := ⟨_, rfl⟩
  rw [hw4] at hb4 g1 g2 hs4
  have hb34 := hb3.trans (hb4.mono hb3.size)
  have HB4 := Lib.hid hb34
  have HO4 := Lib.hid ((ho1.below hb4).mono (Nat.le_refl _) hb4.size)
  have HW4 := Lib.hid hw4
  have c4 := one_cell (HG.out.below HB4.out).m
  have x4 := one_cell g1
  clear hb3 hb4 ho1 ho2 g1 g2 hs4 hw4 hb34 c0 c1
  by_cases hw : CutOK m L j
  · have e1 : splitRopeR m L j = ((splitR L j).1, (splitR L j).2, true) := if_pos hw
    have HE := Lib.hid e1
    rw [e1] at hF1
    have hF1' : (splitR L j).1 = F1 := hF1
    have HWS := Lib.hid (split_watched (i := j) hw.1)
    have HPC := Lib.hid (part_cases (i := i) hw)
    rw [hF1'] at HWS HPC
    have hf12 := HWS.out.2.1
    have HC2 := Lib.hid (implSplitRope_calls A c m A1 k1 F1 i w4 ((HRM.out.below (HB4.out.mono HB.out.size)).more (Nat.le_trans HB.out.size HB4.out.size)) hn HO4.out.rd (by simp only [maxLen]; omega) (wargs_ok HWS.out.2.2) hwi)
    have HV : Hid (partR m L i j = ((splitRopeR m F1 i).2.1, (splitRopeR m F1 i).2.2)) := Lib.hid (by
      unfold partR splitRopeR
      rw [hF1']
      by_cases hr : RangeOK m L i j
      · have h12 := (splitR_len F1 i).2
        rw [if_pos hr, if_pos (HPC.out.1 hr)]
        exact if_pos (by omega)
      · rw [if_neg hr, if_neg fun h => hr (HPC.out.2 h)])
    clear hw e1 hF1 hF1' hF2
    go_upto_region 2 with (first | fail | rw [HE.out])
    rw [HW4.out]
    go_wp2_with fail
    refine HC2.out.mono ?_
    rintro e w5 ⟨v3, v4, rfl, ho3, ho4, hb5⟩
    obtain ⟨A3, k3, rfl⟩ := ho3.form
    obtain ⟨A5, k5, rfl⟩ := ho4.form
    obtain ⟨F3, hF3⟩ : ∃ F, (splitRopeR m F1 i).1 = F := ⟨_, rfl⟩
    obtain ⟨F4, hF4⟩ : ∃ F, (splitRopeR m F1 i).2.1 = F := ⟨_, rfl⟩
    obtain ⟨p, hp⟩ : ∃ p, (splitRopeR m F1 i).2.2 = p := ⟨_, rfl⟩
    rw [hF3] at ho3 ⊢
    rw [hF4, hp] at HV
    rw [hF4] at ho4
    rw [hF4, hp]
    obtain ⟨hb6, g3, g4, hs6⟩ := enter2 w5 (.cells #[.slice A3 F3.length k3] 36) (.cells #[.slice A5 F4.length k5] 36)
    obtain ⟨w6, hw6⟩ : ∃ w6, (w5.alloc (.cells #[.slice A3 F3.length k3] 36)).alloc (.cells #[.slice A5 F4.length k5] 36) = w6 := ⟨_, rfl⟩
    rw [hw6] at hb6 g3 g4 hs6
    have HB6 := Lib.hid (HB4.out.trans ((hb5.trans (hb6.mono hb5.size)).mono HB4.out.size))
    have HO6 := Lib.hid ((ho4.below hb6).mono HB4.out.size hb6.size)
    have x6 := one_cell g4
    have HW6 := Lib.hid hw6
    obtain ⟨r0, r1, r2⟩ := HRV.out w6 HB6.out
    have r3 := r2 (.slice A5 F4.length k5)
    clear hb5 hb6 ho3 ho4 g3 g4 hs6 hw6 hF3 hF4 hp c4 x4 r2
    go_upto_region 5 with fail
    rw [HW6.out]
    go_wp2_with fail
    refine bodyPost_ret (v := .tuple #[.agg #[.slice A5 F4.length k5], .bool p]) (by simp [results, Try.results49, go_sem, r3]) rfl ⟨_, by rw [HV.out], ?_, ?_⟩
    · rw [HV.out, World.size_setCell]
      exact (ownW_set HO6.out (by have := HZ.out; omega)).mono HB.out.size (Nat.le_refl _)
    · exact (HB.out.trans (HB6.out.mono HB.out.size)).setCell (p := ⟨w.heap.size + 1 + 1, 0, none⟩) (by simp; omega) _
  · have e1 : splitRopeR m L j = ([], [], false) := if_neg hw
    have HE := Lib.hid e1
    have HV : Hid (partR m L i j = ([], false)) := Lib.hid (if_neg fun h => hw h.1)
    obtain ⟨r0, r1, r2⟩ := HRV.out w4 HB4.out
    have r3 := r2 (.slice none 0 0)
    clear hw e1 hF1 hF2 r2
    go_upto_region 2 with fail
    rw [HW4.out]
    rw [HE.out]
    go_wp2_with fail
    refine bodyPost_ret (v := .tuple #[.agg #[.slice none 0 0], .bool false]) (by simp [results, Try.results49, go_sem, r3]) rfl ⟨_, by rw [HV.out], ?_, ?_⟩
    · rw [HV.out]; exact ownW_nil _ _ _
    · exact (HB.out.trans (HB4.out.mono HB.out.size)).setCell (p := ⟨w.heap.size + 1 + 1, 0, none⟩) (by simp; omega) _
end Go.Proofs.Ytomebbapjolnlaa
