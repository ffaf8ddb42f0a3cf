/-
  A memory with one more array: l2New of spec, NewArray of spec and impl.
-/
import Derived.Test.YtoelagfcapdfpaaSnoc
import Derived.Test.YtoelagfcapdfpaaSpecO
import Derived.Test.YtoelagfcapdfpaaCopyM
import Derived.Test.YtoelagfcapdfpaaBox2
import Derived.Deep.RegionLaw
import Derived.Deep.RegionHeld3
namespace Go.Proofs.Ytoelagfcapdfpaa
open Go.RowKit

/-- A memory and the answer's two blocks, a memory and a window, as a function has them. -/
structure MMW (W : World) (g : Nat) (A : Option Addr) (n c : Nat) : Prop where
  mem : W.heap[g]? = some (.cells #[.slice A n c] 31)
  resM : W.heap[g + 1]? = some (.cells #[.slice none 0 0] 31)
  resW : W.heap[g + 1 + 1]? = some (.cells #[.int .i64 0, .int .i64 0, .int .i64 0, .int .i64 0] 33)
theorem MMW.below {W W' : World} {g : Nat} {A : Option Addr} {n c : Nat} (h : MMW W g A n c) (hb : Below W.heap.size W W') : MMW W' g A n c :=
  ⟨(hb.block _ (Array.getElem?_eq_some_iff.1 h.mem).1).trans h.mem, (hb.block _ (Array.getElem?_eq_some_iff.1 h.resM).1).trans h.resM, (hb.block _ (Array.getElem?_eq_some_iff.1 h.resW).1).trans h.resW⟩
theorem enterMMW (A : Option Addr) (n c : Nat) (w : World) :
    ∃ w0, ((w.alloc (.cells #[.slice A n c] 31)).alloc (.cells #[.slice none 0 0] 31)).alloc (.cells #[.int .i64 0, .int .i64 0, .int .i64 0, .int .i64 0] 33) = w0 ∧ Below w.heap.size w w0 ∧ w0.heap.size = w.heap.size + 3 ∧ MMW w0 w.heap.size A n c := by
  obtain ⟨h1, h2, h3, h4, h5⟩ := enter3 w (.cells #[.slice A n c] 31) (.cells #[.slice none 0 0] 31) (.cells #[.int .i64 0, .int .i64 0, .int .i64 0, .int .i64 0] 33)
  exact ⟨_, rfl, h1, h5, h2, h3, h4⟩
theorem kd1 {w : World} {b o g i : Nat} {u v : Value} (h : w.cell? ⟨b, o, none⟩ = some u) (hn : b ≠ g) : (w.setCell ⟨g, i, none⟩ v).drew.cell? ⟨b, o, none⟩ = some u :=
  (World.cell?_setCell_other w _ _ v (by first | (simp; done) | (simp; omega))).trans h
theorem kc1 {w : World} {b o g i : Nat} {u v : Value} (h : w.cell? ⟨b, o, none⟩ = some u) (hn : b ≠ g) : (w.setCell ⟨g, i, none⟩ v).cell? ⟨b, o, none⟩ = some u :=
  (World.cell?_setCell_other w _ _ v (by first | (simp; done) | (simp; omega))).trans h
theorem kd4 {w : World} {b o g : Nat} {u v0 v1 v2 v3 : Value} (h : w.cell? ⟨b, o, none⟩ = some u) (hn : b ≠ g) : ((((w.setCell ⟨g, 0, none⟩ v0).setCell ⟨g, 1, none⟩ v1).setCell ⟨g, 2, none⟩ v2).setCell ⟨g, 3, none⟩ v3).drew.cell? ⟨b, o, none⟩ = some u :=
  kd1 (kc1 (kc1 (kc1 h hn) hn) hn) hn
theorem kd5 {w : World} {b o g k i : Nat} {u v v0 v1 v2 v3 : Value} (h : w.cell? ⟨b, o, none⟩ = some u) (hn : b ≠ g) (hk : b ≠ k) : (((((w.setCell ⟨k, i, none⟩ v).setCell ⟨g, 0, none⟩ v0).setCell ⟨g, 1, none⟩ v1).setCell ⟨g, 2, none⟩ v2).setCell ⟨g, 3, none⟩ v3).drew.cell? ⟨b, o, none⟩ = some u :=
  kd4 (kc1 h hk) hn
theorem own_drewfin {F : World} {lo lo' hi : Nat} {v : Value} {m : List (List Int)} (h : OwnM F lo hi v m) (hs : F.heap.size = hi) (hl : lo' ≤ lo) : OwnM F.drew lo' F.drew.heap.size v m := by
  subst hs
  exact (h.drewN 1).mono hl (Nat.le_refl _)
theorem own_fin5 {w : World} {lo lo' k g : Nat} {v u v0 v1 v2 v3 : Value} {m : List (List Int)} (h : OwnM w lo w.heap.size v m) (hk : k < lo) (hg : g < lo) (hl : lo' ≤ lo) :
    OwnM (((((w.setCell ⟨k, 0, none⟩ u).setCell ⟨g, 0, none⟩ v0).setCell ⟨g, 1, none⟩ v1).setCell ⟨g, 2, none⟩ v2).setCell ⟨g, 3, none⟩ v3).drew lo' (((((w.setCell ⟨k, 0, none⟩ u).setCell ⟨g, 0, none⟩ v0).setCell ⟨g, 1, none⟩ v1).setCell ⟨g, 2, none⟩ v2).setCell ⟨g, 3, none⟩ v3).drew.heap.size v m := by
  have h5 := own_setC (i := 3) (u := v3) (own_setC (i := 2) (u := v2) (own_setC (i := 1) (u := v1) (own_setC (i := 0) (u := v0) (own_setC (i := 0) (u := u) h (.inl hk)) (.inl hg)) (.inl hg)) (.inl hg)) (.inl hg)
  exact own_drewfin h5 (by rw [World.size_setCell, World.size_setCell, World.size_setCell, World.size_setCell, World.size_setCell]) hl
theorem oneM {w : World} {g : Nat} {u0 u1 u2 u3 : Value} {t : TypeId} (h : w.heap[g]? = some (.cells #[u0, u1, u2, u3] t)) : w.frozen? ⟨g, 0, none⟩ = false ∧ w.frozen? ⟨g, 1, none⟩ = false ∧ w.frozen? ⟨g, 2, none⟩ = false ∧ w.frozen? ⟨g, 3, none⟩ = false := by simp [World.frozen?, h]

set_option maxRecDepth 100000 in
set_option maxHeartbeats 6400000 in
theorem specNew_calls (A : Option Addr) (c : Nat) (m : List (List Int)) (br offr lc : Nat) (xs : List Int) (nn : Int) (w : World) (hr : Rd2 w w.heap.size A m) (hok : MemOK m) (hl : Rd w w.heap.size (some ⟨br, offr, none⟩) (intV .u8 xs)) (h1 : 1 ≤ xs.length) (h64 : xs.length ≤ 64) (hlc : xs.length ≤ lc) :
    Calls Try.prog 120 #[.agg #[.slice A m.length c], .slice (some ⟨br, offr, none⟩) xs.length lc, .int .i64 nn] w fun e w' => ∃ v, e = .returned (.tuple #[.agg #[v], .agg #[.int .i64 m.length, .int .i64 0, .int .i64 nn, .int .i64 xs.length]]) ∧ OwnM w' w.heap.size w'.heap.size v (m ++ [xs]) ∧ Below w.heap.size w w' := by
  obtain ⟨w0, hw0, hb0, hz0, hmw⟩ := enterMMW A m.length c w
  obtain ⟨i0, hi0, hz0', hz1, hz2⟩ := info_parts info_u8s
  obtain ⟨i1, hi1, hy0, hy1, hy2⟩ := info_parts info_u8
  have HC := Lib.hid (specOwn_calls A c m w0 ((hr.below hb0).more hb0.size) hok)
  have HB := Lib.hid hb0
  have HW := Lib.hid hw0
  have HMW := Lib.hid hmw
  have HL := Lib.hid hl
  have h16 := hok.1
  have c1 := one_cell hmw.mem
  clear hr hb0 hmw hw0 hok hl
  go_enter Try.func120, Try.ntmps120
  go_wp2_with fail
  rw [HW.out]
  refine HC.out.mono ?_
  rintro e w2 ⟨v, rfl, ho, hb2⟩
  obtain ⟨Ao, co, rfl, hcv⟩ := ho.form
  have hs02 := hb2.size
  obtain ⟨w3, hw3⟩ : ∃ w3, w2.alloc (.cells #[.slice Ao m.length co] 31) = w3 := ⟨_, rfl⟩
  have hb3 : Below w2.heap.size w2 w3 := by rw [← hw3]; exact (Below.refl _ _).alloc (Nat.le_refl _) _
  have hx3 : w3.heap[w2.heap.size]? = some (.cells #[.slice Ao m.length co] 31) := by rw [← hw3]; exact heap_alloc_new _ _
  have hsz3 : w3.heap.size = w2.heap.size + 1 := by rw [← hw3]; simp
  have HB2 := Lib.hid (HB.out.trans (hb2.mono HB.out.size))
  have HB3 := Lib.hid (HB2.out.trans (hb3.mono HB2.out.size))
  have HMW3 := Lib.hid ((HMW.out.below hb2).below hb3)
  have HX3 := Lib.hid hx3
  have HW3 := Lib.hid hw3
  obtain ⟨hd, hov, hrw⟩ := ho.rows
  have hdl : hd.length = m.length := hrw.len
  have ho3 : w3.ownsRow w0.heap.size 64 1 (.slice Ao m.length co) m.length hd := by
    have h := (hov.below hb3).1
    rw [hdl] at h
    exact h
  have HRr := Lib.hid ((hrw.below hb3).mono (Nat.le_refl _) hb3.size)
  have HB03 := Lib.hid (hb2.trans (hb3.mono hb2.size))
  have c3 := one_cell hx3
  have f3 := one_frozen hx3
  have hbr : br < w.heap.size := by
    rcases HL.out with h | ⟨b, off, e, hb, hc⟩
    · have : xs = [] := by simpa [intV] using h
      subst this
      simp at h1
    · injection e with e; injection e with e; subst e; exact hb
  have HN : Hid (∀ (j : Nat) (u : Value), (intV .u8 xs)[j]? = some u → (w3.alloc (.cells #[] 5)).cell? ((⟨br, offr, none⟩ : Addr).add j) = some u) := Lib.hid fun j u hu => by
    rcases HL.out with h | ⟨b, off, e, hb, hc⟩
    · rw [h] at hu; simp at hu
    · injection e with e; injection e with e e2; subst e; subst e2
      have h1 := hc j u hu
      rw [← HB3.out.cell (p := ⟨br, offr + j, none⟩) hbr, ← World.cell?_alloc_lt w3 (.cells #[] 5) ⟨br, offr + j, none⟩ (show br < w3.heap.size by have := HB3.out.size; omega)] at h1
      rw [← h1]
      simp [Addr.add]
      by_cases h0 : j = 0 <;> simp [h0]
  have l3 : w2.heap.size < w3.heap.size := by omega
  have HSZ3 := Lib.hid hsz3
  clear hsz3
  have n3 := ne_some (own_far ho3 hx3 (by decide))
  have n5 : (Value.slice Ao m.length co).ownBlock ≠ some w3.heap.size := fun e => by have := (ho3.lt _ e).2; omega
  have HO := Lib.hid ho3
  have HGA := Lib.hid (grown_of_below (((Below.refl w3.heap.size w3).drew).alloc (Nat.le_refl _) (.cells #[] 5)) (some w3.heap.size))
  clear ho ho3 hov hrw hb2 hb3 hx3 hw3 hcv c1
  go_upto_region 2 with fail
  rw [HW3.out]
  have HF0 := Lib.hid (World.ownsRow_made (base := w3.heap.size) (e := 5) (size := 1) w3.drew #[] 0 (Nat.le_refl _) (Nat.zero_le _) rfl)
  have h1v := one_intV xs
  have HV := Lib.hid h1v
  clear h1v
  have d3 : w3.drew.cell? ⟨w2.heap.size, 0, none⟩ = some (.slice Ao m.length co) := c3
  have df : w3.drew.frozen? ⟨w2.heap.size, 0, none⟩ = false := f3
  have l3d : w2.heap.size < w3.drew.heap.size := l3
  have t3 : (Value.slice (some ⟨w3.heap.size, 0, none⟩) 0 0).ownBlock ≠ some w2.heap.size := by simp [Value.ownBlock]; omega
  have N3 := Lib.hid n3
  have N5 := Lib.hid n5
  have T3 := Lib.hid t3
  clear n3 n5 t3
  have d3b : (w3.alloc (.cells #[] 5)).drew.cell? ⟨w2.heap.size, 0, none⟩ = some (.slice Ao m.length co) := cell_alloc c3 _
  go_region_law (first | (refine step_append_lies _ (by rfl) _ _ _ (by rfl) w3.heap.size 5 i1 _ 1 1 Try.underlying64 hi1 hy0 hy1 hy2 rfl (by decide) (.slice (some ⟨w3.heap.size, 0, none⟩) 0 0) 0 [] (by rfl) HF0.out ⟨br, offr, none⟩ xs.length lc (intV .u8 xs) (by rfl) (by rw [intV_len, Nat.mul_one]) HN.out HV.out (by omega) (by simp only [maxLen]; omega) (by omega) (by simp) (w3.heap.size + 1) (by simp) ?_; intro gg cap1 w4 hown1 hgrow1 hat1 hlt1; have e3 := cell_grown hgrow1 (cell_alloc d3 (.cells #[] 5)) T3.out; have ef := frozen_grown hgrow1 (frozen_alloc df l3d (.cells #[] 5)) (cell_lt (cell_alloc d3 _)) T3.out; have HO1 := Lib.hid (((World.ownsRow.alloc (w := w3.drew) HO.out (.cells #[] 5)).kept hgrow1 (.inr (by rw [show (Value.slice (some ⟨w3.heap.size, 0, none⟩) 0 0).ownBlock = some w3.heap.size from rfl]; exact N5.out))).alloc (.cells #[.slice (some ⟨gg, 0, none⟩) xs.length cap1] 64)); have HOW1 := Lib.hid hown1; have HGR1 := Lib.hid hgrow1; have e3b := cell_alloc e3 (.cells #[.slice (some ⟨gg, 0, none⟩) xs.length cap1] 64); clear hat1 hown1 hgrow1) | (refine step_append_lies _ (by rfl) _ _ _ (by rfl) w0.heap.size 64 i0 _ 1 24 Try.underlying22 hi0 hz0' hz1 hz2 rfl (by decide) (.slice Ao m.length co) m.length hd (by rfl) HO1.out ⟨w4.heap.size, 0, none⟩ 1 1 [.slice (some ⟨gg, 0, none⟩) xs.length cap1] (by rfl) (by rfl) (cell_one_new _ _ _) (by simp [Value.oneCell']) (by omega) (by simp only [maxLen]; omega) (by omega) (by have := HGR1.out.size; simp at this ⊢; omega) (w4.heap.size + 1) (by simp) ?_; intro gg2 cap2 w5 hown2 hgrow2 hat2 hlt2; have x3 := cell_grown hgrow2 (cell_alloc e3 (.cells #[.slice (some ⟨gg, 0, none⟩) xs.length cap1] 64)) N3.out; have xf := frozen_grown hgrow2 (frozen_alloc ef (cell_lt e3) (.cells #[.slice (some ⟨gg, 0, none⟩) xs.length cap1] 64)) (cell_lt (cell_alloc e3 (.cells #[.slice (some ⟨gg, 0, none⟩) xs.length cap1] 64))) N3.out; have HOW2 := Lib.hid hown2; have HGR2 := Lib.hid hgrow2; clear hat2 hown2 hgrow2))
  all_goals (
    have hq := snoc_step (wr := w3) (base := w0.heap.size) (b := w2.heap.size) HB03.out.size hs02 HX3.out HO.out HRr.out (by have hq := HOW1.out; rw [Nat.zero_add, List.nil_append] at hq; exact hq) (HGA.out.trans HGR1.out) (fun g e => by injection e with e; omega) HOW2.out HGR2.out
    obtain ⟨hbel, hbox, _, hom⟩ := hq
    have hb6 := hbel _ HB03.out
    clear hbel
    generalize w5.setCell ⟨w2.heap.size, 0, none⟩ (.slice (some ⟨gg2, 0, none⟩) (m.length + 1) cap2) = w6 at hbox hom hb6 ⊢
    have HB6 := Lib.hid (HB.out.trans (hb6.mono HB.out.size))
    have HMW6 := Lib.hid (HMW.out.below hb6)
    have HOM := Lib.hid hom
    have c1 := one_cell HMW6.out.mem
    have x6 := one_cell hbox
    have x6d : w6.drew.cell? ⟨w2.heap.size, 0, none⟩ = some (.slice (some ⟨gg2, 0, none⟩) (m.length + 1) cap2) := x6
    have c1d : w6.drew.cell? ⟨w.heap.size, 0, none⟩ = some (.slice A m.length c) := c1
    have r0 := one_cell HMW6.out.resM
    have rf := one_frozen HMW6.out.resM
    have hq4 := four_cells HMW6.out.resW
    obtain ⟨q0, q1, q2, q3⟩ := hq4
    have hf4 := oneM HMW6.out.resW
    obtain ⟨f0, f1, f2, f3'⟩ := hf4
    clear hom hbox hb6 x3 xf hlt1 hlt2 e3 ef e3b c3 f3 d3 d3b df l3d
    go_wp2_with fail
    go_region_held3 (fun W => W.cell? ⟨w2.heap.size, 0, none⟩ = some (.slice (some ⟨gg2, 0, none⟩) (m.length + 1) cap2) ∧ W.cell? ⟨w.heap.size, 0, none⟩ = some (.slice A m.length c))
      (first | (with_reducible exact ⟨x6d, c1d⟩) | (with_reducible exact ⟨kd1 x6 (by omega), kd1 c1 (by omega)⟩) | (with_reducible exact ⟨kd5 x6 (by omega) (by omega), kd5 c1 (by omega) (by omega)⟩) | (with_reducible exact ⟨kd4 x6 (by omega), kd4 c1 (by omega)⟩) | (trace_state; fail)) (fail)
    go_wp2_with fail
    refine bodyPost_ret (v := .tuple #[.agg #[.slice (some ⟨gg2, 0, none⟩) (m.length + 1) cap2], .agg #[.int .i64 m.length, .int .i64 0, .int .i64 nn, .int .i64 xs.length]]) (by simp [results, Try.results120, go_sem, r0, q0, q1, q2, q3]) rfl ⟨_, rfl, ?_, by (repeat (first | (with_reducible exact Below.refl _ _) | (with_reducible refine Below.drew ?_) | ((with_reducible refine Below.alloc ?_ ?hB _); case hB => (first | (with_reducible exact Nat.le_refl _) | omega | (simp; done) | (simp; omega))) | ((with_reducible refine Below.setCell ?_ ?hB _); case hB => (first | (with_reducible exact Nat.le_refl _) | omega | (simp; done) | (simp; omega))))); exact HB6.out⟩
    with_reducible exact own_fin5 HOM.out (by omega) (by omega) (by omega))
end Go.Proofs.Ytoelagfcapdfpaa
