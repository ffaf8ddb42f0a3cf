/-
  The model's copies: l2Own of spec.
-/
import Derived.Test.YtoelagfcapdfpaaOwnStep
import Derived.Deep.RegionLaw
namespace Go.Proofs.Ytoelagfcapdfpaa
open Go.RowKit

set_option maxRecDepth 100000 in
set_option maxHeartbeats 3200000 in
theorem specOwn_calls (A : Option Addr) (c : Nat) (m : List (List Int)) (w : World) (hr : Rd2 w w.heap.size A m) (hok : MemOK m) :
    Calls Try.prog 127 #[.agg #[.slice A m.length c]] w fun e w' => ∃ v, e = .returned (.agg #[v]) ∧ OwnM w' w.heap.size w'.heap.size v m ∧ Below w.heap.size w w' := by
  obtain ⟨hn, hrows⟩ := hok
  obtain ⟨i0, hi0, hz0, hz1, hz2⟩ := info_parts info_u8s
  obtain ⟨i1, hi1, hy0, hy1, hy2⟩ := info_parts info_u8
  have HR := Lib.hid hr
  have HRW := Lib.hid hrows
  clear hr hrows
  go_enter Try.func127, Try.ntmps127
  go_wp2_with fail
  obtain ⟨w0, hw0⟩ : ∃ w0, (((w.alloc (.cells #[.slice A m.length c] 31)).alloc (.cells #[.slice none 0 0] 31)).alloc (.cells #[] 64)).alloc (.cells #[.slice (some ⟨w.heap.size + 1 + 1, 0, none⟩) 0 0] 31) = w0 := ⟨_, rfl⟩
  have hb0 : Below w.heap.size w w0 := by rw [← hw0]; (repeat (first | (with_reducible exact Below.refl _ _) | (with_reducible refine Below.drew ?_) | ((with_reducible refine Below.alloc ?_ ?hB _); case hB => (first | (with_reducible exact Nat.le_refl _) | omega | (simp; done) | (simp; omega))) | ((with_reducible refine Below.setCell ?_ ?hB _); case hB => (first | (with_reducible exact Nat.le_refl _) | omega | (simp; done) | (simp; omega)))))
  have k1 : w0.heap[w.heap.size]? = some (.cells #[.slice A m.length c] 31) := by rw [← hw0]; exact alloc_old _ (alloc_old _ (alloc_old _ (heap_alloc_new _ _)))
  have k2 : w0.heap[w.heap.size + 1]? = some (.cells #[.slice none 0 0] 31) := by rw [← hw0]; exact alloc_old _ (alloc_old _ (by simpa using heap_alloc_new (w.alloc _) _))
  have k3 : w0.heap[w.heap.size + 1 + 1 + 1]? = some (.cells #[.slice (some ⟨w.heap.size + 1 + 1, 0, none⟩) 0 0] 31) := by rw [← hw0]; simpa using heap_alloc_new (((w.alloc _).alloc _).alloc _) _
  have ko : w0.ownsRow w.heap.size 64 1 (.slice (some ⟨w.heap.size + 1 + 1, 0, none⟩) 0 0) 0 [] := by
    rw [← hw0]
    have := World.ownsRow_made (base := w.heap.size) (e := 64) (size := 1) ((w.alloc (.cells #[.slice A m.length c] 31)).alloc (.cells #[.slice none 0 0] 31)) #[] 0 (by simp; omega) (Nat.zero_le _) rfl
    simpa using this.alloc _
  rw [hw0]
  have HK := Lib.hid (show Below w.heap.size w w0 ∧ _ ∧ _ ∧ _ ∧ _ from ⟨hb0, k1, k2, k3, ko⟩)
  clear hw0 hb0 k1 k2 k3 ko
  go_loopw [4] (fun i wr => ∃ (k : Nat) (hd : List Value) (ov : Value), k ≤ m.length ∧ i = .int .i64 k ∧ Below w.heap.size w wr ∧
      wr.heap[w.heap.size]? = some (.cells #[.slice A m.length c] 31) ∧ wr.heap[w.heap.size + 1]? = some (.cells #[.slice none 0 0] 31) ∧ wr.heap[w.heap.size + 1 + 1 + 1]? = some (.cells #[ov] 31) ∧
      wr.ownsRow w.heap.size 64 1 ov k hd ∧ Rows wr w.heap.size wr.heap.size hd (m.take k)) (fun i _ => m.length - (intOf i).toNat)
  case atStart => exact ⟨0, [], _, Nat.zero_le _, rfl, HK.out.1, HK.out.2.1, HK.out.2.2.1, HK.out.2.2.2.1, HK.out.2.2.2.2, by simpa using Rows.none_ _ _ _⟩
  case round =>
    obtain ⟨k, hd, ov, hk, rfl, hb, g1, g2, g3, ho, hrw⟩ := hrel
    have c1 := one_cell g1
    have c3 := one_cell g3
    have f3 := one_frozen g3
    obtain ⟨Ao, co, rfl⟩ := own_form ho
    by_cases hlt : k < m.length
    · obtain ⟨b, off, Ai, ci, rfl, hbb, hc, hci, hcm, hri⟩ := (HR.out.below hb).at_ hlt
      obtain ⟨hr1, hr2⟩ := HRW.out m[k] (List.getElem_mem hlt)
      rcases hri with hnil | ⟨br, offr, rfl, hbr, hcell⟩
      · exfalso; have := congrArg List.length hnil; rw [intV_len, List.length_nil] at this; omega
      have l1 : w.heap.size < wr.heap.size := (Array.getElem?_eq_some_iff.1 g1).1
      have l3 : w.heap.size + 1 + 1 + 1 < wr.heap.size := (Array.getElem?_eq_some_iff.1 g3).1
      have n1 := ne_some (own_far ho g1 (by decide))
      have n3 := ne_some (own_far ho g3 (by decide))
      have n4 : (Value.slice Ao k co).ownBlock ≠ some b := fun e => by have := (ho.lt b e).1; omega
      have n5 : (Value.slice Ao k co).ownBlock ≠ some wr.heap.size := fun e => by have := (ho.lt _ e).2; omega
      have HN : Hid (∀ (j : Nat) (u : Value), (intV .u8 m[k])[j]? = some u → (wr.alloc (.cells #[] 5)).cell? ((⟨br, offr, none⟩ : Addr).add j) = some u) := Lib.hid fun j u hu => by
        have h1 := hcell j u hu
        rw [← World.cell?_alloc_lt wr (.cells #[] 5) ⟨br, offr + j, none⟩ (show br < wr.heap.size by omega)] at h1
        rw [← h1]
        simp [Addr.add]
        by_cases h0 : j = 0 <;> simp [h0]
      have HO := Lib.hid ho
      have HB := Lib.hid hb
      have HRr := Lib.hid hrw
      have HG := Lib.hid (And.intro g1 (And.intro g2 g3))
      clear hcell ho hb hrw g1 g2 g3
      go_upto_region 5 with fail
      have HF0 := Lib.hid (World.ownsRow_made (base := wr.heap.size) (e := 5) (size := 1) wr.drew #[] 0 (Nat.le_refl _) (Nat.zero_le _) rfl)
      have h1v := one_intV m[k]
      have HV := Lib.hid h1v
      clear h1v
      have d1 : wr.drew.cell? ⟨w.heap.size, 0, none⟩ = some (.slice (some ⟨b, off, none⟩) m.length c) := c1
      have d3 : wr.drew.cell? ⟨w.heap.size + 1 + 1 + 1, 0, none⟩ = some (.slice Ao k co) := c3
      have dc : wr.drew.cell? ⟨b, off + k, none⟩ = some (.slice (some ⟨br, offr, none⟩) m[k].length ci) := hc
      have df : wr.drew.frozen? ⟨w.heap.size + 1 + 1 + 1, 0, none⟩ = false := f3
      have l3d : w.heap.size + 1 + 1 + 1 < wr.drew.heap.size := l3
      have t1 : (Value.slice (some ⟨wr.heap.size, 0, none⟩) 0 0).ownBlock ≠ some w.heap.size := by simp [Value.ownBlock]; omega
      have t3 : (Value.slice (some ⟨wr.heap.size, 0, none⟩) 0 0).ownBlock ≠ some (w.heap.size + 1 + 1 + 1) := by simp [Value.ownBlock]; omega
      have tb : (Value.slice (some ⟨wr.heap.size, 0, none⟩) 0 0).ownBlock ≠ some b := by simp [Value.ownBlock]; omega
      have N1 := Lib.hid n1
      have N3 := Lib.hid n3
      have N4 := Lib.hid n4
      have N5 := Lib.hid n5
      have T1 := Lib.hid t1
      have T3 := Lib.hid t3
      have TB := Lib.hid tb
      clear n1 n3 n4 n5 t1 t3 tb
      have d3b : (wr.alloc (.cells #[] 5)).drew.cell? ⟨w.heap.size + 1 + 1 + 1, 0, none⟩ = some (.slice Ao k co) := cell_alloc c3 _
      have m1 : w.heap.size ≠ w.heap.size + 1 + 1 + 1 := by omega
      have hbk : b ≠ w.heap.size + 1 + 1 + 1 := by omega
      have d1b : (wr.alloc (.cells #[] 5)).drew.cell? ⟨w.heap.size, 0, none⟩ = some (.slice (some ⟨b, off, none⟩) m.length c) := cell_alloc c1 _
      have dcb : (wr.alloc (.cells #[] 5)).drew.cell? ⟨b, off + k, none⟩ = some (.slice (some ⟨br, offr, none⟩) m[k].length ci) := cell_alloc hc _
      go_region_law (first | (refine step_append_lies _ (by rfl) _ _ _ (by rfl) wr.heap.size 5 i1 _ 1 1 Try.underlying64 hi1 hy0 hy1 hy2 rfl (by decide) (.slice (some ⟨wr.heap.size, 0, none⟩) 0 0) 0 [] (by rfl) HF0.out ⟨br, offr, none⟩ m[k].length ci (intV .u8 m[k]) (by rfl) (by rw [intV_len, Nat.mul_one]) HN.out HV.out (by omega) (by simp only [maxLen]; omega) (by omega) (by simp) (wr.heap.size + 1) (by simp) ?_; intro gg cap1 w1 hown1 hgrow1 hat1 hlt1; have e1 := cell_grown hgrow1 (cell_alloc d1 (.cells #[] 5)) T1.out; have e3 := cell_grown hgrow1 (cell_alloc d3 (.cells #[] 5)) T3.out; have ec := cell_grown hgrow1 (cell_alloc dc (.cells #[] 5)) TB.out; have ef := frozen_grown hgrow1 (frozen_alloc df l3d (.cells #[] 5)) (cell_lt (cell_alloc d3 _)) T3.out; have HO1 := Lib.hid (((World.ownsRow.alloc (w := wr.drew) HO.out (.cells #[] 5)).kept hgrow1 (.inr (by rw [show (Value.slice (some ⟨wr.heap.size, 0, none⟩) 0 0).ownBlock = some wr.heap.size from rfl]; exact N5.out))).alloc (.cells #[.slice (some ⟨gg, 0, none⟩) m[k].length cap1] 64)); have HOW1 := Lib.hid hown1; have HGR1 := Lib.hid hgrow1; have e1b := cell_alloc e1 (.cells #[.slice (some ⟨gg, 0, none⟩) m[k].length cap1] 64); have e3b := cell_alloc e3 (.cells #[.slice (some ⟨gg, 0, none⟩) m[k].length cap1] 64); clear hat1 hown1 hgrow1) | (refine step_append_lies _ (by rfl) _ _ _ (by rfl) w.heap.size 64 i0 _ 1 24 Try.underlying22 hi0 hz0 hz1 hz2 rfl (by decide) (.slice Ao k co) k hd (by rfl) HO1.out ⟨w1.heap.size, 0, none⟩ 1 1 [.slice (some ⟨gg, 0, none⟩) m[k].length cap1] (by rfl) (by rfl) (cell_one_new _ _ _) (by simp [Value.oneCell']) (by omega) (by simp only [maxLen]; omega) (by omega) (by have := HGR1.out.size; simp at this ⊢; omega) (w1.heap.size + 1) (by simp) ?_; intro gg2 cap2 w2 hown2 hgrow2 hat2 hlt2; have x1 := cell_grown hgrow2 (cell_alloc e1 (.cells #[.slice (some ⟨gg, 0, none⟩) m[k].length cap1] 64)) N1.out; have x3 := cell_grown hgrow2 (cell_alloc e3 (.cells #[.slice (some ⟨gg, 0, none⟩) m[k].length cap1] 64)) N3.out; have xc := cell_grown hgrow2 (cell_alloc ec (.cells #[.slice (some ⟨gg, 0, none⟩) m[k].length cap1] 64)) N4.out; have xf := frozen_grown hgrow2 (frozen_alloc ef (cell_lt e3) (.cells #[.slice (some ⟨gg, 0, none⟩) m[k].length cap1] 64)) (cell_lt (cell_alloc e3 (.cells #[.slice (some ⟨gg, 0, none⟩) m[k].length cap1] 64))) N3.out; have HOW2 := Lib.hid hown2; have HGR2 := Lib.hid hgrow2; clear hat2 hown2 hgrow2))
      all_goals (go_wp2_with fail; go_roundw; (case rel => (obtain ⟨hd', ov', hq⟩ := own_step hlt HB.out HG.out.1 HG.out.2.1 HG.out.2.2 HO.out HRr.out (by have hq := HOW1.out; rw [Nat.zero_add, List.nil_append] at hq; exact hq) HGR1.out HOW2.out HGR2.out; exact ⟨k + 1, hd', ov', by omega, by go_num, hq⟩)); (case measure => simp [intOf]; omega))
    · obtain rfl : k = m.length := by omega
      have l2 : w.heap.size + 1 < wr.heap.size := (Array.getElem?_eq_some_iff.1 g2).1
      have c2 := one_cell g2
      have f2 := one_frozen g2
      have HO := Lib.hid ho
      have HB := Lib.hid hb
      have HRr := Lib.hid hrw
      have HG2 := Lib.hid g2
      clear ho hb hrw
      go_wp2_with fail
      refine bodyPost_ret (v := .agg #[.slice Ao m.length co]) (by simp [results, Try.results127, go_sem, c2]) rfl ⟨_, rfl, ?_, by (repeat (first | (with_reducible exact Below.refl _ _) | (with_reducible refine Below.drew ?_) | ((with_reducible refine Below.alloc ?_ ?hB _); case hB => (first | (with_reducible exact Nat.le_refl _) | omega | (simp; done) | (simp; omega))) | ((with_reducible refine Below.setCell ?_ ?hB _); case hB => (first | (with_reducible exact Nat.le_refl _) | omega | (simp; done) | (simp; omega))))); exact HB.out⟩
      have hr := HRr.out
      rw [List.take_length] at hr
      have hl := hr.len
      have hne := ne_some (own_far HO.out HG2.out (by decide))
      have hr2 := hr.of_grown (grown_setCell wr (w.heap.size + 1) (.slice Ao m.length co)) (fun g e => by
        injection e with e
        subst e
        exact .inr ⟨_, HG2.out, fun cs h => by injection h with _ h; exact absurd h (by decide)⟩)
      have ho2 := HO.out.kept (grown_setCell wr (w.heap.size + 1) (.slice Ao m.length co)) (.inr hne)
      rw [World.size_setCell]
      exact hr2.own ⟨by rw [hl]; exact ho2, fun g e => (HO.out.lt g e).2⟩
end Go.Proofs.Ytoelagfcapdfpaa
