/-
  The program's copies: copyMemory of impl.
-/
import Derived.Test.YtoelagfcapdfpaaOwnStep
import Derived.Test.YtoelagfcapdfpaaShelf
namespace Go.Proofs.Ytoelagfcapdfpaa
open Go.RowKit

theorem clone_calls (A : Option Addr) (c : Nat) (zs : List Int) (w : World) (hr : Rd w w.heap.size A (intV .u8 zs)) (h1 : 1 ≤ zs.length) (hn : zs.length ≤ 1000) :
    Calls Try.prog 133 #[.slice A zs.length c] w fun e w' => ∃ v, e = .returned v ∧ w'.ownsRow w.heap.size 5 1 v zs.length (intV .u8 zs) ∧ Below w.heap.size w w' := by
  obtain ⟨b, off, rfl, hb, hc⟩ := hr.int (i := 0) h1
  refine (Try.bytes_Clone_at ⟨b, off, none⟩ zs.length c zs w rfl (by omega) (fun i hi => ?_)).mono ?_
  · obtain ⟨b2, off2, e2, hb2, hc2⟩ := hr.int (i := i) hi
    injection e2 with e2; injection e2 with e2 e3; subst e2; subst e3
    rw [List.getD_eq_getElem?_getD, List.getElem?_eq_getElem hi]
    rw [show (some zs[i]).getD 0 = zs[i] from rfl, ← hc2]
    simp [Addr.add]
    by_cases h0 : i = 0 <;> simp [h0]
  · rintro e w' ⟨v, rfl, ho, _, hbw⟩
    exact ⟨v, rfl, ho, hbw⟩

set_option maxRecDepth 100000 in
set_option maxHeartbeats 1600000 in
theorem copyMemory_calls (A : Option Addr) (c : Nat) (m : List (List Int)) (w : World) (hr : Rd2 w w.heap.size A m) (hok : MemOK m) :
    Calls Try.prog 128 #[.agg #[.slice A m.length c]] w fun e w' => ∃ v, e = .returned (.agg #[v]) ∧ OwnM w' w.heap.size w'.heap.size v m ∧ Below w.heap.size w w' := by
  obtain ⟨hn, hs⟩ := hok
  obtain ⟨hb0, g1, g2, hz0⟩ := enter2 w (.cells #[.slice A m.length c] 31) (.cells #[.slice none 0 0] 31)
  obtain ⟨w0, hw0⟩ : ∃ w0, (w.alloc (.cells #[.slice A m.length c] 31)).alloc (.cells #[.slice none 0 0] 31) = w0 := ⟨_, rfl⟩
  rw [hw0] at hb0 g1 g2 hz0
  obtain ⟨i0, hi0, hz, hz1, hz2⟩ := info_parts info_u8s
  obtain ⟨w1, hrun, hown, hg⟩ := run_make_full (P := Try.prog) w0 w0.heap.size 22 64 i0 _ 1 Try.underlying22 hi0 hz hz1 .i64 .i64 m.length (by rw [hz2]; omega) (by simp only [maxLen]; omega) (Nat.le_refl _)
  have hb1 : Below w0.heap.size w0 w1 := (Below.refl _ _).grown hg (Nat.le_refl _) (by simp)
  have hlt1 : w0.heap.size + 1 ≤ w1.heap.size := by
    rcases hown.2 with ⟨hv, _⟩ | ⟨g, cap, cur, hv, _, hh, _⟩
    · cases hv
    · injection hv with hv; injection hv with hv; injection hv with hv; subst hv; exact (Array.getElem?_eq_some_iff.1 hh).1
  rw [show (madeCells (Value.slice none 0 0).cells (m.length * 1)).toList = List.replicate m.length (.slice none 0 0) by rw [Nat.mul_one]; exact toList_madeCells_one _ _] at hown
  have k1 := (hb1.block _ (Array.getElem?_eq_some_iff.1 g1).1).trans g1
  have k2 := (hb1.block _ (Array.getElem?_eq_some_iff.1 g2).1).trans g2
  have hs0 : w0.heap.size = w.heap.size + 1 + 1 := by omega
  rw [hs0] at hown hrun
  have HO := Lib.hid hown
  have HB0 := Lib.hid (hb0.trans (hb1.mono hb0.size))
  have hr0 := Lib.hid hr
  have HS := Lib.hid hs
  have HK := Lib.hid (And.intro k1 k2)
  have HL := Lib.hid (show w.heap.size + 1 + 1 + 1 ≤ w1.heap.size by omega)
  have HS0 := Lib.hid hs0
  have c1 := one_cell k1
  rw [← hw0] at hrun
  clear hw0 hr hs hown hb1 hb0 k1 k2 g1 g2 hz0 hlt1 hg hs0
  go_enter Try.func128, Try.ntmps128
  go_wp2_with fail
  clear hrun
  go_loopw [13] (fun i wr => ∃ (k : Nat) (hd : List Value), k ≤ m.length ∧ i = .int .i64 k ∧ w.heap.size + 1 + 1 + 1 ≤ wr.heap.size ∧ wr.ownsRow (w.heap.size + 1 + 1) 64 1 (.slice (some ⟨w.heap.size + 1 + 1, 0, none⟩) m.length m.length) m.length (hd ++ List.replicate (m.length - k) (.slice none 0 0)) ∧ Rows wr (w.heap.size + 1 + 1 + 1) wr.heap.size hd (m.take k) ∧ Below w.heap.size w wr ∧ wr.heap[w.heap.size + 1]? = some (.cells #[.slice none 0 0] 31))
    (fun i _ => m.length - (intOf i).toNat)
  case atStart => exact ⟨0, [], Nat.zero_le _, rfl, HL.out, by simpa using HO.out, by simpa using Rows.none_ _ _ _, HB0.out, HK.out.2⟩
  case round =>
    obtain ⟨k, hd, hk, rfl, hsz, ho, hrw, hb, hres⟩ := hrel
    have HR := Lib.hid hrw
    have HRES := Lib.hid hres
    have hdl : hd.length = k := by have := hrw.len; rw [List.length_take] at this; omega
    clear hrw hres
    by_cases hlt : k < m.length
    · obtain ⟨b, off, Ai, ci, rfl, hbb, hc, hci, hcm, hri⟩ := ((hr0.out).below hb).at_ hlt
      have hf := ho.frozenAt k
      have hd0 : wr.cell? ⟨w.heap.size + 1 + 1, k, none⟩ = some (.slice none 0 0) := by
        rw [ho.cellAt k (by omega), List.getElem?_append_right (by omega), List.getElem?_replicate, if_pos (by omega)]
      obtain ⟨hr1, hr2⟩ := HS.out m[k] (List.getElem_mem hlt)
      have HC := Lib.hid (clone_calls Ai ci m[k] wr (hri.more hb.size) hr1 (by omega))
      have HO2 := Lib.hid ho
      have HB := Lib.hid hb
      clear ho hb hri
      go_wp2_with fail
      refine HC.out.mono ?_
      rintro e w2 ⟨v, rfl, hv, hb2⟩
      obtain ⟨Av, cv, rfl⟩ := own_form hv
      have ho3 := own_below HO2.out hb2
      have hf3 := ho3.frozenAt k
      have hd3 : w2.cell? ⟨w.heap.size + 1 + 1, k, none⟩ = some (.slice none 0 0) := by
        rw [ho3.cellAt k (by omega), List.getElem?_append_right (by omega), List.getElem?_replicate, if_pos (by omega)]
      have hst := ho3.stored k (.slice Av m[k].length cv)
      rw [fill_step hd _ _ hlt hdl] at hst
      have hsp : Span (w.heap.size + 1 + 1) (w.heap.size + 1 + 1 + 1) w2 (w2.setCell ⟨w.heap.size + 1 + 1, k, none⟩ (.slice Av m[k].length cv)) := Span.of_grown hst.2 (fun g e => by simp at e; omega)
      have hnew : OwnR w2 wr.heap.size w2.heap.size 5 (.slice Av m[k].length cv) (intV .u8 m[k]) := OwnR.new (by rw [intV_len]; exact hv)
      have HRN := Lib.hid (((HR.out.below hb2).snoc hnew hsz hb2.size).span hsp (.inr (Nat.le_refl _)))
      have HON := Lib.hid hst.1
      have HBN := Lib.hid ((HB.out.trans (hb2.mono HB.out.size)).setCell (p := ⟨w.heap.size + 1 + 1, k, none⟩) (by simp; omega) (.slice Av m[k].length cv))
      have hs2 := hb2.size
      have hl1 := (Array.getElem?_eq_some_iff.1 HRES.out).1
      have HRES2 := Lib.hid ((Below.heap_setCell w2 ⟨w.heap.size + 1 + 1, k, none⟩ (.slice Av m[k].length cv) (w.heap.size + 1) (by simp)).trans ((hb2.block _ hl1).trans HRES.out))
      have HSZ := Lib.hid (show (w2.setCell ⟨w.heap.size + 1 + 1, k, none⟩ (.slice Av m[k].length cv)).heap.size = w2.heap.size from World.size_setCell _ _ _)
      clear hst hsp hnew hb2 hv ho3 hl1
      go_wp2_with fail
      go_roundw
      case rel => exact ⟨k + 1, hd ++ [.slice Av m[k].length cv], by omega, by go_num, by rw [HSZ.out]; omega, HON.out, by rw [List.take_succ_eq_append_getElem hlt, HSZ.out]; exact HRN.out, HBN.out, HRES2.out⟩
      case measure => simp [intOf]; omega
    · have he : k = m.length := by omega
      subst he
      have c2 := one_cell HRES.out
      have f2 := one_frozen HRES.out
      have HO2 := Lib.hid ho
      have HB := Lib.hid hb
      clear ho hb
      go_wp2_with fail
      refine bodyPost_ret (v := .agg #[.slice (some ⟨w.heap.size + 1 + 1, 0, none⟩) m.length m.length]) (by simp [results, Try.results128, go_sem, c2]) rfl ⟨_, rfl, ?_, by (repeat (first | (with_reducible exact Below.refl _ _) | (with_reducible refine Below.drew ?_) | ((with_reducible refine Below.alloc ?_ ?hB _); case hB => (first | (with_reducible exact Nat.le_refl _) | omega | (simp; done) | (simp; omega))) | ((with_reducible refine Below.setCell ?_ ?hB _); case hB => (first | (with_reducible exact Nat.le_refl _) | omega | (simp; done) | (simp; omega))))); exact HB.out⟩
      have h1 := HO2.out
      rw [Nat.sub_self, List.replicate_zero, List.append_nil] at h1
      have h2 := HR.out
      rw [List.take_length] at h2
      rw [World.size_setCell]
      have h3 : OwnM wr (w.heap.size + 1 + 1) wr.heap.size (.slice (some ⟨w.heap.size + 1 + 1, 0, none⟩) m.length m.length) m := (h2.mono (Nat.le_succ _) (Nat.le_refl _)).own ⟨by rw [hdl]; exact h1, fun g e => by simp [Value.ownBlock] at e; omega⟩
      exact (own_setCell h3 (.inl (by omega))).mono (by omega) (Nat.le_refl _)
end Go.Proofs.Ytoelagfcapdfpaa
