/-
  ropeOf of impl; JoinRopes of impl.
-/
import Derived.Test.YtomebbapjolnlaaRpA
import Derived.Test.YtomebbapjolnlaaRpP
namespace Go.Proofs.Ytomebbapjolnlaa
open Go.RowKit

theorem keptR_len (L : List Win) : (keptR L).1.length ≤ 12 := by
  unfold keptR
  split
  · assumption
  · simp

set_option maxRecDepth 100000 in
theorem ropeOf_calls (d : Nat) (A : Option Addr) (c : Nat) (vs : List Value) (Ls : List (List Win)) (w : World) (F : List Win) (h : Br w w.heap.size d A vs Ls) (hF : Ls.flatten = F) (hn : F.length ≤ 900) :
    Calls Try.prog 88 #[.slice A vs.length c] w fun e w' => ∃ v, e = .returned (.tuple #[.agg #[v], .bool (keptR F).2]) ∧ OwnW w' w.heap.size w'.heap.size v (keptR F).1 ∧ Below w.heap.size w w' := by
  obtain ⟨w0, hw0⟩ : ∃ w0, w.alloc (.cells #[.slice none 0 0] 36) = w0 := ⟨_, rfl⟩
  have hb0 : Below w.heap.size w w0 := by rw [← hw0]; exact (Below.refl _ _).alloc (Nat.le_refl _) _
  have hg0 : w0.heap[w.heap.size]? = some (.cells #[.slice none 0 0] 36) := by rw [← hw0]; exact heap_alloc_new _ _
  obtain ⟨w1, hw1⟩ : ∃ w1, w0.alloc (.cells #[] 90) = w1 := ⟨_, rfl⟩
  have hb1 : Below w0.heap.size w0 w1 := by rw [← hw1]; exact (Below.refl _ _).alloc (Nat.le_refl _) _
  have ho1 : OwnW w1 w0.heap.size w1.heap.size (.slice (some ⟨w0.heap.size, 0, none⟩) 0 0) [] :=
    ⟨[], OwnS.new (by rw [← hw1]; exact World.ownsRow_made (base := w0.heap.size) (e := 90) (size := 4) w0 #[] 0 (Nat.le_refl _) (Nat.zero_le _) rfl), fun i x h => by simp at h⟩
  have HC := Lib.hid (braidAddTo_calls d A c vs Ls w0.heap.size _ [] w1 (((h.below hb0).more hb0.size).below hb1) ho1 hb1.size (by rw [hF, List.length_nil]; omega))
  rw [List.nil_append, hF] at HC
  have HB := Lib.hid hb0
  have HB1 := Lib.hid hb1
  have HW := Lib.hid hw0
  have HW1 := Lib.hid hw1
  have HG := Lib.hid hg0
  have hlt : w.heap.size < w0.heap.size := (Array.getElem?_eq_some_iff.1 hg0).1
  clear h hb0 hb1 ho1 hw0 hw1 hg0 hF
  go_enter Try.func88, Try.ntmps88
  go_upto_region 1 with fail
  rw [HW.out]
  go_wp2_with fail
  rw [HW1.out]
  refine HC.out.mono ?_
  rintro e w2 ⟨v2, rfl, ho2, hb2⟩
  obtain ⟨A2, c2, rfl⟩ := ho2.form
  have hb02 := HB1.out.trans hb2
  have hg2 := (hb02.block _ hlt).trans HG.out
  have HB2 := Lib.hid (HB.out.trans (hb02.mono HB.out.size))
  have HO2 := Lib.hid ho2
  have HL2 := Lib.hid hb02.size
  have HG2 := Lib.hid hg2
  have f0 := one_frozen hg2
  have q0 := one_cell hg2
  clear hb2 ho2 hb02 hg2
  by_cases h12 : F.length ≤ 12
  · have HK := Lib.hid (show keptR F = (F, true) from if_pos h12)
    have c3 := one_cell (one_set (v := .slice A2 F.length c2) HG2.out)
    go_wp2_with fail
    refine bodyPost_ret (v := .tuple #[.agg #[.slice A2 F.length c2], .bool true]) (by simp [results, Try.results88, go_sem, c3]) rfl ⟨_, by rw [HK.out], ?_, ?_⟩
    · rw [HK.out, World.size_setCell]
      exact (HO2.out.span (l2 := w.heap.size) (h2 := w0.heap.size) ((Span.refl _ _ _).setCell (p := ⟨w.heap.size, 0, none⟩) (Nat.le_refl _) hlt _) (.inr (Nat.le_refl _))).mono HB.out.size (Nat.le_refl _)
    · exact HB2.out.setCell (p := ⟨w.heap.size, 0, none⟩) (Nat.le_refl _) _
  · have HK := Lib.hid (show keptR F = ([], false) from if_neg h12)
    have h13 : 12 < F.length := by omega
    have c3 := one_cell (one_set (v := .slice none 0 0) HG2.out)
    clear h12
    go_wp2_with fail
    refine bodyPost_ret (v := .tuple #[.agg #[.slice none 0 0], .bool false]) (by simp [results, Try.results88, go_sem, c3]) rfl ⟨_, by rw [HK.out], ?_, ?_⟩
    · rw [HK.out]
      exact ownW_nil _ _ _
    · exact HB2.out.setCell (p := ⟨w.heap.size, 0, none⟩) (Nat.le_refl _) _
end Go.Proofs.Ytomebbapjolnlaa
