/-
  JoinRopes of spec and impl.
-/
import Derived.Test.YtomebbapjolnlaaRpD
import Derived.Deep.DeepCutAuto
namespace Go.Proofs.Ytomebbapjolnlaa
open Go.RowKit

theorem enterMPPR (A : Option Addr) (n c : Nat) (B : Option Addr) (l k : Nat) (B2 : Option Addr) (l2 k2 : Nat) (w : World) :
    ∃ w0, (((w.alloc (.cells #[.slice A n c] 32)).alloc (.cells #[.slice B l k] 36)).alloc (.cells #[.slice B2 l2 k2] 36)).alloc (.cells #[.slice none 0 0] 36) = w0 ∧ Below w.heap.size w w0 ∧ MPP w0 w.heap.size A n c B l k B2 l2 k2 ∧ w0.heap[w.heap.size + 1 + 1 + 1]? = some (.cells #[.slice none 0 0] 36) ∧ w0.heap.size = w.heap.size + 4 := by
  obtain ⟨wx, rfl, hb, hg⟩ := enterMPP A n c B l k B2 l2 k2 w
  have h2 : Below _ _ _ := (Below.refl (((w.alloc (.cells #[.slice A n c] 32)).alloc (.cells #[.slice B l k] 36)).alloc (.cells #[.slice B2 l2 k2] 36)).heap.size _).alloc (Nat.le_refl _) (.cells #[.slice none 0 0] 36)
  exact ⟨_, rfl, hb.trans (h2.mono hb.size), hg.below h2, by simpa using heap_alloc_new (((w.alloc (.cells #[.slice A n c] 32)).alloc (.cells #[.slice B l k] 36)).alloc (.cells #[.slice B2 l2 k2] 36)) (.cells #[.slice none 0 0] 36), by simp⟩
/-- A variable that holds the answer: what stands in it behind a store. -/
theorem ropeVar {W0 W : World} {g : Nat} {u : Value} (hg : W0.heap[g]? = some (.cells #[u] 36)) (hb : Below W0.heap.size W0 W) : W.cell? ⟨g, 0, none⟩ = some u ∧ W.frozen? ⟨g, 0, none⟩ = false ∧ ∀ v, (W.setCell ⟨g, 0, none⟩ v).cell? ⟨g, 0, none⟩ = some v := by
  have h := (hb.block _ (Array.getElem?_eq_some_iff.1 hg).1).trans hg
  exact ⟨one_cell h, one_frozen h, fun v => one_cell (one_set (v := v) h)⟩
theorem keptV_form (A : Option Addr) (L : List Win) (c : Nat) : ∃ A' c', keptV A L c = .slice A' (keptR L).1.length c' := by
  unfold keptV keptR
  split
  · exact ⟨_, _, rfl⟩
  · exact ⟨none, 0, rfl⟩
/-- A row of windows is left as it is by a store into the answer. -/
theorem ownW_set {W : World} {lo hi g : Nat} {v u : Value} {L : List Win} (h : OwnW W lo hi v L) (hg : g < lo) : OwnW (W.setCell ⟨g, 0, none⟩ u) lo hi v L :=
  h.span (l2 := g) (h2 := lo) ((Span.refl _ _ _).setCell (p := ⟨g, 0, none⟩) (Nat.le_refl _) hg _) (.inr (Nat.le_refl _))

theorem joinR_small (m : List (List Int)) (L Q : List Win) : (joinR m L Q).1.length ≤ 1048576 := by
  unfold joinR
  split
  · have := keptR_len (L ++ Q); omega
  · simp
set_option maxRecDepth 100000 in
set_option maxHeartbeats 800000 in
theorem specJoinRopes_calls (A : Option Addr) (c : Nat) (m : List (List Int)) (B : Option Addr) (k : Nat) (L : List Win) (B2 : Option Addr) (k2 : Nat) (Q : List Win) (w : World) (hr : Rd2 w w.heap.size A m) (hn : m.length ≤ maxLen) (hx : RdW w w.heap.size B L) (hl : L.length ≤ maxLen) (hx2 : RdW w w.heap.size B2 Q) (hl2 : Q.length ≤ maxLen) :
    Calls Try.prog 37 #[.agg #[.slice A m.length c], .agg #[.slice B L.length k], .agg #[.slice B2 Q.length k2]] w fun e w' => ∃ v, e = .returned (.tuple #[.agg #[v], .bool (joinR m L Q).2]) ∧ OwnW w' w.heap.size w'.heap.size v (joinR m L Q).1 ∧ Below w.heap.size w w' := by
  obtain ⟨w0, hw0, hb0, hg0, hr0, hz0⟩ := enterMPPR A m.length c B L.length k B2 Q.length k2 w
  have HC := Lib.hid (specRope_calls A c m B k L w0 ((hr.below hb0).more hb0.size) hn ((hx.below hb0).more hb0.size) hl)
  have HC2 := Lib.hid (fun W (hb : Below w0.heap.size w0 W) => specRope_calls A c m B2 k2 Q W ((hr.below (hb0.trans (hb.mono hb0.size))).more (Nat.le_trans hb0.size hb.size)) hn ((hx2.below (hb0.trans (hb.mono hb0.size))).more (Nat.le_trans hb0.size hb.size)) hl2)
  have HX := Lib.hid (hx.below hb0)
  have HX2 := Lib.hid (hx2.below hb0)
  have HB := Lib.hid hb0
  have HW := Lib.hid hw0
  have HG := Lib.hid hg0
  have HRV := Lib.hid (fun W (hb : Below w0.heap.size w0 W) => ropeVar hr0 hb)
  have HZ := Lib.hid hz0
  have c0 := hg0.cm
  have c1 := hg0.cp
  have c2 := hg0.cq
  clear hr hx hx2 hb0 hw0 hg0 hr0 hz0
  go_enter Try.func37, Try.ntmps37
  go_upto_region 1 with fail
  rw [HW.out]
  go_wp2_with fail
  refine HC.out.mono ?_
  rintro e w2 ⟨rfl, hb2⟩
  have HB2 := Lib.hid hb2
  clear hb2 c0 c1 c2
  have c0 := (HG.out.below HB2.out).cm
  have c2 := (HG.out.below HB2.out).cq
  by_cases hw : Watched m L
  · rw [show decide (Watched m L) = true from decide_eq_true hw]
    go_wp2_with fail
    refine (HC2.out w2 HB2.out).mono ?_
    rintro e w3 ⟨rfl, hb3⟩
    have HB3 := Lib.hid (HB2.out.trans (hb3.mono HB2.out.size))
    clear hb3 c0 c2
    obtain ⟨r0, r1, r2⟩ := HRV.out w3 HB3.out
    have c1 := (HG.out.below HB3.out).cp
    have c2 := (HG.out.below HB3.out).cq
    by_cases hw2 : Watched m Q
    · rw [show decide (Watched m Q) = true from decide_eq_true hw2]
      have HV : Hid (joinR m L Q = keptR (L ++ Q)) := Lib.hid (if_pos ⟨hw, hw2⟩)
      have h12 := hw.2.1
      have hq12 := hw2.2.1
      have HJ := Lib.hid (specJoined_calls B k L B2 k2 Q w3 ((HX.out.below (HB3.out.mono HB.out.size)).more (Nat.le_trans HB.out.size HB3.out.size)) (by omega) ((HX2.out.below (HB3.out.mono HB.out.size)).more (Nat.le_trans HB.out.size HB3.out.size)) (by omega))
      have hlq : (L ++ Q).length ≤ 1000 := by rw [List.length_append]; omega
      obtain ⟨F, hF⟩ : ∃ F, L ++ Q = F := ⟨_, rfl⟩
      rw [hF] at HV HJ hlq
      clear hw hw2 hF r0 r1 r2
      go_wp2_with fail
      refine HJ.out.mono ?_
      rintro e w4 ⟨A4, k4, rfl, ho4, hb4⟩
      have HB4 := Lib.hid (HB3.out.trans (hb4.mono HB3.out.size))
      have HO4 := Lib.hid ho4
      have HK := Lib.hid (specKept_calls A4 k4 F w4 hlq)
      clear hb4 ho4 c1 c2
      go_wp2_with fail
      refine HK.out.mono ?_
      rintro e w5 ⟨rfl, hb5⟩
      have HB5 := Lib.hid (HB4.out.trans (hb5.mono HB4.out.size))
      have ho5 := keptV_own (HO4.out.below hb5)
      obtain ⟨A5, k5, hk5⟩ := keptV_form A4 F k4
      rw [hk5] at ho5 ⊢
      have HO5 := Lib.hid (ho5.mono (Nat.le_refl _) hb5.size)
      clear hb5 ho5 hk5
      obtain ⟨r0, r1, r2⟩ := HRV.out w5 HB5.out
      have r3 := r2 (.slice A5 (keptR F).1.length k5)
      clear r2
      have HSZ := Lib.hid HB3.out.size
      obtain ⟨F1, hF1⟩ : ∃ F1, (keptR F).1 = F1 := ⟨_, rfl⟩
      rw [hF1] at HO5 r3 ⊢
      have HF1 := Lib.hid hF1
      clear hF1
      go_wp2_with fail
      refine bodyPost_ret (v := .tuple #[.agg #[.slice A5 F1.length k5], .bool (keptR F).2]) (by simp [results, Try.results37, go_sem, r3]) rfl ⟨_, by rw [HV.out], ?_, ?_⟩
      · rw [HV.out, HF1.out, World.size_setCell]
        exact (ownW_set HO5.out (by have := HSZ.out; have := HZ.out; omega)).mono (Nat.le_trans HB.out.size HSZ.out) (Nat.le_refl _)
      · exact (HB.out.trans (HB5.out.mono HB.out.size)).setCell (p := ⟨w.heap.size + 1 + 1 + 1, 0, none⟩) (by simp; omega) _
    · have HV : Hid (joinR m L Q = ([], false)) := Lib.hid (if_neg fun h => hw2 h.2)
      rw [show decide (Watched m Q) = false from decide_eq_false hw2]
      have r3 := r2 (.slice none 0 0)
      clear hw hw2 c1 c2 r2
      go_wp2_with fail
      refine bodyPost_ret (v := .tuple #[.agg #[.slice none 0 0], .bool false]) (by simp [results, Try.results37, go_sem, r3]) rfl ⟨_, by rw [HV.out], ?_, ?_⟩
      · rw [HV.out]; exact ownW_nil _ _ _
      · exact (HB.out.trans (HB3.out.mono HB.out.size)).setCell (p := ⟨w.heap.size + 1 + 1 + 1, 0, none⟩) (by simp; omega) _
  · have HV : Hid (joinR m L Q = ([], false)) := Lib.hid (if_neg fun h => hw h.1)
    rw [show decide (Watched m L) = false from decide_eq_false hw]
    obtain ⟨r0, r1, r2⟩ := HRV.out w2 HB2.out
    have r3 := r2 (.slice none 0 0)
    clear hw c0 c2 r2
    go_wp2_with fail
    refine bodyPost_ret (v := .tuple #[.agg #[.slice none 0 0], .bool false]) (by simp [results, Try.results37, go_sem, r3]) rfl ⟨_, by rw [HV.out], ?_, ?_⟩
    · rw [HV.out]; exact ownW_nil _ _ _
    · exact (HB.out.trans (HB2.out.mono HB.out.size)).setCell (p := ⟨w.heap.size + 1 + 1 + 1, 0, none⟩) (by simp; omega) _
end Go.Proofs.Ytomebbapjolnlaa
