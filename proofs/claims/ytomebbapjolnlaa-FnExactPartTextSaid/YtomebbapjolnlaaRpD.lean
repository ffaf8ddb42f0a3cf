/-
  l7Joined, l7Kept, JoinRopes of spec; JoinRopes of impl.
-/
import Derived.Test.YtomebbapjolnlaaRpC
namespace Go.Proofs.Ytomebbapjolnlaa
open Go.RowKit

theorem cell_other {W : World} {p : Addr} {b : Nat} {u v : Value} (h : W.cell? p = some u) (hn : p.block ≠ b) : (W.setCell ⟨b, 0, none⟩ v).cell? p = some u :=
  (World.cell?_setCell_other W ⟨b, 0, none⟩ p v (fun e => hn (by rw [← e]))).trans h
theorem ownW_app {w : World} {lo : Nat} {A : Option Addr} {N c : Nat} {L Q : List Win} (h : w.ownsRow lo 90 4 (.slice A N c) N (([] ++ winCs L) ++ winCs Q)) (hN : L.length + Q.length = N) : OwnW w lo w.heap.size (.slice A N c) (L ++ Q) := by
  refine ⟨_, OwnS.new (by rw [List.length_append, hN]; exact h), ?_⟩
  exact WC.app Q (WC.app L (cs := []) (xs := []) (fun i x h => by simp at h) rfl) (by rw [List.nil_append, winCs_len])

set_option maxRecDepth 100000 in
set_option maxHeartbeats 1600000 in
theorem specJoined_calls (B : Option Addr) (k : Nat) (L : List Win) (B2 : Option Addr) (k2 : Nat) (Q : List Win) (w : World) (hx : RdW w w.heap.size B L) (hl : L.length ≤ 100) (hx2 : RdW w w.heap.size B2 Q) (hl2 : Q.length ≤ 100) :
    Calls Try.prog 87 #[.agg #[.slice B L.length k], .agg #[.slice B2 Q.length k2]] w fun e w' => ∃ A c, e = .returned (.agg #[.slice A (L ++ Q).length c]) ∧ OwnW w' w.heap.size w'.heap.size (.slice A (L ++ Q).length c) (L ++ Q) ∧ Below w.heap.size w w' := by
  obtain ⟨hb0, g1, g2, g3, hsz⟩ := enter3 w (.cells #[.slice B L.length k] 36) (.cells #[.slice B2 Q.length k2] 36) (.cells #[.slice none 0 0] 36)
  obtain ⟨w0, hw0⟩ : ∃ w0, ((w.alloc (.cells #[.slice B L.length k] 36)).alloc (.cells #[.slice B2 Q.length k2] 36)).alloc (.cells #[.slice none 0 0] 36) = w0 := ⟨_, rfl⟩
  rw [hw0] at hb0 g1 g2 g3 hsz
  obtain ⟨N, hN⟩ : ∃ N, L.length + Q.length = N := ⟨_, rfl⟩
  have HA : Hid (∀ W, Below w0.heap.size w0 W → W.cell? ⟨w.heap.size, 0, none⟩ = some (.slice B L.length k) ∧ W.cell? ⟨w.heap.size + 1, 0, none⟩ = some (.slice B2 Q.length k2)) := Lib.hid fun W hb => ⟨one_cell ((hb.block _ (by omega)).trans g1), one_cell ((hb.block _ (by omega)).trans g2)⟩
  have HA2 : Hid (∀ W, Below w0.heap.size w0 W → ∀ v, (W.setCell ⟨w.heap.size + 1 + 1, 0, none⟩ v).cell? ⟨w.heap.size, 0, none⟩ = some (.slice B L.length k) ∧ (W.setCell ⟨w.heap.size + 1 + 1, 0, none⟩ v).cell? ⟨w.heap.size + 1, 0, none⟩ = some (.slice B2 Q.length k2)) := Lib.hid fun W hb v => ⟨cell_other (HA.out W hb).1 (by simp; omega), cell_other (HA.out W hb).2 (by simp)⟩
  have HR3 : Hid (∀ W, Below w0.heap.size w0 W → W.cell? ⟨w.heap.size + 1 + 1, 0, none⟩ = some (.slice none 0 0) ∧ W.frozen? ⟨w.heap.size + 1 + 1, 0, none⟩ = false ∧ ∀ v, (W.setCell ⟨w.heap.size + 1 + 1, 0, none⟩ v).cell? ⟨w.heap.size + 1 + 1, 0, none⟩ = some v) := Lib.hid fun W hb => by
    have h := (hb.block _ (by omega)).trans g3
    exact ⟨one_cell h, one_frozen h, fun v => one_cell (one_set (v := v) h)⟩
  have hca : Below w0.heap.size w0 (w0.alloc (.cells #[] 90)).drew := ((Below.refl _ _).alloc (Nat.le_refl _) _).drew
  have hcd : Below w0.heap.size w0 w0.drew := (Below.refl _ _).drew
  have HF0 := Lib.hid (World.ownsRow_made (base := w0.heap.size) (e := 90) (size := 4) w0.drew #[] 0 (Nat.le_refl _) (Nat.zero_le _) rfl)
  have HF1 := Lib.hid (show (w0.alloc (.cells #[] 90)).drew.ownsRow w0.heap.size 90 4 (.slice (some ⟨w0.heap.size, 0, none⟩) 0 0) 0 [] from HF0.out)
  have HX1 := Lib.hid ((hx.below hb0).below ((hca.mono hb0.size).mono (Nat.le_refl _)))
  have HX2 : Hid (∀ W, Below w0.heap.size w0 W → RdW W w.heap.size B2 Q) := Lib.hid fun W hb => (hx2.below hb0).below (hb.mono hb0.size)
  have hz3 : w0.heap.size ≤ (w0.alloc (.cells #[] 90)).drew.heap.size := hca.size
  have HB := Lib.hid hb0
  have HW := Lib.hid hw0
  have HNN := Lib.hid hN
  have HLQ := Lib.hid (show (L ++ Q).length = N by rw [List.length_append, hN])
  obtain ⟨c0, c1⟩ := HA.out w0.drew hcd
  have hN200 : N ≤ 200 := by omega
  have hsz2 := hsz
  clear hx hx2 hb0 hw0 g1 g2 g3 hsz hN
  go_enter Try.func87, Try.ntmps87
  go_upto_region 1 with fail
  rw [HW.out]
  go_region_held3 (fun W => W.cell? ⟨w.heap.size, 0, none⟩ = some (.slice B L.length k) ∧ W.cell? ⟨w.heap.size + 1, 0, none⟩ = some (.slice B2 Q.length k2))
    (first | (with_reducible exact ⟨c0, c1⟩) | (with_reducible exact HA.out _ hca) | (with_reducible exact HA.out _ hc5) | (with_reducible exact HA.out _ hc6) | (with_reducible exact HA2.out _ hc6 _) | (with_reducible exact HA.out _ hcd))
    (first | (refine step_append_wins rfl (.tmp 5) (.tmp 7) rfl w0.heap.size (some ⟨w0.heap.size, 0, none⟩) 0 0 [] (by simp [Act.eval]) HF1.out w.heap.size B k L (by simp [Act.eval]) HX1.out L.length (Nat.zero_add _) (by omega) (Nat.le_refl _) hz3 ?_; intro A5 c5 w5 hown5 hcc5 hgrow5; have hc5 : Below w0.heap.size w0 w5 := below_own0 hca HF1.out hgrow5 hz3; have HO5 := Lib.hid hown5; clear hown5 hgrow5) | (refine step_append_wins rfl (.tmp 8) (.tmp 10) rfl w0.heap.size A5 L.length c5 ([] ++ winCs L) (by simp [Act.eval]) HO5.out w.heap.size B2 k2 Q (by simp [Act.eval]) (HX2.out _ hc5) N HNN.out (by omega) hcc5 hc5.size ?_; intro A6 c6 w6 hown6 hcc6 hgrow6; have hc6 : Below w0.heap.size w0 w6 := below_own0 hc5 HO5.out hgrow6 hc5.size; have HO6 := Lib.hid hown6; have hr6 := HR3.out w6 hc6; obtain ⟨e0, e1, _⟩ := hr6; clear hown6 hgrow6))
  obtain ⟨_, _, e2⟩ := HR3.out w6 hc6
  have e3 := e2 (.slice A6 N c6)
  go_wp2_with fail
  refine bodyPost_ret (v := .agg #[.slice A6 N c6]) (by simp [results, Try.results87, go_sem, e3]) rfl ⟨A6, c6, by rw [HLQ.out], ?_, ?_⟩
  · rw [HLQ.out, World.size_setCell]
    exact ((ownW_app HO6.out HNN.out).span (l2 := w.heap.size) (h2 := w0.heap.size) ((Span.refl _ _ _).setCell (p := ⟨w.heap.size + 1 + 1, 0, none⟩) (by simp; omega) (by simp; omega) _) (.inr (Nat.le_refl _))).mono HB.out.size (Nat.le_refl _)
  · exact (HB.out.trans (hc6.mono HB.out.size)).setCell (p := ⟨w.heap.size + 1 + 1, 0, none⟩) (by simp; omega) _

/-- What is handed on: the list, or none. -/
def keptV (A : Option Addr) (L : List Win) (c : Nat) : Value := if L.length ≤ 12 then .slice A L.length c else .slice none 0 0
theorem keptV_own {w : World} {lo hi : Nat} {A : Option Addr} {L : List Win} {c : Nat} (h : OwnW w lo hi (.slice A L.length c) L) : OwnW w lo hi (keptV A L c) (keptR L).1 := by
  unfold keptV keptR
  split
  · exact h
  · exact ownW_nil _ _ _
set_option maxRecDepth 100000 in
theorem specKept_calls (A : Option Addr) (c : Nat) (L : List Win) (w : World) (hl : L.length ≤ 1000) :
    Calls Try.prog 86 #[.agg #[.slice A L.length c]] w fun e w' => e = .returned (.tuple #[.agg #[keptV A L c], .bool (keptR L).2]) ∧ Below w.heap.size w w' := by
  obtain ⟨hb0, g1, g2, hsz⟩ := enter2 w (.cells #[.slice A L.length c] 36) (.cells #[.slice none 0 0] 36)
  obtain ⟨w0, hw0⟩ : ∃ w0, (w.alloc (.cells #[.slice A L.length c] 36)).alloc (.cells #[.slice none 0 0] 36) = w0 := ⟨_, rfl⟩
  rw [hw0] at hb0 g1 g2 hsz
  have HB := Lib.hid hb0
  have HW := Lib.hid hw0
  have c0 := one_cell g1
  have c1 := one_cell g2
  have f1 := one_frozen g2
  by_cases h12 : L.length ≤ 12
  · have HK := Lib.hid (show keptR L = (L, true) from if_pos h12)
    have HV := Lib.hid (show keptV A L c = .slice A L.length c from if_pos h12)
    have c3 := one_cell (one_set (v := .slice A L.length c) g2)
    clear hb0 hw0 g1 g2 hsz
    go_enter Try.func86, Try.ntmps86
    go_upto_region 1 with fail
    rw [HW.out]
    go_wp2_with fail
    refine bodyPost_ret (v := .tuple #[.agg #[.slice A L.length c], .bool true]) (by simp [results, Try.results86, go_sem, c3]) rfl ⟨by rw [HK.out, HV.out], HB.out.setCell (p := ⟨w.heap.size + 1, 0, none⟩) (by simp) _⟩
  · have HK := Lib.hid (show keptR L = ([], false) from if_neg h12)
    have HV := Lib.hid (show keptV A L c = .slice none 0 0 from if_neg h12)
    have h13 : 12 < L.length := by omega
    have c3 := one_cell (one_set (v := .slice none 0 0) g2)
    clear hb0 hw0 g1 g2 hsz h12
    go_enter Try.func86, Try.ntmps86
    go_upto_region 1 with fail
    rw [HW.out]
    go_wp2_with fail
    refine bodyPost_ret (v := .tuple #[.agg #[.slice none 0 0], .bool false]) (by simp [results, Try.results86, go_sem, c3]) rfl ⟨by rw [HK.out, HV.out], HB.out.setCell (p := ⟨w.heap.size + 1, 0, none⟩) (by simp) _⟩
end Go.Proofs.Ytomebbapjolnlaa
