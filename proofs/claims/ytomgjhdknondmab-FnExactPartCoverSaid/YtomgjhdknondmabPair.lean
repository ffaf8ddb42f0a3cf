/-
  The law's helpers on lists of pairs of ints: eqIntA2, eqIntA2S, markIntA2S, heldIntA2S. A list of pairs is a flat list of ints, two a pair.
-/
import Derived.Test.YtomgjhdknondmabWins
import Derived.Test.YtomgjhdknondmabIntS
import Derived.Deep.RegionHeld3
import Derived.BigQuiet
import Derived.Deep.DeepCutAuto
import Derived.LoopN
namespace Go.Proofs.Ytomgjhdknondmab
open Go.RowKit

/-- A list of n pairs of the call's own. -/
def OwnP (w : World) (lo hi : Nat) (v : Value) (n : Nat) (F : List Int) : Prop := F.length = n * 2 ∧ OwnS w lo hi 105 2 v n (intV .i64 F)
/-- The slice with address A reads as the flat list F. -/
def RdP (w : World) (A : Option Addr) (F : List Int) : Prop := F = [] ∨ ∃ g, A = some ⟨g, 0, none⟩ ∧ ∀ i (h : i < F.length), w.cell? ⟨g, i, none⟩ = some (.int .i64 F[i])
section
variable {w w' : World} {lo hi : Nat} {v : Value} {n : Nat} {F : List Int}
theorem OwnP.span (h : OwnP w lo hi v n F) {l2 h2 : Nat} (hs : Span l2 h2 w w') (ho : hi ≤ l2 ∨ h2 ≤ lo) : OwnP w' lo hi v n F := ⟨h.1, h.2.span hs ho⟩
theorem OwnP.below (h : OwnP w lo hi v n F) (hb : Below w.heap.size w w') : OwnP w' lo hi v n F := ⟨h.1, h.2.below hb⟩
theorem OwnP.form (h : OwnP w lo hi v n F) : ∃ A c, v = .slice A n c := by
  rcases h.2.1.2 with ⟨rfl, hn⟩ | ⟨g, cap, cur, rfl, _⟩
  · exact ⟨none, 0, by rw [hn]⟩
  · exact ⟨_, _, rfl⟩
theorem OwnP.rd {A : Option Addr} {c : Nat} (h : OwnP w lo hi (.slice A n c) n F) : RdP w A F := by
  have hl := h.1
  rcases h.2.1.2 with ⟨hv, hn⟩ | ⟨g, cap, cur, hv, _, hg, _⟩
  · exact .inl (List.eq_nil_of_length_eq_zero (by omega))
  · right
    injection hv with hA _ hc
    subst hA; subst hc
    refine ⟨g, rfl, fun i hi => ?_⟩
    rw [h.2.1.cellAt i (by omega)]
    simp [intV, List.getElem?_eq_getElem hi]
theorem RdP.below {A : Option Addr} (h : RdP w A F) {B : Nat} (hb : Below w.heap.size w w') : RdP w' A F := by
  rcases h with h | ⟨g, e, hc⟩
  · exact .inl h
  · exact .inr ⟨g, e, fun i hi => (hb.cell (cell_lt (hc i hi))).trans (hc i hi)⟩
end

set_option maxHeartbeats 800000 in
theorem own_form2 {base : Nat} {e : TypeId} {v : Value} {n : Nat} {w : World} {xs : List Value} (h : w.ownsRow base e 2 v n xs) : ∃ A c, v = .slice A n c := by
  rcases h.2 with ⟨rfl, rfl⟩ | ⟨g, cap, cur, rfl, _⟩
  · exact ⟨_, _, rfl⟩
  · exact ⟨_, _, rfl⟩
set_option maxHeartbeats 800000 in
theorem eqPair_calls (p q : Int) (w : World) :
    Calls Try.prog 95 #[.agg #[.int .i64 p, .int .i64 q], .agg #[.int .i64 p, .int .i64 q]] w fun e w' => e = .returned (.bool true) ∧ Below w.heap.size w w' := by
  obtain ⟨g1, g2, g3, g4⟩ := enter2 w (.cells #[.int .i64 p, .int .i64 q] 105) (.cells #[.int .i64 p, .int .i64 q] 105)
  obtain ⟨w0, hw0⟩ : ∃ w0, (w.alloc (.cells #[.int .i64 p, .int .i64 q] 105)).alloc (.cells #[.int .i64 p, .int .i64 q] 105) = w0 := ⟨_, rfl⟩
  rw [hw0] at g1 g2 g3 g4
  have HB := Lib.hid g1
  have HW := Lib.hid hw0
  have a0 : w0.cell? ⟨w.heap.size, 0, none⟩ = some (.int .i64 p) ∧ w0.cell? ⟨w.heap.size, 1, none⟩ = some (.int .i64 q) := by simp [World.cell?, g2]
  have a1 : w0.cell? ⟨w.heap.size + 1, 0, none⟩ = some (.int .i64 p) ∧ w0.cell? ⟨w.heap.size + 1, 1, none⟩ = some (.int .i64 q) := by simp [World.cell?, g3]
  obtain ⟨p0, p1⟩ := a0
  obtain ⟨q0, q1⟩ := a1
  have hp : (p != p) = false := by simp
  have hq : (q != q) = false := by simp
  clear g1 g2 g3 g4 hw0
  go_enter Try.func95, Try.ntmps95
  go_upto_region 1 with fail
  rw [HW.out]
  go_wp2_with fail
  go_loopw [5] (fun i wr => ∃ k n : Nat, k ≤ 2 ∧ i = .int .i64 k ∧ wr = w0.drewN n) (fun i _ => 2 - (intOf i).toNat)
  case atStart => exact ⟨0, 0, by omega, rfl, rfl⟩
  case round =>
    obtain ⟨k, n, hk, rfl, rfl⟩ := hrel
    rcases (show k = 0 ∨ k = 1 ∨ k = 2 by omega) with rfl | rfl | rfl
    · go_wp2
      go_quiet (fail)
      go_wp2
      go_roundw
      case rel => exact ⟨1, n + nq, by omega, by go_num, rfl⟩
      case measure => simp [intOf]
    · go_wp2
      go_quiet (fail)
      go_wp2
      go_roundw
      case rel => exact ⟨2, n + nq, by omega, by go_num, rfl⟩
      case measure => simp [intOf]
    · go_wp2
      go_ret
      exact ⟨rfl, below_drewN HB.out _⟩

/-- eqIntA2S, where both read alike. -/
theorem eqPairs_calls (A B : Option Addr) (c d n : Nat) (F : List Int) (w : World) (hF : F.length = n * 2) (hr : RdP w A F) (hq : RdP w B F) (hn : n ≤ 1048576) :
    Calls Try.prog 28 #[.slice A n c, .slice B n d] w fun e w' => e = .returned (.bool true) ∧ Below w.heap.size w w' := by
  have HZ := Lib.hid hr
  have HY := Lib.hid hq
  clear hr hq
  have hne : ((n : Int) != (n : Int)) = false := by simp
  go_enter Try.func28, Try.ntmps28
  go_wp2_with fail
  go_loopw [5] (fun i wr => ∃ k : Nat, k ≤ n ∧ i = .int .i64 k ∧ Below w.heap.size w wr) (fun i _ => n - (intOf i).toNat)
  case atStart => exact ⟨0, Nat.zero_le _, rfl, Below.refl _ _⟩
  case round =>
    obtain ⟨k, hk, rfl, hb⟩ := hrel
    by_cases hlt : k < n
    · rcases HZ.out with h | ⟨g, rfl, hc⟩
      · rw [h] at hF; simp at hF; omega
      rcases HY.out with h | ⟨g2, rfl, hc2⟩
      · rw [h] at hF; simp at hF; omega
      have e0 := (hb.cell (cell_lt (hc (k * 2) (by omega)))).trans (hc (k * 2) (by omega))
      have e1 := (hb.cell (cell_lt (hc (k * 2 + 1) (by omega)))).trans (hc (k * 2 + 1) (by omega))
      have g0 := (hb.cell (cell_lt (hc2 (k * 2) (by omega)))).trans (hc2 (k * 2) (by omega))
      have g1 := (hb.cell (cell_lt (hc2 (k * 2 + 1) (by omega)))).trans (hc2 (k * 2 + 1) (by omega))
      have HB := Lib.hid hb
      generalize F[k * 2] = p at *
      generalize F[k * 2 + 1] = q at *
      have HC := Lib.hid (fun W => eqPair_calls p q W)
      have HA := Lib.hid (fun W (h : Below wr.heap.size wr W) => show W.cell? ⟨g, k * 2, none⟩ = some (.int .i64 p) ∧ W.cell? ⟨g, k * 2 + 1, none⟩ = some (.int .i64 q) ∧ W.cell? ⟨g2, k * 2, none⟩ = some (.int .i64 p) ∧ W.cell? ⟨g2, k * 2 + 1, none⟩ = some (.int .i64 q)
        from ⟨(h.cell (cell_lt e0)).trans e0, (h.cell (cell_lt e1)).trans e1, (h.cell (cell_lt g0)).trans g0, (h.cell (cell_lt g1)).trans g1⟩)
      clear hb hc hc2
      go_wp2_with fail
      go_region_held3 (fun W => W.cell? ⟨g, k * 2, none⟩ = some (.int .i64 p) ∧ W.cell? ⟨g, k * 2 + 1, none⟩ = some (.int .i64 q) ∧ W.cell? ⟨g2, k * 2, none⟩ = some (.int .i64 p) ∧ W.cell? ⟨g2, k * 2 + 1, none⟩ = some (.int .i64 q))
        (first | exact ⟨e0, e1, g0, g1⟩ | exact HA.out _ hc2)
        ((go_at_call 95; refine (HC.out _).mono ?_; rintro e w2 ⟨rfl, hb2⟩; have hc2 : Below wr.heap.size wr w2 := ⟨hb2.os, hb2.tape, hb2.output, hb2.size, hb2.block⟩))
      have HB2 := Lib.hid (HB.out.trans (hc2.mono HB.out.size))
      clear hb2 hc2
      go_wp2_with fail
      go_roundw
      case rel => exact ⟨k + 1, by omega, by go_num, HB2.out⟩
      case measure => simp [intOf]; omega
    · have HB := Lib.hid hb
      clear hb
      go_wp2_with fail
      go_ret
      exact ⟨rfl, HB.out⟩

set_option maxHeartbeats 800000 in
theorem markPairs_calls (A : Option Addr) (c lo hi n : Nat) (F : List Int) (k : Nat) (w : World) (ho : OwnP w lo hi (.slice A n c) n F) (hn : n ≤ 1048576) (hk : k ≤ 4194304) :
    Calls Try.prog 29 #[.slice A n c, .int .i64 k] w fun e w' => e = .returned (.int .i64 (k + 2 * n)) ∧ OwnP w' lo hi (.slice A n c) n (marksI k (n * 2)) ∧ Span lo hi w w' := by
  obtain ⟨hF, hos⟩ := ho
  have HO := Lib.hid hos
  have hhi := hos.2
  have HHI := Lib.hid hhi
  clear hos hhi
  go_enter Try.func29, Try.ntmps29
  go_wp2_with fail
  go_loopw [1, 5] (fun a i wr => ∃ j : Nat, j ≤ n ∧ i = .int .i64 j ∧ a = .int .i64 (k + 2 * j) ∧ wr.ownsRow lo 105 2 (.slice A n c) n (intV .i64 (marksI k (j * 2) ++ F.drop (j * 2))) ∧ Span lo hi w wr) (fun _ i _ => n - (intOf i).toNat)
  case atStart => exact ⟨0, Nat.zero_le _, rfl, by go_num, by simpa [marksI] using HO.out.1, Span.refl _ _ _⟩
  case round =>
    obtain ⟨j, hj, rfl, rfl, hown, hsp⟩ := hrel
    by_cases hlt : j < n
    · rcases hown.2 with ⟨hv, hn0⟩ | ⟨g, cap, cur, hv, hbg, hh, hnc, hcm, hcs, htk⟩
      · omega
      injection hv with hA _ hcap
      subst hA
      subst hcap
      have hST := marksI_step k (j * 2) (n * 2) F hF (by omega)
      have hST2 := marksI_step k (j * 2 + 1) (n * 2) F hF (by omega)
      have hl0 := hown.1
      have hf0 := hown.frozenAt (j * 2)
      have hf1 := hown.frozenAt (j * 2 + 1)
      obtain ⟨u0, hc0⟩ : ∃ u, wr.cell? ⟨g, j * 2, none⟩ = some u := ⟨_, by rw [hown.cellAt _ (by omega), List.getElem?_eq_getElem (by omega)]⟩
      obtain ⟨u1, hc1⟩ : ∃ u, wr.cell? ⟨g, j * 2 + 1, none⟩ = some u := ⟨_, by rw [hown.cellAt _ (by omega), List.getElem?_eq_getElem (by omega)]⟩
      have h1 := hown.stored (j * 2) (.int .i64 ((k + j * 2 : Nat) : Int))
      rw [hST] at h1
      have h2 := h1.1.stored (j * 2 + 1) (.int .i64 ((k + (j * 2 + 1) : Nat) : Int))
      rw [hST2] at h2
      have hv0 : ((k + j * 2 : Nat) : Int) = k + 2 * j := by omega
      have hv1 : ((k + (j * 2 + 1) : Nat) : Int) = k + 2 * j + 1 := by omega
      rw [hv0] at h1 h2
      rw [hv1] at h2
      have HO2 := Lib.hid h2.1
      have hgh := HHI.out g rfl
      have HSP := Lib.hid ((hsp.setCell (p := ⟨g, j * 2, none⟩) hbg hgh (.int .i64 ((k : Int) + 2 * j))).setCell (p := ⟨g, j * 2 + 1, none⟩) hbg hgh (.int .i64 ((k : Int) + 2 * j + 1)))
      have hd1 : (wr.setCell ⟨g, j * 2, none⟩ (.int .i64 ((k : Int) + 2 * j))).cell? ⟨g, j * 2 + 1, none⟩ = some u1 := (World.cell?_setCell_other wr ⟨g, j * 2, none⟩ ⟨g, j * 2 + 1, none⟩ _ (fun e => by injection e with _ e _; omega)).trans hc1
      have hd2 : (wr.setCell ⟨g, j * 2, none⟩ (.int .i64 ((k : Int) + 2 * j))).frozen? ⟨g, j * 2 + 1, none⟩ = false := h1.1.frozenAt (j * 2 + 1)
      clear h1 h2 hown hsp hh hcs htk hST hST2 hl0 hv0 hv1
      go_wp2_with fail
      refine wp_loop_rounds 3 ?_
      rw [rounds_succ]; go_wp2_with fail
      rw [rounds_succ]; go_wp2_with fail
      rw [rounds_succ]; go_wp2_with fail
      go_roundw
      case rel => exact ⟨j + 1, by omega, by go_num, by go_num, by rw [show (j + 1) * 2 = j * 2 + 1 + 1 by omega]; exact HO2.out, HSP.out⟩
      case measure => simp [intOf]; omega
    · obtain rfl : j = n := by omega
      have HO1 := Lib.hid hown
      have HSP := Lib.hid hsp
      clear hown hsp
      go_wp2_with fail
      go_ret
      refine ⟨rfl, ⟨by rw [marksI_len], ⟨?_, HHI.out⟩⟩, HSP.out⟩
      have := HO1.out
      rwa [List.drop_eq_nil_of_le (by omega), List.append_nil] at this

/-- heldIntA2S, where the marks are there. -/
theorem heldPairs_calls (A : Option Addr) (c n k : Nat) (w : World) (hr : RdP w A (marksI k (n * 2))) (hn : n ≤ 1048576) (hk : k ≤ 4194304) :
    Calls Try.prog 30 #[.slice A n c, .int .i64 k] w fun e w' => e = .returned (.int .i64 (k + 2 * n)) ∧ w = w' := by
  have HR := Lib.hid hr
  clear hr
  go_enter Try.func30, Try.ntmps30
  go_wp2_with fail
  go_loop [1, 5] (fun a i => ∃ j : Nat, j ≤ n ∧ i = .int .i64 j ∧ a = .int .i64 (k + 2 * j)) (fun _ i => n - (intOf i).toNat)
  case atStart => exact ⟨0, Nat.zero_le _, rfl, by go_num⟩
  case round =>
    obtain ⟨j, hj, rfl, rfl⟩ := hrel
    by_cases hlt : j < n
    · rcases HR.out with h | ⟨g, rfl, hc⟩
      · have := congrArg List.length h; rw [marksI_len] at this; simp at this; omega
      have e0 := hc (j * 2) (by rw [marksI_len]; omega)
      have e1 := hc (j * 2 + 1) (by rw [marksI_len]; omega)
      rw [marksI_get] at e0 e1
      rw [show ((k + j * 2 : Nat) : Int) = k + 2 * j by omega] at e0
      rw [show ((k + (j * 2 + 1) : Nat) : Int) = k + 2 * j + 1 by omega] at e1
      have s0 : ((k : Int) + 2 * j != k + 2 * j) = false := by simp
      have s1 : ((k : Int) + 2 * j + 1 != k + 2 * j + 1) = false := by simp
      clear hc
      go_wp2_with fail
      refine wp_loop_rounds 3 ?_
      rw [rounds_succ]; go_wp2_with fail
      rw [rounds_succ]; go_wp2_with fail
      rw [rounds_succ]; go_wp2_with fail
      go_round
      case rel => exact ⟨j + 1, by omega, by go_num, by go_num⟩
      case measure => simp [intOf]; omega
    · obtain rfl : j = n := by omega
      go_wp2_with fail
      go_ret
      exact ⟨rfl, rfl⟩

section
variable {w : World} {lo hi n : Nat} {A : Option Addr} {c : Nat} {F : List Int}
theorem markP1_calls (w : World) (ho : OwnP w lo hi (.slice A n c) n F) (hn : n ≤ 1048576) :
    Calls Try.prog 29 #[.slice A n c, .int .i64 1] w fun e w' => e = .returned (.int .i64 (1 + 2 * n)) ∧ OwnP w' lo hi (.slice A n c) n (marksI 1 (n * 2)) ∧ Span lo hi w w' := by
  have h := markPairs_calls A c lo hi n F 1 w ho hn (by omega)
  exact h
theorem heldP1_calls (w : World) (ho : OwnP w lo hi (.slice A n c) n (marksI 1 (n * 2))) (hn : n ≤ 1048576) :
    Calls Try.prog 30 #[.slice A n c, .int .i64 1] w fun e w' => e = .returned (.int .i64 (1 + 2 * n)) ∧ Below w.heap.size w w' := by
  refine (heldPairs_calls A c n 1 w ho.rd hn (by omega)).mono ?_
  rintro e w' ⟨rfl, rfl⟩
  exact ⟨rfl, Below.refl _ _⟩
end
end Go.Proofs.Ytomgjhdknondmab
