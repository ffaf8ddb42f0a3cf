/-
  The law's helpers on lists of windows: szWindowS, toWindowS, eqWindowS, markWindowS.
-/
import Derived.Test.YtoelagfcapdfpaaWins
import Derived.Test.YtoelagfcapdfpaaLawW
namespace Go.Proofs.Ytoelagfcapdfpaa
open Go.RowKit

theorem info_winB : (Try.prog.info? 33).map (fun i => (i.zero, i.size, i.bytes)) = some (some (.agg #[.int .i64 0, .int .i64 0, .int .i64 0, .int .i64 0]), 4, 32) := by kernel_rfl
/-- Four cells stored, one behind the other, in a row of the call's own. -/
theorem stored4 {w : World} {base : Nat} {e : TypeId} {g n cap : Nat} {xs : List Value} (h : w.ownsRow base e 4 (.slice (some ⟨g, 0, none⟩) n cap) n xs) (j : Nat) (u0 u1 u2 u3 : Value) :
    ((((w.setCell ⟨g, j, none⟩ u0).setCell ⟨g, j + 1, none⟩ u1).setCell ⟨g, j + 2, none⟩ u2).setCell ⟨g, j + 3, none⟩ u3).ownsRow base e 4 (.slice (some ⟨g, 0, none⟩) n cap) n ((((xs.set j u0).set (j + 1) u1).set (j + 2) u2).set (j + 3) u3) :=
  ((((h.stored j u0).1.stored (j + 1) u1).1.stored (j + 2) u2).1.stored (j + 3) u3).1
theorem Below.set4 {B : Nat} {a w : World} (h : Below B a w) {g : Nat} (hg : B ≤ g) (j0 j1 j2 j3 : Nat) (u0 u1 u2 u3 : Value) : Below B a ((((w.setCell ⟨g, j0, none⟩ u0).setCell ⟨g, j1, none⟩ u1).setCell ⟨g, j2, none⟩ u2).setCell ⟨g, j3, none⟩ u3) :=
  (((h.setCell (p := ⟨g, j0, none⟩) hg u0).setCell (p := ⟨g, j1, none⟩) hg u1).setCell (p := ⟨g, j2, none⟩) hg u2).setCell (p := ⟨g, j3, none⟩) hg u3

theorem eqWinSame_calls (x : Win) (w : World) :
    Calls Try.prog 39 #[.agg #[.int .i64 x.arr, .int .i64 x.start, .int .i64 x.len, .int .i64 x.cap], .agg #[.int .i64 x.arr, .int .i64 x.start, .int .i64 x.len, .int .i64 x.cap]] w fun e w' => e = .returned (.bool true) ∧ Below w.heap.size w w' := by
  have h := eqWindow_calls x x w
  rw [show decide (x = x) = true by simp] at h
  exact h
/-- eqWindowS, where both read alike. -/
theorem eqWindowS_calls (A B : Option Addr) (c d : Nat) (xs : List Win) (w : World) (hr : RdW w w.heap.size A xs) (hq : RdW w w.heap.size B xs) (hn : xs.length ≤ 1048576) :
    Calls Try.prog 59 #[.slice A xs.length c, .slice B xs.length d] w fun e w' => e = .returned (.bool true) ∧ Below w.heap.size w w' := by
  have HZ := Lib.hid hr
  have HY := Lib.hid hq
  clear hr hq
  have hne : ((xs.length : Int) != (xs.length : Int)) = false := by simp
  go_enter Try.func59, Try.ntmps59
  go_wp2_with fail
  go_loopw [5] (fun i wr => ∃ k : Nat, k ≤ xs.length ∧ i = .int .i64 k ∧ Below w.heap.size w wr) (fun i _ => xs.length - (intOf i).toNat)
  case atStart => exact ⟨0, Nat.zero_le _, rfl, Below.refl _ _⟩
  case round =>
    obtain ⟨k, hk, rfl, hb⟩ := hrel
    by_cases hlt : k < xs.length
    · obtain ⟨b, off, rfl, hbb, e0, e1, e2, e3⟩ := (HZ.out.below hb).at_ hlt
      obtain ⟨b2, off2, rfl, hbb2, g0, g1, g2, g3⟩ := (HY.out.below hb).at_ hlt
      have HC := Lib.hid (fun W => eqWinSame_calls xs[k] W)
      have HB := Lib.hid hb
      generalize xs[k] = x at *
      clear hb
      have HA := Lib.hid (fun W (h : Below wr.heap.size wr W) => show W.cell? ⟨b, off + k * 4, none⟩ = some (.int .i64 x.arr) ∧ W.cell? ⟨b, off + k * 4 + 1, none⟩ = some (.int .i64 x.start) ∧ W.cell? ⟨b, off + k * 4 + 2, none⟩ = some (.int .i64 x.len) ∧ W.cell? ⟨b, off + k * 4 + 3, none⟩ = some (.int .i64 x.cap) ∧ W.cell? ⟨b2, off2 + k * 4, none⟩ = some (.int .i64 x.arr) ∧ W.cell? ⟨b2, off2 + k * 4 + 1, none⟩ = some (.int .i64 x.start) ∧ W.cell? ⟨b2, off2 + k * 4 + 2, none⟩ = some (.int .i64 x.len) ∧ W.cell? ⟨b2, off2 + k * 4 + 3, none⟩ = some (.int .i64 x.cap)
        from ⟨(h.cell (cell_lt e0)).trans e0, (h.cell (cell_lt e1)).trans e1, (h.cell (cell_lt e2)).trans e2, (h.cell (cell_lt e3)).trans e3, (h.cell (cell_lt g0)).trans g0, (h.cell (cell_lt g1)).trans g1, (h.cell (cell_lt g2)).trans g2, (h.cell (cell_lt g3)).trans g3⟩)
      go_wp2_with fail
      go_region_held3 (fun W => W.cell? ⟨b, off + k * 4, none⟩ = some (.int .i64 x.arr) ∧ W.cell? ⟨b, off + k * 4 + 1, none⟩ = some (.int .i64 x.start) ∧ W.cell? ⟨b, off + k * 4 + 2, none⟩ = some (.int .i64 x.len) ∧ W.cell? ⟨b, off + k * 4 + 3, none⟩ = some (.int .i64 x.cap) ∧ W.cell? ⟨b2, off2 + k * 4, none⟩ = some (.int .i64 x.arr) ∧ W.cell? ⟨b2, off2 + k * 4 + 1, none⟩ = some (.int .i64 x.start) ∧ W.cell? ⟨b2, off2 + k * 4 + 2, none⟩ = some (.int .i64 x.len) ∧ W.cell? ⟨b2, off2 + k * 4 + 3, none⟩ = some (.int .i64 x.cap))
        (first | exact ⟨e0, e1, e2, e3, g0, g1, g2, g3⟩ | exact HA.out _ hc2)
        ((go_at_call 39; refine (HC.out _).mono ?_; rintro e w2 ⟨rfl, hb2⟩; have hc2 : Below wr.heap.size wr w2 := ⟨hb2.os, hb2.tape, hb2.output, hb2.size, hb2.block⟩))
      have HB2 := Lib.hid (HB.out.trans (hc2.mono HB.out.size))
      clear hb2 hc2
      go_wp2_with fail
      go_roundw
      case rel => exact ⟨k + 1, by omega, by go_num, HB2.out⟩
      case measure => simp [intOf]; omega
    · have HB := Lib.hid hb
      clear hb
      go_wp2_with fail
      go_ret
      exact ⟨rfl, HB.out⟩

/-- markWindowS: what it answers; nothing but the list turns. -/
theorem markWindowS_calls (A : Option Addr) (c lo hi : Nat) (xs : List Win) (k : Nat) (w : World) (ho : OwnW w lo hi (.slice A xs.length c) xs) (hn : xs.length ≤ 2097152) (hk : k ≤ 4194304) :
    Calls Try.prog 60 #[.slice A xs.length c, .int .i64 k] w fun e w' => e = .returned (.int .i64 (k + 4 * xs.length)) ∧ Span lo hi w w' := by
  obtain ⟨cs0, ho0, _⟩ := ho
  have HO := Lib.hid ho0
  clear ho0
  go_enter Try.func60, Try.ntmps60
  go_wp2_with fail
  go_loopw [1, 5] (fun a i wr => ∃ (j : Nat) (cs : List Value), j ≤ xs.length ∧ i = .int .i64 j ∧ a = .int .i64 (k + 4 * j) ∧ wr.ownsRow lo 33 4 (.slice A xs.length c) xs.length cs ∧ Span lo hi w wr) (fun _ i _ => xs.length - (intOf i).toNat)
  case atStart => exact ⟨0, _, Nat.zero_le _, rfl, by go_num, HO.out.1, Span.refl _ _ _⟩
  case round =>
    obtain ⟨j, cs, hj, rfl, rfl, hown, hsp⟩ := hrel
    by_cases hlt : j < xs.length
    · rcases hown.2 with ⟨hv, hn0⟩ | ⟨g, cap, cur, hv, hbg, hh, hnc, hcm, hcs, htk⟩
      · omega
      injection hv with hA _ hcap
      subst hA
      subst hcap
      have hcl := hown.1
      have hf0 := hown.frozenAt (j * 4)
      have hf1 := hown.frozenAt (j * 4 + 1)
      have hf2 := hown.frozenAt (j * 4 + 2)
      have hf3 := hown.frozenAt (j * 4 + 3)
      obtain ⟨u0, hc0⟩ : ∃ u, wr.cell? ⟨g, j * 4, none⟩ = some u := ⟨_, by rw [hown.cellAt _ (by omega), List.getElem?_eq_getElem (by omega)]⟩
      obtain ⟨u1, hc1⟩ : ∃ u, wr.cell? ⟨g, j * 4 + 1, none⟩ = some u := ⟨_, by rw [hown.cellAt _ (by omega), List.getElem?_eq_getElem (by omega)]⟩
      obtain ⟨u2, hc2⟩ : ∃ u, wr.cell? ⟨g, j * 4 + 2, none⟩ = some u := ⟨_, by rw [hown.cellAt _ (by omega), List.getElem?_eq_getElem (by omega)]⟩
      obtain ⟨u3, hc3⟩ : ∃ u, wr.cell? ⟨g, j * 4 + 3, none⟩ = some u := ⟨_, by rw [hown.cellAt _ (by omega), List.getElem?_eq_getElem (by omega)]⟩
      have hgh : g < hi := HO.out.2 g rfl
      have HST := Lib.hid (fun u0 u1 u2 u3 => stored4 hown (j * 4) u0 u1 u2 u3)
      have HSP := Lib.hid (fun (a b d f : Nat) u0 u1 u2 u3 => (((hsp.setCell (p := ⟨g, a, none⟩) hbg hgh u0).setCell (p := ⟨g, b, none⟩) hbg hgh u1).setCell (p := ⟨g, d, none⟩) hbg hgh u2).setCell (p := ⟨g, f, none⟩) hbg hgh u3)
      clear hown hsp hh hcs htk hcl
      go_wp2_with fail
      go_roundw
      case rel => exact ⟨j + 1, _, by omega, by go_num, by go_num, HST.out _ _ _ _, HSP.out _ _ _ _ _ _ _ _⟩
      case measure => simp [intOf]; omega
    · obtain rfl : j = xs.length := by omega
      have HSP := Lib.hid hsp
      clear hown hsp
      go_wp2_with fail
      go_ret
      exact ⟨rfl, HSP.out⟩
end Go.Proofs.Ytoelagfcapdfpaa
