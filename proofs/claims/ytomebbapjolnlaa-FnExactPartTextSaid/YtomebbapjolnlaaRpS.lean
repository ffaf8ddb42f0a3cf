/-
  Ropes of spec: l7Rope, IsRope, l7Length, RopeLength; ropes of impl: isRope, IsRope.
-/
import Derived.Test.YtomebbapjolnlaaRpM
namespace Go.Proofs.Ytomebbapjolnlaa
open Go.RowKit

/-- A memory's variable, and a rope's. -/
structure MP (W : World) (g : Nat) (A : Option Addr) (n c : Nat) (B : Option Addr) (l k : Nat) : Prop where
  m : W.heap[g]? = some (.cells #[.slice A n c] 32)
  p : W.heap[g + 1]? = some (.cells #[.slice B l k] 36)
section
variable {W W' : World} {g n c l k : Nat} {A B : Option Addr}
theorem MP.below (h : MP W g A n c B l k) (hb : Below W.heap.size W W') : MP W' g A n c B l k :=
  ⟨(hb.block _ (Array.getElem?_eq_some_iff.1 h.m).1).trans h.m, (hb.block _ (Array.getElem?_eq_some_iff.1 h.p).1).trans h.p⟩
theorem MP.cm (h : MP W g A n c B l k) : W.cell? ⟨g, 0, none⟩ = some (.slice A n c) := one_cell h.m
theorem MP.cp (h : MP W g A n c B l k) : W.cell? ⟨g + 1, 0, none⟩ = some (.slice B l k) := one_cell h.p
end
theorem enterMP (A : Option Addr) (n c : Nat) (B : Option Addr) (l k : Nat) (w : World) :
    ∃ w0, (w.alloc (.cells #[.slice A n c] 32)).alloc (.cells #[.slice B l k] 36) = w0 ∧ Below w.heap.size w w0 ∧ MP w0 w.heap.size A n c B l k := by
  obtain ⟨h1, h2, h3, _⟩ := enter2 w (.cells #[.slice A n c] 32) (.cells #[.slice B l k] 36)
  exact ⟨_, rfl, h1, h2, h3⟩

set_option maxRecDepth 100000 in
set_option maxHeartbeats 1600000 in
theorem specRope_calls (A : Option Addr) (c : Nat) (m : List (List Int)) (B : Option Addr) (k : Nat) (L : List Win) (w : World) (hr : Rd2 w w.heap.size A m) (hn : m.length ≤ maxLen) (hx : RdW w w.heap.size B L) (hl : L.length ≤ maxLen) :
    Calls Try.prog 72 #[.agg #[.slice A m.length c], .agg #[.slice B L.length k]] w fun e w' => e = .returned (.bool (decide (Watched m L))) ∧ Below w.heap.size w w' := by
  unfold maxLen at hl
  obtain ⟨w0, hw0, hb0, hg0⟩ := enterMP A m.length c B L.length k w
  have HR := Lib.hid hr
  have HX := Lib.hid hx
  have HB := Lib.hid hb0
  have HW := Lib.hid hw0
  have HG := Lib.hid hg0
  clear hr hx hb0 hw0 hg0
  go_enter Try.func72, Try.ntmps72
  go_wp2_with fail
  rw [HW.out]
  go_loopw [5] (fun i wr => ∃ j : Nat, j ≤ L.length ∧ j ≤ 13 ∧ i = .int .i64 j ∧ (∀ x ∈ L.take j, WinOK m x) ∧ Below w0.heap.size w0 wr) (fun i _ => L.length - (intOf i).toNat)
  case atStart => exact ⟨0, Nat.zero_le _, by omega, rfl, by simp, Below.refl _ _⟩
  case round =>
    obtain ⟨j, hj, hj13, rfl, ht, hbr⟩ := hrel
    have HT := Lib.hid ht
    have HBR := Lib.hid (HB.out.trans (hbr.mono HB.out.size))
    have HBR0 := Lib.hid hbr
    have HG3 := Lib.hid (HG.out.below hbr)
    have c3 := HG3.out.cm
    have c4 := HG3.out.cp
    clear ht hbr
    by_cases hlt : j < L.length
    · by_cases h12 : j ≤ 12
      · obtain ⟨b, off, rfl, hbb, e0, e1, e2, e3⟩ := (HX.out.below HBR.out).at_ hlt
        have HS := Lib.hid (show L.take (j + 1) = L.take j ++ [L[j]] from List.take_succ_eq_append_getElem hlt)
        have HMEM := Lib.hid (List.getElem_mem hlt)
        generalize L[j] = x at *
        have HA := Lib.hid (fun W (h : Below wr.heap.size wr W) => show W.cell? ⟨w.heap.size, 0, none⟩ = some (.slice A m.length c) ∧ W.cell? ⟨w.heap.size + 1, 0, none⟩ = some (.slice (some ⟨b, off, none⟩) L.length k) ∧ W.cell? ⟨b, off + j * 4, none⟩ = some (.int .i64 x.arr) ∧ W.cell? ⟨b, off + j * 4 + 1, none⟩ = some (.int .i64 x.start) ∧ W.cell? ⟨b, off + j * 4 + 2, none⟩ = some (.int .i64 x.len) ∧ W.cell? ⟨b, off + j * 4 + 3, none⟩ = some (.int .i64 x.cap) from ⟨(h.cell (cell_lt c3)).trans c3, (h.cell (cell_lt c4)).trans c4, (h.cell (cell_lt e0)).trans e0, (h.cell (cell_lt e1)).trans e1, (h.cell (cell_lt e2)).trans e2, (h.cell (cell_lt e3)).trans e3⟩)
        have HC := Lib.hid (fun W (hb : Below wr.heap.size wr W) => specWindow_calls A c m x W ((HR.out.below (HBR.out.trans (hb.mono HBR.out.size))).more (Nat.le_trans HBR.out.size hb.size)) hn)
        by_cases hok : WinOK m x
        · rw [show decide (WinOK m x) = true from decide_eq_true hok] at HC
          have HO := Lib.hid hok
          clear hok
          go_wp2_with fail
          go_region_held3 (fun W => W.cell? ⟨w.heap.size, 0, none⟩ = some (.slice A m.length c) ∧ W.cell? ⟨w.heap.size + 1, 0, none⟩ = some (.slice (some ⟨b, off, none⟩) L.length k) ∧ W.cell? ⟨b, off + j * 4, none⟩ = some (.int .i64 x.arr) ∧ W.cell? ⟨b, off + j * 4 + 1, none⟩ = some (.int .i64 x.start) ∧ W.cell? ⟨b, off + j * 4 + 2, none⟩ = some (.int .i64 x.len) ∧ W.cell? ⟨b, off + j * 4 + 3, none⟩ = some (.int .i64 x.cap))
            (first | exact ⟨c3, c4, e0, e1, e2, e3⟩ | exact HA.out _ hc5)
            ((go_at_call 112; refine (HC.out _ (by (repeat (first | (with_reducible exact Below.refl _ _) | (with_reducible refine Below.drew ?_) | ((with_reducible refine Below.alloc ?_ ?hB _); case hB => (first | (with_reducible exact Nat.le_refl _) | omega | (simp; done) | (simp; omega))) | ((with_reducible refine Below.setCell ?_ ?hB _); case hB => (first | (with_reducible exact Nat.le_refl _) | omega | (simp; done) | (simp; omega))))))).mono ?_; rintro e w5 ⟨rfl, hb5⟩; have hc5 : Below wr.heap.size wr w5 := ⟨hb5.os, hb5.tape, hb5.output, hb5.size, hb5.block⟩))
          have HB5 := Lib.hid (show Below w0.heap.size w0 w5 from HBR0.out.trans ((show Below wr.heap.size wr w5 from ⟨hb5.os, hb5.tape, hb5.output, hb5.size, hb5.block⟩).mono HBR0.out.size))
          clear hb5 hc5
          go_wp2_with fail
          go_roundw
          case rel => exact ⟨j + 1, by omega, by omega, by go_num, by rw [HS.out]; intro y hy; rcases List.mem_append.1 hy with hy | hy; exact HT.out y hy; rw [List.mem_singleton.1 hy]; exact HO.out, HB5.out⟩
          case measure => simp [intOf]; omega
        · rw [show decide (WinOK m x) = false from decide_eq_false hok] at HC
          have HD := Lib.hid (show decide (Watched m L) = false from decide_eq_false fun h => hok (h.2.2 x HMEM.out))
          clear hok
          go_wp2_with fail
          go_region_held3 (fun W => W.cell? ⟨w.heap.size, 0, none⟩ = some (.slice A m.length c) ∧ W.cell? ⟨w.heap.size + 1, 0, none⟩ = some (.slice (some ⟨b, off, none⟩) L.length k) ∧ W.cell? ⟨b, off + j * 4, none⟩ = some (.int .i64 x.arr) ∧ W.cell? ⟨b, off + j * 4 + 1, none⟩ = some (.int .i64 x.start) ∧ W.cell? ⟨b, off + j * 4 + 2, none⟩ = some (.int .i64 x.len) ∧ W.cell? ⟨b, off + j * 4 + 3, none⟩ = some (.int .i64 x.cap))
            (first | exact ⟨c3, c4, e0, e1, e2, e3⟩ | exact HA.out _ hc5)
            ((go_at_call 112; refine (HC.out _ (by (repeat (first | (with_reducible exact Below.refl _ _) | (with_reducible refine Below.drew ?_) | ((with_reducible refine Below.alloc ?_ ?hB _); case hB => (first | (with_reducible exact Nat.le_refl _) | omega | (simp; done) | (simp; omega))) | ((with_reducible refine Below.setCell ?_ ?hB _); case hB => (first | (with_reducible exact Nat.le_refl _) | omega | (simp; done) | (simp; omega))))))).mono ?_; rintro e w5 ⟨rfl, hb5⟩; have hc5 : Below wr.heap.size wr w5 := ⟨hb5.os, hb5.tape, hb5.output, hb5.size, hb5.block⟩))
          have HB5 := Lib.hid (HBR.out.trans ((show Below wr.heap.size wr w5 from ⟨hb5.os, hb5.tape, hb5.output, hb5.size, hb5.block⟩).mono HBR.out.size))
          clear hb5 hc5
          go_wp2_with fail
          go_ret
          exact ⟨ret_bool HD.out.symm, HB5.out⟩
      · have h13 : 12 < j := by omega
        have HD := Lib.hid (show decide (Watched m L) = false from decide_eq_false fun h => by have := h.2.1; omega)
        have HM := Lib.hid (specMemory_calls A c m wr ((HR.out.below HBR.out).more HBR.out.size) hn)
        clear h12
        go_wp2_with fail
        refine HM.out.mono ?_
        rintro e w5 ⟨rfl, hb5⟩
        have HB5 := Lib.hid (HBR.out.trans (hb5.mono HBR.out.size))
        have h14 : 12 < L.length := by omega
        have c5 := (HG3.out.below hb5).cp
        clear hb5 c3 c4
        by_cases hm : MemOK m
        · rw [show decide (MemOK m) = true from decide_eq_true hm]
          clear hm
          go_wp2_with fail
          go_ret
          exact ⟨ret_bool (by rw [HD.out]; exact decide_eq_false (by omega)), HB5.out⟩
        · rw [show decide (MemOK m) = false from decide_eq_false hm]
          clear hm
          go_wp2_with fail
          go_ret
          exact ⟨ret_bool HD.out.symm, HB5.out⟩
    · obtain rfl : j = L.length := by omega
      have HM := Lib.hid (specMemory_calls A c m wr ((HR.out.below HBR.out).more HBR.out.size) hn)
      have HTL := Lib.hid (show ∀ x ∈ L, WinOK m x by have := HT.out; rwa [List.take_length] at this)
      go_wp2_with fail
      refine HM.out.mono ?_
      rintro e w5 ⟨rfl, hb5⟩
      have HB5 := Lib.hid (HBR.out.trans (hb5.mono HBR.out.size))
      have c5 := (HG3.out.below hb5).cp
      clear hb5 c3 c4
      by_cases hm : MemOK m
      · rw [show decide (MemOK m) = true from decide_eq_true hm]
        by_cases h12 : L.length ≤ 12
        · have HD := Lib.hid (show decide (Watched m L) = true from decide_eq_true ⟨hm, h12, HTL.out⟩)
          clear hm
          go_wp2_with fail
          go_ret
          exact ⟨ret_bool (by rw [HD.out]; exact decide_eq_true (by omega)), HB5.out⟩
        · have HD := Lib.hid (show decide (Watched m L) = false from decide_eq_false fun h => h12 h.2.1)
          have h13 : 12 < L.length := by omega
          clear hm h12
          go_wp2_with fail
          go_ret
          exact ⟨ret_bool (by rw [HD.out]; exact decide_eq_false (by omega)), HB5.out⟩
      · rw [show decide (MemOK m) = false from decide_eq_false hm]
        have HD := Lib.hid (show decide (Watched m L) = false from decide_eq_false fun h => hm h.1)
        clear hm
        go_wp2_with fail
        go_ret
        exact ⟨ret_bool HD.out.symm, HB5.out⟩

set_option maxRecDepth 100000 in
theorem specIsRope_calls (A : Option Addr) (c : Nat) (m : List (List Int)) (B : Option Addr) (k : Nat) (L : List Win) (w : World) (hr : Rd2 w w.heap.size A m) (hn : m.length ≤ maxLen) (hx : RdW w w.heap.size B L) (hl : L.length ≤ maxLen) :
    Calls Try.prog 20 #[.agg #[.slice A m.length c], .agg #[.slice B L.length k]] w fun e w' => e = .returned (.tuple #[.bool (isRopeR m L).1, .bool (isRopeR m L).2]) ∧ Below w.heap.size w w' := by
  obtain ⟨w0, hw0, hb0, hg0⟩ := enterMP A m.length c B L.length k w
  have HM := Lib.hid (specMemory_calls A c m w0 ((hr.below hb0).more hb0.size) hn)
  have HR := Lib.hid hr
  have HX := Lib.hid hx
  have HB := Lib.hid hb0
  have HW := Lib.hid hw0
  have HG := Lib.hid hg0
  have c0 := hg0.cm
  clear hr hx hb0 hw0 hg0
  go_enter Try.func20, Try.ntmps20
  go_wp2_with fail
  rw [HW.out]
  refine HM.out.mono ?_
  rintro e w2 ⟨rfl, hb2⟩
  have HB2 := Lib.hid (HB.out.trans (hb2.mono HB.out.size))
  have c1 := (HG.out.below hb2).cm
  have c2 := (HG.out.below hb2).cp
  clear hb2 c0
  by_cases hm : MemOK m
  · rw [show decide (MemOK m) = true from decide_eq_true hm]
    have HC := Lib.hid (specRope_calls A c m B k L w2 ((HR.out.below HB2.out).more HB2.out.size) hn ((HX.out.below HB2.out).more HB2.out.size) hl)
    have HF := Lib.hid (show isRopeR m L = (decide (Watched m L), true) from if_pos hm)
    clear hm
    go_wp2_with fail
    refine HC.out.mono ?_
    rintro e w3 ⟨rfl, hb3⟩
    have HB3 := Lib.hid (HB2.out.trans (hb3.mono HB2.out.size))
    clear hb3
    go_wp2_with fail
    go_ret2
    rw [HF.out]
    exact ⟨rfl, HB3.out⟩
  · rw [show decide (MemOK m) = false from decide_eq_false hm]
    have HF := Lib.hid (show isRopeR m L = (false, false) from if_neg hm)
    clear hm
    go_wp2_with fail
    go_ret2
    rw [HF.out]
    exact ⟨rfl, HB2.out⟩

set_option maxRecDepth 100000 in
theorem implRope_calls (A : Option Addr) (c : Nat) (m : List (List Int)) (B : Option Addr) (k : Nat) (L : List Win) (w : World) (hr : Rd2 w w.heap.size A m) (hn : m.length ≤ maxLen) (hx : RdW w w.heap.size B L) (hl : L.length ≤ maxLen) (hw : ∀ x ∈ L, WArg x) :
    Calls Try.prog 75 #[.agg #[.slice A m.length c], .agg #[.slice B L.length k]] w fun e w' => e = .returned (.bool (decide (Watched m L))) ∧ Below w.heap.size w w' := by
  unfold maxLen at hl
  obtain ⟨w0, hw0, hb0, hg0⟩ := enterMP A m.length c B L.length k w
  have c0 := hg0.cm
  have c1 := hg0.cp
  by_cases h12 : L.length ≤ 12
  · have HC := Lib.hid (areWindowsL_calls A c m B k L w0 ((hr.below hb0).more hb0.size) hn ((hx.below hb0).more hb0.size) hw (by omega))
    rw [watched_all h12] at HC
    have HB := Lib.hid hb0
    have HW := Lib.hid hw0
    clear hr hx hw hb0 hw0 hg0
    go_enter Try.func75, Try.ntmps75
    go_wp2_with fail
    rw [HW.out]
    refine HC.out.mono ?_
    rintro e w2 ⟨rfl, hb2⟩
    have HB2 := Lib.hid (HB.out.trans (hb2.mono HB.out.size))
    clear hb2
    go_wp2_with fail
    go_ret
    exact ⟨rfl, HB2.out⟩
  · have HD := Lib.hid (show decide (Watched m L) = false from decide_eq_false fun h => h12 h.2.1)
    have HB := Lib.hid hb0
    have HW := Lib.hid hw0
    have h13 : 12 < L.length := by omega
    clear hr hx hw hb0 hw0 h12 hg0
    go_enter Try.func75, Try.ntmps75
    go_wp2_with fail
    rw [HW.out]
    go_wp2_with fail
    go_ret
    exact ⟨ret_bool HD.out.symm, HB.out⟩

set_option maxRecDepth 100000 in
theorem implIsRope_calls (A : Option Addr) (c : Nat) (m : List (List Int)) (B : Option Addr) (k : Nat) (L : List Win) (w : World) (hr : Rd2 w w.heap.size A m) (hn : m.length ≤ maxLen) (hx : RdW w w.heap.size B L) (hl : L.length ≤ maxLen) (hw : ∀ x ∈ L, WArg x) :
    Calls Try.prog 23 #[.agg #[.slice A m.length c], .agg #[.slice B L.length k]] w fun e w' => e = .returned (.tuple #[.bool (isRopeR m L).1, .bool (isRopeR m L).2]) ∧ Below w.heap.size w w' := by
  obtain ⟨w0, hw0, hb0, hg0⟩ := enterMP A m.length c B L.length k w
  have HC := Lib.hid (fun W (hb : Below w0.heap.size w0 W) => implRope_calls A c m B k L W ((hr.below (hb0.trans (hb.mono hb0.size))).more (Nat.le_trans hb0.size hb.size)) hn ((hx.below (hb0.trans (hb.mono hb0.size))).more (Nat.le_trans hb0.size hb.size)) hl hw)
  have HM := Lib.hid (fun W (hb : Below w0.heap.size w0 W) => implIsMemory_calls A c m W ((hr.below (hb0.trans (hb.mono hb0.size))).more (Nat.le_trans hb0.size hb.size)) hn)
  have HA := Lib.hid (fun W (hb : Below w0.heap.size w0 W) => show W.cell? ⟨w.heap.size, 0, none⟩ = some (.slice A m.length c) ∧ W.cell? ⟨w.heap.size + 1, 0, none⟩ = some (.slice B L.length k) from ⟨(hg0.below hb).cm, (hg0.below hb).cp⟩)
  have HF : Hid (isRopeR m L = (decide (Watched m L), decide (MemOK m))) := Lib.hid (by
    unfold isRopeR
    by_cases hm : MemOK m
    · rw [if_pos hm, decide_eq_true hm]
    · rw [if_neg hm, decide_eq_false hm, decide_eq_false fun h => hm h.1])
  have HB := Lib.hid hb0
  have HW := Lib.hid hw0
  have c0 := hg0.cm
  have c1 := hg0.cp
  clear hr hx hw hb0 hw0 hg0
  go_enter Try.func23, Try.ntmps23
  go_wp2_with fail
  rw [HW.out]
  go_region_held3 (fun W => W.cell? ⟨w.heap.size, 0, none⟩ = some (.slice A m.length c) ∧ W.cell? ⟨w.heap.size + 1, 0, none⟩ = some (.slice B L.length k))
    (first | (with_reducible exact ⟨c0, c1⟩) | exact HA.out _ hc5 | exact HA.out _ hc4 | exact HA.out _ (by (repeat (first | (with_reducible exact Below.refl _ _) | (with_reducible refine Below.drew ?_) | ((with_reducible refine Below.alloc ?_ ?hB _); case hB => (first | (with_reducible exact Nat.le_refl _) | omega | (simp; done) | (simp; omega))) | ((with_reducible refine Below.setCell ?_ ?hB _); case hB => (first | (with_reducible exact Nat.le_refl _) | omega | (simp; done) | (simp; omega)))))))
    (first | (go_at_call 75; refine (HC.out _ (by (repeat (first | (with_reducible exact Below.refl _ _) | (with_reducible refine Below.drew ?_) | ((with_reducible refine Below.alloc ?_ ?hB _); case hB => (first | (with_reducible exact Nat.le_refl _) | omega | (simp; done) | (simp; omega))) | ((with_reducible refine Below.setCell ?_ ?hB _); case hB => (first | (with_reducible exact Nat.le_refl _) | omega | (simp; done) | (simp; omega))))))).mono ?_; rintro e w4 ⟨rfl, hb4⟩; have hc4 : Below w0.heap.size w0 w4 := ⟨hb4.os, hb4.tape, hb4.output, hb4.size, hb4.block⟩) | (go_at_call 76; refine (HM.out _ hc4).mono ?_; rintro e w5 ⟨rfl, hb5⟩; have hc5 : Below w0.heap.size w0 w5 := hc4.trans (hb5.mono hc4.size)))
  have HB5 := Lib.hid (HB.out.trans (hc5.mono HB.out.size))
  clear hb4 hb5 hc4 hc5
  go_wp2_with fail
  go_ret2
  rw [HF.out]
  exact ⟨rfl, HB5.out⟩
end Go.Proofs.Ytomebbapjolnlaa
