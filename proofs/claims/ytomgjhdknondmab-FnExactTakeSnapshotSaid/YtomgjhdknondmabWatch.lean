/-
  Watched windows: l3Watched and l3Number of spec, areWindows on a list, isWatched and hasWatched of impl.
-/
import Derived.Test.YtomgjhdknondmabWins
import Derived.Test.YtomgjhdknondmabSpecM
import Derived.Deep.RegionHeld3
namespace Go.Proofs.Ytomgjhdknondmab
open Go.RowKit

set_option maxHeartbeats 800000 in
theorem areWindowsL_calls (A : Option Addr) (c : Nat) (m : List (List Int)) (B : Option Addr) (k : Nat) (xs : List Win) (w : World) (hr : Rd2 w w.heap.size A m) (hn : m.length ≤ maxLen) (hx : RdW w w.heap.size B xs) (hw : ∀ x ∈ xs, WArg x) (hl : xs.length ≤ 16) :
    Calls Try.prog 111 #[.agg #[.slice A m.length c], .slice B xs.length k] w fun e w' => e = .returned (.bool (decide (AllOK m xs))) ∧ Below w.heap.size w w' := by
  obtain ⟨w0, hw0⟩ : ∃ w0, (w.alloc (.cells #[.slice A m.length c] 31)) = w0 := ⟨_, rfl⟩
  have hb0 : Below w.heap.size w w0 := by rw [← hw0]; exact (Below.refl _ _).alloc (Nat.le_refl _) _
  have hg0 : w0.heap[w.heap.size]? = some (.cells #[.slice A m.length c] 31) := by rw [← hw0]; exact heap_alloc_new _ _
  have HC := Lib.hid (implIsMemory_calls A c m w0 ((hr.below hb0).more hb0.size) hn)
  have HR := Lib.hid hr
  have HB := Lib.hid hb0
  have HW := Lib.hid hw0
  have HG := Lib.hid hg0
  have HX := Lib.hid hx
  have HWA := Lib.hid hw
  have c1 := one_cell hg0
  clear hr hb0 hw0 hx hw hg0
  go_enter Try.func111, Try.ntmps111
  go_wp2_with fail
  rw [HW.out]
  refine HC.out.mono ?_
  rintro e w2 ⟨rfl, hb2⟩
  have HB2 := Lib.hid (HB.out.trans (hb2.mono HB.out.size))
  have hg2 := (hb2.block _ (Array.getElem?_eq_some_iff.1 HG.out).1).trans HG.out
  have HG2 := Lib.hid hg2
  have HX2 := Lib.hid (HX.out.below HB2.out)
  clear hb2 c1 hg2
  by_cases hm : MemOK m
  · have hd : decide (MemOK m) = true := decide_eq_true hm
    have HM := Lib.hid hm
    clear hm
    go_wp2_with fail
    go_loopw [12] (fun i wr => ∃ j : Nat, j ≤ xs.length ∧ i = .int .i64 j ∧ (∀ x ∈ xs.take j, WinOK m x) ∧ Below w2.heap.size w2 wr) (fun i _ => xs.length - (intOf i).toNat)
    case atStart => exact ⟨0, Nat.zero_le _, rfl, by simp, Below.refl _ _⟩
    case round =>
      obtain ⟨j, hj, rfl, ht, hbr⟩ := hrel
      have HT := Lib.hid ht
      have HBR := Lib.hid hbr
      have hg3 := (hbr.block _ (Array.getElem?_eq_some_iff.1 HG2.out).1).trans HG2.out
      have c3 := one_cell hg3
      have HG3 := Lib.hid hg3
      clear ht hbr hg3
      by_cases hlt : j < xs.length
      · obtain ⟨b, off, rfl, hbb, e0, e1, e2, e3⟩ := (HX2.out.below (HBR.out.mono HB2.out.size)).at_ hlt
        have HXA := Lib.hid (HWA.out xs[j] (List.getElem_mem hlt))
        have HS := Lib.hid (show xs.take (j + 1) = xs.take j ++ [xs[j]] from List.take_succ_eq_append_getElem hlt)
        have HMEM := Lib.hid (List.getElem_mem hlt)
        generalize xs[j] = x at *
        have hbn : Below wr.heap.size wr (wr.alloc (.cells #[.int .i64 x.arr, .int .i64 x.start, .int .i64 x.len, .int .i64 x.cap] 55)) := (Below.refl _ _).alloc (Nat.le_refl _) _
        have HF := Lib.hid (implFits_calls A c m x (wr.alloc (.cells #[.int .i64 x.arr, .int .i64 x.start, .int .i64 x.len, .int .i64 x.cap] 55)) ((HR.out.below ((HB2.out.trans (HBR.out.mono HB2.out.size)).trans (hbn.mono (Nat.le_trans HB2.out.size HBR.out.size)))).more (Nat.le_trans (Nat.le_trans HB2.out.size HBR.out.size) hbn.size)) HM.out HXA.out)
        have HBN := Lib.hid hbn
        have c4 := one_cell (alloc_old (.cells #[.int .i64 x.arr, .int .i64 x.start, .int .i64 x.len, .int .i64 x.cap] 55) HG3.out)
        clear hbn
        go_wp2_with fail
        refine HF.out.mono ?_
        rintro e w5 ⟨rfl, hb5⟩
        have HB5 := Lib.hid (HBR.out.trans ((HBN.out.trans (hb5.mono HBN.out.size)).mono HBR.out.size))
        clear hb5
        by_cases hok : WinOK m x
        · have hd2 : decide (WinOK m x) = true := decide_eq_true hok
          have HO := Lib.hid hok
          clear hok
          go_wp2_with fail
          go_roundw
          case rel => exact ⟨j + 1, by omega, by go_num, by rw [HS.out]; intro y hy; rcases List.mem_append.1 hy with hy | hy; exact HT.out y hy; rw [List.mem_singleton.1 hy]; exact HO.out, HB5.out⟩
          case measure => simp [intOf]; omega
        · have hd2 : decide (WinOK m x) = false := decide_eq_false hok
          have HD := Lib.hid (show decide (AllOK m xs) = false from decide_eq_false fun h => hok (h.2 x HMEM.out))
          clear hok
          go_wp2_with fail
          go_ret
          exact ⟨ret_bool HD.out.symm, HB2.out.trans (HB5.out.mono HB2.out.size)⟩
      · obtain rfl : j = xs.length := by omega
        have HD := Lib.hid (show decide (AllOK m xs) = true from decide_eq_true ⟨HM.out, by have := HT.out; rwa [List.take_length] at this⟩)
        go_wp2_with fail
        go_ret
        exact ⟨ret_bool HD.out.symm, HB2.out.trans (HBR.out.mono HB2.out.size)⟩
  · have hd : decide (MemOK m) = false := decide_eq_false hm
    have HD := Lib.hid (show decide (AllOK m xs) = false from decide_eq_false fun h => hm h.1)
    clear hm
    go_wp2_with fail
    go_ret
    exact ⟨ret_bool HD.out.symm, HB2.out⟩

/-- Lists of windows that are watched. -/
def Watched (m : List (List Int)) (L : List Win) : Prop := MemOK m ∧ L.length ≤ 12 ∧ ∀ x ∈ L, WinOK m x
instance (m : List (List Int)) (L : List Win) : Decidable (Watched m L) := by unfold Watched; exact inferInstance
theorem watched_all {m : List (List Int)} {L : List Win} (h : L.length ≤ 12) : decide (AllOK m L) = decide (Watched m L) :=
  decide_eq_decide.2 ⟨fun a => ⟨a.1, h, a.2⟩, fun a => ⟨a.1, a.2.2⟩⟩

theorem isWatched_calls (A : Option Addr) (c : Nat) (m : List (List Int)) (B : Option Addr) (k : Nat) (L : List Win) (w : World) (hr : Rd2 w w.heap.size A m) (hn : m.length ≤ maxLen) (hx : RdW w w.heap.size B L) (hw : ∀ x ∈ L, WArg x) (hl : L.length ≤ maxLen) :
    Calls Try.prog 88 #[.agg #[.slice A m.length c], .slice B L.length k] w fun e w' => e = .returned (.bool (decide (Watched m L))) ∧ Below w.heap.size w w' := by
  unfold maxLen at hl
  obtain ⟨w0, hw0⟩ : ∃ w0, (w.alloc (.cells #[.slice A m.length c] 31)) = w0 := ⟨_, rfl⟩
  have hb0 : Below w.heap.size w w0 := by rw [← hw0]; exact (Below.refl _ _).alloc (Nat.le_refl _) _
  by_cases h12 : L.length ≤ 12
  · have HC := Lib.hid (areWindowsL_calls A c m B k L w0 ((hr.below hb0).more hb0.size) hn ((hx.below hb0).more hb0.size) hw (by omega))
    rw [watched_all h12] at HC
    have HB := Lib.hid hb0
    have HW := Lib.hid hw0
    clear hr hx hw hb0 hw0
    go_enter Try.func88, Try.ntmps88
    go_wp2_with fail
    rw [HW.out]
    refine HC.out.mono ?_
    rintro e w2 ⟨rfl, hb2⟩
    have HB2 := Lib.hid (HB.out.trans (hb2.mono HB.out.size))
    clear hb2
    go_wp2_with fail
    go_ret
    exact ⟨rfl, HB2.out⟩
  · have HD := Lib.hid (show decide (Watched m L) = false from decide_eq_false fun h => h12 h.2.1)
    have HB := Lib.hid hb0
    have HW := Lib.hid hw0
    have h13 : 12 < L.length := by omega
    clear hr hx hw hb0 hw0 h12
    go_enter Try.func88, Try.ntmps88
    go_wp2_with fail
    go_ret
    exact ⟨ret_bool HD.out.symm, by rw [HW.out]; exact HB.out⟩

set_option maxHeartbeats 1600000 in
theorem specWatched_calls (A : Option Addr) (c : Nat) (m : List (List Int)) (B : Option Addr) (k : Nat) (L : List Win) (w : World) (hr : Rd2 w w.heap.size A m) (hn : m.length ≤ maxLen) (hx : RdW w w.heap.size B L) (hl : L.length ≤ maxLen) :
    Calls Try.prog 85 #[.agg #[.slice A m.length c], .slice B L.length k] w fun e w' => e = .returned (.bool (decide (Watched m L))) ∧ Below w.heap.size w w' := by
  unfold maxLen at hl
  obtain ⟨w0, hw0⟩ : ∃ w0, (w.alloc (.cells #[.slice A m.length c] 31)) = w0 := ⟨_, rfl⟩
  have hb0 : Below w.heap.size w w0 := by rw [← hw0]; exact (Below.refl _ _).alloc (Nat.le_refl _) _
  have hg0 : w0.heap[w.heap.size]? = some (.cells #[.slice A m.length c] 31) := by rw [← hw0]; exact heap_alloc_new _ _
  have HR := Lib.hid hr
  have HX := Lib.hid hx
  have HB := Lib.hid hb0
  have HW := Lib.hid hw0
  have HG := Lib.hid hg0
  clear hr hx hb0 hw0 hg0
  go_enter Try.func85, Try.ntmps85
  go_wp2_with fail
  rw [HW.out]
  go_loopw [5] (fun i wr => ∃ j : Nat, j ≤ L.length ∧ j ≤ 13 ∧ i = .int .i64 j ∧ (∀ x ∈ L.take j, WinOK m x) ∧ Below w0.heap.size w0 wr) (fun i _ => L.length - (intOf i).toNat)
  case atStart => exact ⟨0, Nat.zero_le _, by omega, rfl, by simp, Below.refl _ _⟩
  case round =>
    obtain ⟨j, hj, hj13, rfl, ht, hbr⟩ := hrel
    have HT := Lib.hid ht
    have HBR := Lib.hid (HB.out.trans (hbr.mono HB.out.size))
    have HBR0 := Lib.hid hbr
    have hg3 := (hbr.block _ (Array.getElem?_eq_some_iff.1 HG.out).1).trans HG.out
    have HG3 := Lib.hid hg3
    have c3 := one_cell hg3
    clear ht hbr hg3
    by_cases hlt : j < L.length
    · by_cases h12 : j ≤ 12
      · obtain ⟨b, off, rfl, hbb, e0, e1, e2, e3⟩ := (HX.out.below HBR.out).at_ hlt
        have HS := Lib.hid (show L.take (j + 1) = L.take j ++ [L[j]] from List.take_succ_eq_append_getElem hlt)
        have HMEM := Lib.hid (List.getElem_mem hlt)
        generalize L[j] = x at *
        have HA := Lib.hid (fun W (h : Below wr.heap.size wr W) => show W.cell? ⟨w.heap.size, 0, none⟩ = some (.slice A m.length c) ∧ W.cell? ⟨b, off + j * 4, none⟩ = some (.int .i64 x.arr) ∧ W.cell? ⟨b, off + j * 4 + 1, none⟩ = some (.int .i64 x.start) ∧ W.cell? ⟨b, off + j * 4 + 2, none⟩ = some (.int .i64 x.len) ∧ W.cell? ⟨b, off + j * 4 + 3, none⟩ = some (.int .i64 x.cap) from ⟨(h.cell (cell_lt c3)).trans c3, (h.cell (cell_lt e0)).trans e0, (h.cell (cell_lt e1)).trans e1, (h.cell (cell_lt e2)).trans e2, (h.cell (cell_lt e3)).trans e3⟩)
        have HC := Lib.hid (fun W (hb : Below wr.heap.size wr W) => specWindow_calls A c m x W ((HR.out.below (HBR.out.trans (hb.mono HBR.out.size))).more (Nat.le_trans HBR.out.size hb.size)) hn)
        by_cases hok : WinOK m x
        · rw [show decide (WinOK m x) = true from decide_eq_true hok] at HC
          have HO := Lib.hid hok
          clear hok
          go_wp2_with fail
          go_region_held3 (fun W => W.cell? ⟨w.heap.size, 0, none⟩ = some (.slice A m.length c) ∧ W.cell? ⟨b, off + j * 4, none⟩ = some (.int .i64 x.arr) ∧ W.cell? ⟨b, off + j * 4 + 1, none⟩ = some (.int .i64 x.start) ∧ W.cell? ⟨b, off + j * 4 + 2, none⟩ = some (.int .i64 x.len) ∧ W.cell? ⟨b, off + j * 4 + 3, none⟩ = some (.int .i64 x.cap))
            (first | exact ⟨c3, e0, e1, e2, e3⟩ | exact HA.out _ hc5)
            ((go_at_call 109; refine (HC.out _ (by (repeat (first | (with_reducible exact Below.refl _ _) | (with_reducible refine Below.drew ?_) | ((with_reducible refine Below.alloc ?_ ?hB _); case hB => (first | (with_reducible exact Nat.le_refl _) | omega | (simp; done) | (simp; omega))) | ((with_reducible refine Below.setCell ?_ ?hB _); case hB => (first | (with_reducible exact Nat.le_refl _) | omega | (simp; done) | (simp; omega))))))).mono ?_; rintro e w5 ⟨rfl, hb5⟩; have hc5 : Below wr.heap.size wr w5 := ⟨hb5.os, hb5.tape, hb5.output, hb5.size, hb5.block⟩))
          have HB5 := Lib.hid (show Below w0.heap.size w0 w5 from HBR0.out.trans ((show Below wr.heap.size wr w5 from ⟨hb5.os, hb5.tape, hb5.output, hb5.size, hb5.block⟩).mono HBR0.out.size))
          clear hb5 hc5
          go_wp2_with fail
          go_roundw
          case rel => exact ⟨j + 1, by omega, by omega, by go_num, by rw [HS.out]; intro y hy; rcases List.mem_append.1 hy with hy | hy; exact HT.out y hy; rw [List.mem_singleton.1 hy]; exact HO.out, HB5.out⟩
          case measure => simp [intOf]; omega
        · rw [show decide (WinOK m x) = false from decide_eq_false hok] at HC
          have HD := Lib.hid (show decide (Watched m L) = false from decide_eq_false fun h => hok (h.2.2 x HMEM.out))
          clear hok
          go_wp2_with fail
          go_region_held3 (fun W => W.cell? ⟨w.heap.size, 0, none⟩ = some (.slice A m.length c) ∧ W.cell? ⟨b, off + j * 4, none⟩ = some (.int .i64 x.arr) ∧ W.cell? ⟨b, off + j * 4 + 1, none⟩ = some (.int .i64 x.start) ∧ W.cell? ⟨b, off + j * 4 + 2, none⟩ = some (.int .i64 x.len) ∧ W.cell? ⟨b, off + j * 4 + 3, none⟩ = some (.int .i64 x.cap))
            (first | exact ⟨c3, e0, e1, e2, e3⟩ | exact HA.out _ hc5)
            ((go_at_call 109; refine (HC.out _ (by (repeat (first | (with_reducible exact Below.refl _ _) | (with_reducible refine Below.drew ?_) | ((with_reducible refine Below.alloc ?_ ?hB _); case hB => (first | (with_reducible exact Nat.le_refl _) | omega | (simp; done) | (simp; omega))) | ((with_reducible refine Below.setCell ?_ ?hB _); case hB => (first | (with_reducible exact Nat.le_refl _) | omega | (simp; done) | (simp; omega))))))).mono ?_; rintro e w5 ⟨rfl, hb5⟩; have hc5 : Below wr.heap.size wr w5 := ⟨hb5.os, hb5.tape, hb5.output, hb5.size, hb5.block⟩))
          have HB5 := Lib.hid (HBR.out.trans ((show Below wr.heap.size wr w5 from ⟨hb5.os, hb5.tape, hb5.output, hb5.size, hb5.block⟩).mono HBR.out.size))
          clear hb5 hc5
          go_wp2_with fail
          go_ret
          exact ⟨ret_bool HD.out.symm, HB5.out⟩
      · have h13 : 12 < j := by omega
        have HD := Lib.hid (show decide (Watched m L) = false from decide_eq_false fun h => by have := h.2.1; omega)
        have HM := Lib.hid (specMemory_calls A c m wr ((HR.out.below HBR.out).more HBR.out.size) hn)
        clear h12
        go_wp2_with fail
        refine HM.out.mono ?_
        rintro e w5 ⟨rfl, hb5⟩
        have HB5 := Lib.hid (HBR.out.trans (hb5.mono HBR.out.size))
        have h14 : 12 < L.length := by omega
        clear hb5
        by_cases hm : MemOK m
        · rw [show decide (MemOK m) = true from decide_eq_true hm]
          clear hm
          go_wp2_with fail
          go_ret
          exact ⟨ret_bool (by rw [HD.out]; exact decide_eq_false (by omega)), HB5.out⟩
        · rw [show decide (MemOK m) = false from decide_eq_false hm]
          clear hm
          go_wp2_with fail
          go_ret
          exact ⟨ret_bool HD.out.symm, HB5.out⟩
    · obtain rfl : j = L.length := by omega
      have HM := Lib.hid (specMemory_calls A c m wr ((HR.out.below HBR.out).more HBR.out.size) hn)
      have HTL := Lib.hid (show ∀ x ∈ L, WinOK m x by have := HT.out; rwa [List.take_length] at this)
      go_wp2_with fail
      refine HM.out.mono ?_
      rintro e w5 ⟨rfl, hb5⟩
      have HB5 := Lib.hid (HBR.out.trans (hb5.mono HBR.out.size))
      clear hb5
      by_cases hm : MemOK m
      · rw [show decide (MemOK m) = true from decide_eq_true hm]
        by_cases h12 : L.length ≤ 12
        · have HD := Lib.hid (show decide (Watched m L) = true from decide_eq_true ⟨hm, h12, HTL.out⟩)
          clear hm
          go_wp2_with fail
          go_ret
          exact ⟨ret_bool (by rw [HD.out]; exact decide_eq_true (by omega)), HB5.out⟩
        · have HD := Lib.hid (show decide (Watched m L) = false from decide_eq_false fun h => h12 h.2.1)
          have h13 : 12 < L.length := by omega
          clear hm h12
          go_wp2_with fail
          go_ret
          exact ⟨ret_bool (by rw [HD.out]; exact decide_eq_false (by omega)), HB5.out⟩
      · rw [show decide (MemOK m) = false from decide_eq_false hm]
        have HD := Lib.hid (show decide (Watched m L) = false from decide_eq_false fun h => hm h.1)
        clear hm
        go_wp2_with fail
        go_ret
        exact ⟨ret_bool HD.out.symm, HB5.out⟩
end Go.Proofs.Ytomgjhdknondmab
