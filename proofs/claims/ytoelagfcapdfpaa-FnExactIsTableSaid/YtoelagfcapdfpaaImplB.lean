/-
  The program's tests on several windows, and the bytes that a window sees: areWindows, seenBytes of impl.
-/
import Derived.Test.YtoelagfcapdfpaaImplA
namespace Go.Proofs.Ytoelagfcapdfpaa
open Go.RowKit

/-- The cells at b, off are windows. -/
def WinsAt (W : World) (b off : Nat) (xs : List Win) : Prop :=
  ∀ (i : Nat) (x : Win), xs[i]? = some x → W.cell? ⟨b, off + i * 4, none⟩ = some (.int .i64 x.arr) ∧ W.cell? ⟨b, off + i * 4 + 1, none⟩ = some (.int .i64 x.start) ∧ W.cell? ⟨b, off + i * 4 + 2, none⟩ = some (.int .i64 x.len) ∧ W.cell? ⟨b, off + i * 4 + 3, none⟩ = some (.int .i64 x.cap)
theorem WinsAt.below {W W' : World} {b off : Nat} {xs : List Win} (h : WinsAt W b off xs) (hb : Below W.heap.size W W') (hlt : b < W.heap.size) : WinsAt W' b off xs := fun i x hx => by
  obtain ⟨h0, h1, h2, h3⟩ := h i x hx
  exact ⟨(hb.cell (p := ⟨b, _, none⟩) hlt).trans h0, (hb.cell (p := ⟨b, _, none⟩) hlt).trans h1, (hb.cell (p := ⟨b, _, none⟩) hlt).trans h2, (hb.cell (p := ⟨b, _, none⟩) hlt).trans h3⟩
/-- What areWindows tells. -/
def AllOK (m : List (List Int)) (xs : List Win) : Prop := MemOK m ∧ ∀ x ∈ xs, WinOK m x
instance (m : List (List Int)) (xs : List Win) : Decidable (AllOK m xs) := by unfold AllOK; exact inferInstance

set_option maxHeartbeats 800000 in
theorem areWindows_calls (A : Option Addr) (c : Nat) (m : List (List Int)) (b off k : Nat) (xs : List Win) (w : World) (hr : Rd2 w w.heap.size A m) (hn : m.length ≤ maxLen) (hx : WinsAt w b off xs) (hb : b < w.heap.size) (hw : ∀ x ∈ xs, WArg x) (hl : xs.length ≤ 16) :
    Calls Try.prog 73 #[.agg #[.slice A m.length c], .slice (some ⟨b, off, none⟩) xs.length k] w fun e w' => e = .returned (.bool (decide (AllOK m xs))) ∧ Below w.heap.size w w' := by
  obtain ⟨w0, hw0⟩ : ∃ w0, (w.alloc (.cells #[.slice A m.length c] 31)) = w0 := ⟨_, rfl⟩
  have hb0 : Below w.heap.size w w0 := by rw [← hw0]; exact (Below.refl _ _).alloc (Nat.le_refl _) _
  have hg0 : w0.heap[w.heap.size]? = some (.cells #[.slice A m.length c] 31) := by rw [← hw0]; exact heap_alloc_new _ _
  have HC := Lib.hid (implIsMemory_calls A c m w0 ((hr.below hb0).more hb0.size) hn)
  have HR := Lib.hid hr
  have HB := Lib.hid hb0
  have HW := Lib.hid hw0
  have HG := Lib.hid hg0
  have HX := Lib.hid (hx.below hb0 hb)
  have HWA := Lib.hid hw
  have hbb0 : b < w0.heap.size := Nat.lt_of_lt_of_le hb hb0.size
  have c1 := one_cell hg0
  clear hr hb0 hw0 hx hw hg0
  go_enter Try.func73, Try.ntmps73
  go_wp2_with fail
  rw [HW.out]
  refine HC.out.mono ?_
  rintro e w2 ⟨rfl, hb2⟩
  have HB2 := Lib.hid (HB.out.trans (hb2.mono HB.out.size))
  have hg2 := (hb2.block _ (Array.getElem?_eq_some_iff.1 HG.out).1).trans HG.out
  have HG2 := Lib.hid hg2
  have HX2 := Lib.hid (HX.out.below hb2 hbb0)
  have hbb2 : b < w2.heap.size := Nat.lt_of_lt_of_le hbb0 hb2.size
  clear hb2 c1 hg2
  by_cases hm : MemOK m
  · have hd : decide (MemOK m) = true := decide_eq_true hm
    have HM := Lib.hid hm
    clear hm
    go_wp2_with fail
    go_loopw [12] (fun i wr => ∃ j : Nat, j ≤ xs.length ∧ i = .int .i64 j ∧ (∀ x ∈ xs.take j, WinOK m x) ∧ Below w2.heap.size w2 wr) (fun i _ => xs.length - (intOf i).toNat)
    case atStart => exact ⟨0, Nat.zero_le _, rfl, by simp, Below.refl _ _⟩
    case round =>
      obtain ⟨j, hj, rfl, ht, hbr⟩ := hrel
      have HT := Lib.hid ht
      have HBR := Lib.hid hbr
      have hg3 := (hbr.block _ (Array.getElem?_eq_some_iff.1 HG2.out).1).trans HG2.out
      have c3 := one_cell hg3
      have HG3 := Lib.hid hg3
      clear ht hbr hg3
      by_cases hlt : j < xs.length
      · obtain ⟨e0, e1, e2, e3⟩ := (HX2.out.below HBR.out hbb2) j xs[j] (List.getElem?_eq_getElem hlt)
        have HXA := Lib.hid (HWA.out xs[j] (List.getElem_mem hlt))
        have HS := Lib.hid (show xs.take (j + 1) = xs.take j ++ [xs[j]] from List.take_succ_eq_append_getElem hlt)
        have HMEM := Lib.hid (List.getElem_mem hlt)
        generalize xs[j] = x at *
        have hbn : Below wr.heap.size wr (wr.alloc (.cells #[.int .i64 x.arr, .int .i64 x.start, .int .i64 x.len, .int .i64 x.cap] 33)) := (Below.refl _ _).alloc (Nat.le_refl _) _
        have HF := Lib.hid (implFits_calls A c m x (wr.alloc (.cells #[.int .i64 x.arr, .int .i64 x.start, .int .i64 x.len, .int .i64 x.cap] 33)) ((HR.out.below ((HB2.out.trans (HBR.out.mono HB2.out.size)).trans (hbn.mono (Nat.le_trans HB2.out.size HBR.out.size)))).more (Nat.le_trans (Nat.le_trans HB2.out.size HBR.out.size) hbn.size)) HM.out HXA.out)
        have HBN := Lib.hid hbn
        have c4 := one_cell (alloc_old (.cells #[.int .i64 x.arr, .int .i64 x.start, .int .i64 x.len, .int .i64 x.cap] 33) HG3.out)
        clear hbn
        go_wp2_with fail
        refine HF.out.mono ?_
        rintro e w5 ⟨rfl, hb5⟩
        have HB5 := Lib.hid (HBR.out.trans ((HBN.out.trans (hb5.mono HBN.out.size)).mono HBR.out.size))
        clear hb5
        by_cases hok : WinOK m x
        · have hd2 : decide (WinOK m x) = true := decide_eq_true hok
          have HO := Lib.hid hok
          clear hok
          go_wp2_with fail
          go_roundw
          case rel => exact ⟨j + 1, by omega, by go_num, by rw [HS.out]; intro y hy; rcases List.mem_append.1 hy with hy | hy; exact HT.out y hy; rw [List.mem_singleton.1 hy]; exact HO.out, HB5.out⟩
          case measure => simp [intOf]; omega
        · have hd2 : decide (WinOK m x) = false := decide_eq_false hok
          have HD := Lib.hid (show decide (AllOK m xs) = false from decide_eq_false fun h => hok (h.2 x HMEM.out))
          clear hok
          go_wp2_with fail
          go_ret
          exact ⟨ret_bool HD.out.symm, HB2.out.trans (HB5.out.mono HB2.out.size)⟩
      · obtain rfl : j = xs.length := by omega
        have HD := Lib.hid (show decide (AllOK m xs) = true from decide_eq_true ⟨HM.out, by have := HT.out; rwa [List.take_length] at this⟩)
        go_wp2_with fail
        go_ret
        exact ⟨ret_bool HD.out.symm, HB2.out.trans (HBR.out.mono HB2.out.size)⟩
  · have hd : decide (MemOK m) = false := decide_eq_false hm
    have HD := Lib.hid (show decide (AllOK m xs) = false from decide_eq_false fun h => hm h.1)
    clear hm
    go_wp2_with fail
    go_ret
    exact ⟨ret_bool HD.out.symm, HB2.out⟩

/-- seenBytes: a part of the memory's own row. -/
theorem seen_calls (b off cm : Nat) (m : List (List Int)) (n s l c : Nat) (br offr ci : Nat) (w : World) (hn : n < m.length) (_h16 : m.length ≤ 16) (hl : l ≤ c) (hc : s + c ≤ m[n].length) (_h64 : m[n].length ≤ 64) (hci : m[n].length ≤ ci) (hcm : ci ≤ maxLen)
    (hh : w.cell? ⟨b, off + n, none⟩ = some (.slice (some ⟨br, offr, none⟩) m[n].length ci)) (hb : b < w.heap.size) :
    Calls Try.prog 74 #[.agg #[.slice (some ⟨b, off, none⟩) m.length cm], .agg #[.int .i64 n, .int .i64 s, .int .i64 l, .int .i64 c]] w fun e w' => (∃ o, e = .returned (.slice (some ⟨br, o, none⟩) l c) ∧ (0 < c → o = offr + s)) ∧ Below w.heap.size w w' := by
  unfold maxLen at hcm
  by_cases hc0 : c = 0
  · subst hc0
    obtain rfl : l = 0 := by omega
    rw [show ((0 : Nat) : Int) = 0 from rfl]
    obtain ⟨w0, hw0, hb0, hz0, hmw⟩ := enterMW (some ⟨b, off, none⟩) m.length cm n s 0 0 w
    have c1 := one_cell hmw.mem
    obtain ⟨d0, d1, d2, d3⟩ := four_cells hmw.win
    have e1 := (hb0.cell (p := ⟨b, off + n, none⟩) hb).trans hh
    have HB := Lib.hid hb0
    have HW := Lib.hid hw0
    clear hh hb0 hmw hw0
    go_enter Try.func74, Try.ntmps74
    go_wp2_with fail
    rw [HW.out]
    go_quiet (fail)
    go_wp2_with fail
    go_ret
    exact ⟨⟨_, by simp; rfl, fun h => absurd h (Nat.lt_irrefl _)⟩, below_drewN HB.out _⟩
  · obtain ⟨w0, hw0, hb0, hz0, hmw⟩ := enterMW (some ⟨b, off, none⟩) m.length cm n s l c w
    have c1 := one_cell hmw.mem
    obtain ⟨d0, d1, d2, d3⟩ := four_cells hmw.win
    have e1 := (hb0.cell (p := ⟨b, off + n, none⟩) hb).trans hh
    have HB := Lib.hid hb0
    have HW := Lib.hid hw0
    clear hh hb0 hmw hw0
    go_enter Try.func74, Try.ntmps74
    go_wp2_with fail
    rw [HW.out]
    go_quiet (fail)
    go_wp2_with fail
    go_ret
    exact ⟨⟨offr + s, by simp [show s + l - s = l by omega, show s + c - s = c by omega], fun _ => rfl⟩, below_drewN HB.out _⟩
end Go.Proofs.Ytoelagfcapdfpaa
