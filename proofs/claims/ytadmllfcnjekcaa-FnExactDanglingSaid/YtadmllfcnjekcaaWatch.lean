/-
  Watched windows: l3Watched and l3Number of spec, areWindows on a list, isWatched and hasWatched of impl.
-/
import Derived.Test.YtadmllfcnjekcaaWins
import Derived.Test.YtadmllfcnjekcaaSpecM
import Derived.Deep.RegionHeld3
namespace Go.Proofs.Ytadmllfcnjekcaa
open Go.RowKit

set_option maxHeartbeats 800000 in
theorem areWindowsL_calls (A : Option Addr) (c : Nat) (m : List (List Int)) (B : Option Addr) (k : Nat) (xs : List Win) (w : World) (hr : Rd2 w w.heap.size A m) (hn : m.length ≤ maxLen) (hx : RdW w w.heap.size B xs) (hw : ∀ x ∈ xs, WArg x) (hl : xs.length ≤ 16) :
    Calls Try.prog 81 #[.agg #[.slice A m.length c], .slice B xs.length k] w fun e w' => e = .returned (.bool (decide (AllOK m xs))) ∧ Below w.heap.size w w' := by
  obtain ⟨w0, hw0⟩ : ∃ w0, (w.alloc (.cells #[.slice A m.length c] 32)) = w0 := ⟨_, rfl⟩
  have hb0 : Below w.heap.size w w0 := by rw [← hw0]; exact (Below.refl _ _).alloc (Nat.le_refl _) _
  have hg0 : w0.heap[w.heap.size]? = some (.cells #[.slice A m.length c] 32) := by rw [← hw0]; exact heap_alloc_new _ _
  have HC := Lib.hid (implIsMemory_calls A c m w0 ((hr.below hb0).more hb0.size) hn)
  have HR := Lib.hid hr
  have HB := Lib.hid hb0
  have HW := Lib.hid hw0
  have HG := Lib.hid hg0
  have HX := Lib.hid hx
  have HWA := Lib.hid hw
  have c1 := one_cell hg0
  clear hr hb0 hw0 hx hw hg0
  go_enter Try.func81, Try.ntmps81
  go_wp2_with fail
  rw [HW.out]
  refine HC.out.mono ?_
  rintro e w2 ⟨rfl, hb2⟩
  have HB2 := Lib.hid (HB.out.trans (hb2.mono HB.out.size))
  have hg2 := (hb2.block _ (Array.getElem?_eq_some_iff.1 HG.out).1).trans HG.out
  have HG2 := Lib.hid hg2
  have HX2 := Lib.hid (HX.out.below HB2.out)
  clear hb2 c1 hg2
  by_cases hm : MemOK m
  · have hd : decide (MemOK m) = true := decide_eq_true hm
    have HM := Lib.hid hm
    clear hm
    go_wp2_with fail
    go_loopw [12] (fun i wr => ∃ j : Nat, j ≤ xs.length ∧ i = .int .i64 j ∧ (∀ x ∈ xs.take j, WinOK m x) ∧ Below w2.heap.size w2 wr) (fun i _ => xs.length - (intOf i).toNat)
    case atStart => exact ⟨0, Nat.zero_le _, rfl, by simp, Below.refl _ _⟩
    case round =>
      obtain ⟨j, hj, rfl, ht, hbr⟩ := hrel
      have HT := Lib.hid ht
      have HBR := Lib.hid hbr
      have hg3 := (hbr.block _ (Array.getElem?_eq_some_iff.1 HG2.out).1).trans HG2.out
      have c3 := one_cell hg3
      have HG3 := Lib.hid hg3
      clear ht hbr hg3
      by_cases hlt : j < xs.length
      · obtain ⟨b, off, rfl, hbb, e0, e1, e2, e3⟩ := (HX2.out.below (HBR.out.mono HB2.out.size)).at_ hlt
        have HXA := Lib.hid (HWA.out xs[j] (List.getElem_mem hlt))
        have HS := Lib.hid (show xs.take (j + 1) = xs.take j ++ [xs[j]] from List.take_succ_eq_append_getElem hlt)
        have HMEM := Lib.hid (List.getElem_mem hlt)
        generalize xs[j] = x at *
        have hbn : Below wr.heap.size wr (wr.alloc (.cells #[.int .i64 x.arr, .int .i64 x.start, .int .i64 x.len, .int .i64 x.cap] 33)) := (Below.refl _ _).alloc (Nat.le_refl _) _
        have HF := Lib.hid (implFits_calls A c m x (wr.alloc (.cells #[.int .i64 x.arr, .int .i64 x.start, .int .i64 x.len, .int .i64 x.cap] 33)) ((HR.out.below ((HB2.out.trans (HBR.out.mono HB2.out.size)).trans (hbn.mono (Nat.le_trans HB2.out.size HBR.out.size)))).more (Nat.le_trans (Nat.le_trans HB2.out.size HBR.out.size) hbn.size)) HM.out HXA.out)
        have HBN := Lib.hid hbn
        have c4 := one_cell (alloc_old (.cells #[.int .i64 x.arr, .int .i64 x.start, .int .i64 x.len, .int .i64 x.cap] 33) HG3.out)
        clear hbn
        go_wp2_with fail
        refine HF.out.mono ?_
        rintro e w5 ⟨rfl, hb5⟩
        have HB5 := Lib.hid (HBR.out.trans ((HBN.out.trans (hb5.mono HBN.out.size)).mono HBR.out.size))
        clear hb5
        by_cases hok : WinOK m x
        · have hd2 : decide (WinOK m x) = true := decide_eq_true hok
          have HO := Lib.hid hok
          clear hok
          go_wp2_with fail
          go_roundw
          case rel => exact ⟨j + 1, by omega, by go_num, by rw [HS.out]; intro y hy; rcases List.mem_append.1 hy with hy | hy; exact HT.out y hy; rw [List.mem_singleton.1 hy]; exact HO.out, HB5.out⟩
          case measure => simp [intOf]; omega
        · have hd2 : decide (WinOK m x) = false := decide_eq_false hok
          have HD := Lib.hid (show decide (AllOK m xs) = false from decide_eq_false fun h => hok (h.2 x HMEM.out))
          clear hok
          go_wp2_with fail
          go_ret
          exact ⟨ret_bool HD.out.symm, HB2.out.trans (HB5.out.mono HB2.out.size)⟩
      · obtain rfl : j = xs.length := by omega
        have HD := Lib.hid (show decide (AllOK m xs) = true from decide_eq_true ⟨HM.out, by have := HT.out; rwa [List.take_length] at this⟩)
        go_wp2_with fail
        go_ret
        exact ⟨ret_bool HD.out.symm, HB2.out.trans (HBR.out.mono HB2.out.size)⟩
  · have hd : decide (MemOK m) = false := decide_eq_false hm
    have HD := Lib.hid (show decide (AllOK m xs) = false from decide_eq_false fun h => hm h.1)
    clear hm
    go_wp2_with fail
    go_ret
    exact ⟨ret_bool HD.out.symm, HB2.out⟩

/-- Lists of windows that are watched. -/
def Watched (m : List (List Int)) (L : List Win) : Prop := MemOK m ∧ L.length ≤ 12 ∧ ∀ x ∈ L, WinOK m x
instance (m : List (List Int)) (L : List Win) : Decidable (Watched m L) := by unfold Watched; exact inferInstance
theorem watched_all {m : List (List Int)} {L : List Win} (h : L.length ≤ 12) : decide (AllOK m L) = decide (Watched m L) :=
  decide_eq_decide.2 ⟨fun a => ⟨a.1, h, a.2⟩, fun a => ⟨a.1, a.2.2⟩⟩

end Go.Proofs.Ytadmllfcnjekcaa
