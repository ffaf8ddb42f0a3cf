/-
  Windows that dangle: areWindows and numbersOf of impl for lists of any length.
-/
import Derived.Test.YtadmllfcnjekcaaArP
import Derived.Test.YtadmllfcnjekcaaIdx
import Derived.Test.YtadmllfcnjekcaaOvl2
namespace Go.Proofs.Ytadmllfcnjekcaa
open Go.RowKit

/-- Numbers of windows that dangle. -/
def dangB (L : List Win) (y : Win) (k : Nat) : Bool := decide (0 < ovl (winAt L k) y)
def dangR (m : List (List Int)) (g : An) (L : List Win) : List Int × Bool := if ArOK m g ∧ AllOK m L then (idxsTo (dangB L (freeW g)) L.length, true) else ([], false)
theorem dangR_small (m : List (List Int)) (g : An) (L : List Win) : (dangR m g L).1.length ≤ L.length := by
  unfold dangR
  split
  · exact idxsTo_len _ _
  · simp
theorem free_tame {m : List (List Int)} {g : An} (h : ArOK m g) : Tame (freeW g) := by
  obtain ⟨b0, b1, b2, b3, b4⟩ := h.bounds
  obtain ⟨n0, n1, n2, n3, n4, n5, n6⟩ := h.nat
  constructor <;> simp only [freeW] <;> omega

set_option maxHeartbeats 800000 in
theorem areAll_calls (A : Option Addr) (c : Nat) (m : List (List Int)) (Z : Option Addr) (k : Nat) (xs : List Win) (w : World) (hr : Rd2 w w.heap.size A m) (hn : m.length ≤ maxLen) (hx : RdW w w.heap.size Z xs) (hw : ∀ x ∈ xs, WArg x) (hl : xs.length ≤ 1048576) :
    Calls Try.prog 81 #[.agg #[.slice A m.length c], .slice Z xs.length k] w fun e w' => e = .returned (.bool (decide (AllOK m xs))) ∧ Below w.heap.size w w' := by
  obtain ⟨w0, hw0⟩ : ∃ w0, (w.alloc (.cells #[.slice A m.length c] 32)) = w0 := ⟨_, rfl⟩
  have hb0 : Below w.heap.size w w0 := by rw [← hw0]; exact (Below.refl _ _).alloc (Nat.le_refl _) _
  have hg0 : w0.heap[w.heap.size]? = some (.cells #[.slice A m.length c] 32) := by rw [← hw0]; exact heap_alloc_new _ _
  have HC := Lib.hid (implIsMemory_calls A c m w0 ((hr.below hb0).more hb0.size) hn)
  have HR := Lib.hid hr
  have HB := Lib.hid hb0
  have HW := Lib.hid hw0
  have HG := Lib.hid hg0
  have HX := Lib.hid ((hx.below hb0).more hb0.size)
  have HWA := Lib.hid hw
  have c1 := one_cell hg0
  clear hr hb0 hw0 hx hw hg0
  go_enter Try.func81, Try.ntmps81
  go_wp2_with fail
  rw [HW.out]
  refine HC.out.mono ?_
  rintro e w2 ⟨rfl, hb2⟩
  have HB2 := Lib.hid (HB.out.trans (hb2.mono HB.out.size))
  have hg2 := (hb2.block _ (Array.getElem?_eq_some_iff.1 HG.out).1).trans HG.out
  have HG2 := Lib.hid hg2
  have HX2 := Lib.hid ((HX.out.below hb2).more hb2.size)
  clear hb2 c1 hg2
  by_cases hm : MemOK m
  · have hd : decide (MemOK m) = true := decide_eq_true hm
    have HM := Lib.hid hm
    clear hm
    go_wp2_with fail
    go_loopw [12] (fun i wr => ∃ j : Nat, j ≤ xs.length ∧ i = .int .i64 j ∧ (∀ x ∈ xs.take j, WinOK m x) ∧ Below w2.heap.size w2 wr) (fun i _ => xs.length - (intOf i).toNat)
    case atStart => exact ⟨0, Nat.zero_le _, rfl, by simp, Below.refl _ _⟩
    case round =>
      obtain ⟨j, hj, rfl, ht, hbr⟩ := hrel
      have HT := Lib.hid ht
      have HBR := Lib.hid hbr
      have hg3 := (hbr.block _ (Array.getElem?_eq_some_iff.1 HG2.out).1).trans HG2.out
      have c3 := one_cell hg3
      have HG3 := Lib.hid hg3
      clear ht hbr hg3
      by_cases hlt : j < xs.length
      · obtain ⟨b, off, rfl, hbb, e0, e1, e2, e3⟩ := (HX2.out.below HBR.out).at_ hlt
        have HXA := Lib.hid (HWA.out xs[j] (List.getElem_mem hlt))
        have HS := Lib.hid (show xs.take (j + 1) = xs.take j ++ [xs[j]] from List.take_succ_eq_append_getElem hlt)
        have HMEM := Lib.hid (List.getElem_mem hlt)
        generalize xs[j] = x at *
        have hbn : Below wr.heap.size wr (wr.alloc (.cells #[.int .i64 x.arr, .int .i64 x.start, .int .i64 x.len, .int .i64 x.cap] 33)) := (Below.refl _ _).alloc (Nat.le_refl _) _
        have HF := Lib.hid (implFits_calls A c m x (wr.alloc (.cells #[.int .i64 x.arr, .int .i64 x.start, .int .i64 x.len, .int .i64 x.cap] 33)) ((HR.out.below ((HB2.out.trans (HBR.out.mono HB2.out.size)).trans (hbn.mono (Nat.le_trans HB2.out.size HBR.out.size)))).more (Nat.le_trans (Nat.le_trans HB2.out.size HBR.out.size) hbn.size)) HM.out HXA.out)
        have HBN := Lib.hid hbn
        have c4 := one_cell (alloc_old (.cells #[.int .i64 x.arr, .int .i64 x.start, .int .i64 x.len, .int .i64 x.cap] 33) HG3.out)
        clear hbn
        go_wp2_with fail
        refine HF.out.mono ?_
        rintro e w5 ⟨rfl, hb5⟩
        have HB5 := Lib.hid (HBR.out.trans ((HBN.out.trans (hb5.mono HBN.out.size)).mono HBR.out.size))
        clear hb5
        by_cases hok : WinOK m x
        · have hd2 : decide (WinOK m x) = true := decide_eq_true hok
          have HO := Lib.hid hok
          clear hok
          go_wp2_with fail
          go_roundw
          case rel => exact ⟨j + 1, by omega, by go_num, by rw [HS.out]; intro y hy; rcases List.mem_append.1 hy with hy | hy; exact HT.out y hy; rw [List.mem_singleton.1 hy]; exact HO.out, HB5.out⟩
          case measure => simp [intOf]; omega
        · have hd2 : decide (WinOK m x) = false := decide_eq_false hok
          have HD := Lib.hid (show decide (AllOK m xs) = false from decide_eq_false fun h => hok (h.2 x HMEM.out))
          clear hok
          go_wp2_with fail
          go_ret
          exact ⟨ret_bool HD.out.symm, HB2.out.trans (HB5.out.mono HB2.out.size)⟩
      · obtain rfl : j = xs.length := by omega
        have HD := Lib.hid (show decide (AllOK m xs) = true from decide_eq_true ⟨HM.out, by have := HT.out; rwa [List.take_length] at this⟩)
        go_wp2_with fail
        go_ret
        exact ⟨ret_bool HD.out.symm, HB2.out.trans (HBR.out.mono HB2.out.size)⟩
  · have hd : decide (MemOK m) = false := decide_eq_false hm
    have HD := Lib.hid (show decide (AllOK m xs) = false from decide_eq_false fun h => hm h.1)
    clear hm
    go_wp2_with fail
    go_ret
    exact ⟨ret_bool HD.out.symm, HB2.out⟩

set_option maxRecDepth 100000 in
set_option maxHeartbeats 1600000 in
/-- numbersOf, handed shares. -/
theorem numbersAll_calls (B : Option Addr) (ck : Nat) (L : List Win) (y : Win) (p : Nat → Bool) (w : World) (hx : RdW w w.heap.size B L) (hl : L.length ≤ 1048576)
    (hp : ∀ (k : Nat) (hk : k < L.length) (W : World), Calls Try.prog 111 #[.agg #[.int .i64 y.arr, .int .i64 y.start, .int .i64 y.len, .int .i64 y.cap], .agg #[.int .i64 L[k].arr, .int .i64 L[k].start, .int .i64 L[k].len, .int .i64 L[k].cap]] W fun e w' => e = .returned (.bool (p k)) ∧ Below W.heap.size W w') :
    Calls Try.prog 109 #[.slice B L.length ck, .func (.func 111) #[.agg #[.int .i64 y.arr, .int .i64 y.start, .int .i64 y.len, .int .i64 y.cap]] #[]] w fun e w' => ∃ g cap, e = .returned (.slice (some ⟨g, 0, none⟩) (idxsTo p L.length).length cap) ∧ w'.ownsRow w.heap.size 3 1 (.slice (some ⟨g, 0, none⟩) (idxsTo p L.length).length cap) (idxsTo p L.length).length (intV .i64 (idxsTo p L.length)) ∧ Below w.heap.size w w' := by
  obtain ⟨i0, hi0, hz, hz1, hz2⟩ := info_parts info_int
  obtain ⟨w3, hw3⟩ : ∃ w3, w.alloc (.cells #[] 3) = w3 := ⟨_, rfl⟩
  have HB3 := Lib.hid (show Below w.heap.size w w3 by rw [← hw3]; exact (Below.refl _ _).alloc (Nat.le_refl _) _)
  have HO3 : Hid (w3.ownsRow w.heap.size 3 1 (.slice (some ⟨w.heap.size, 0, none⟩) 0 0) 0 []) := Lib.hid (by rw [← hw3]; exact World.ownsRow_made (base := w.heap.size) (e := 3) (size := 1) w #[] 0 (Nat.le_refl _) (Nat.zero_le _) rfl)
  have HX := Lib.hid hx
  have HP := Lib.hid hp
  have HW := Lib.hid hw3
  clear hx hw3 hp
  go_enter Try.func109, Try.ntmps109
  go_upto_region 2 with fail
  rw [HW.out]
  go_wp2_with fail
  go_loopw [5, 11] (fun v i wr => ∃ k : Nat, k ≤ L.length ∧ i = .int .i64 k ∧ wr.ownsRow w.heap.size 3 1 v (idxsTo p k).length (intV .i64 (idxsTo p k)) ∧ Below w.heap.size w wr ∧ ∃ g cap, v = .slice (some ⟨g, 0, none⟩) (idxsTo p k).length cap) (fun _ i _ => L.length - (intOf i).toNat)
  case atStart => exact ⟨0, Nat.zero_le _, rfl, by simpa [idxsTo, intV] using HO3.out, HB3.out, _, _, rfl⟩
  case round =>
    obtain ⟨k, hk, rfl, hown, hbr, gv, cv, rfl⟩ := hrel
    have HO := Lib.hid hown
    have HBR := Lib.hid hbr
    have hbs := hbr.size
    have hlen := idxsTo_len p k
    clear hown hbr
    by_cases hlt : k < L.length
    · obtain ⟨b, off, rfl, hbb, e0, e1, e2, e3⟩ := (HX.out.below HBR.out).at_ hlt
      have HPK := Lib.hid (HP.out k hlt)
      generalize L[k] = x at *
      obtain ⟨w1, hw1⟩ : ∃ w1, wr.alloc (.cells #[.int .i64 x.arr, .int .i64 x.start, .int .i64 x.len, .int .i64 x.cap] 33) = w1 := ⟨_, rfl⟩
      have hb1 : Below wr.heap.size wr w1 := by rw [← hw1]; exact (Below.refl _ _).alloc (Nat.le_refl _) _
      have HS := Lib.hid (HPK.out w1)
      have HW1 := Lib.hid hw1
      have HB1 := Lib.hid (HBR.out.trans (hb1.mono hbs))
      have HO1 := Lib.hid (own_below HO.out hb1)
      clear hw1 hb1
      rcases hpk : p k with _ | _
      · have HSN := Lib.hid (idxsTo_no hpk)
        rw [hpk] at HS
        clear hpk
        go_wp2_with fail
        rw [HW1.out]
        refine HS.out.mono ?_
        rintro e w4 ⟨rfl, hb4⟩
        have HB4 := Lib.hid (HB1.out.trans (hb4.mono HB1.out.size))
        have HO4 := Lib.hid (own_below HO1.out hb4)
        clear hb4 e0 e1 e2 e3
        go_wp2_with fail
        go_roundw
        case rel => exact ⟨k + 1, by omega, by go_num, by rw [HSN.out]; exact HO4.out, HB4.out, by rw [HSN.out]; exact ⟨_, _, rfl⟩⟩
        case measure => simp [intOf]; omega
      · have HSN := Lib.hid (idxsTo_yes hpk)
        rw [hpk] at HS
        clear hpk
        go_wp2_with fail
        rw [HW1.out]
        refine HS.out.mono ?_
        rintro e w4 ⟨rfl, hb4⟩
        have HB4 := Lib.hid (HB1.out.trans (hb4.mono HB1.out.size))
        have HO4 := Lib.hid (own_below HO1.out hb4)
        have hbs4 := HB4.out.size
        clear hb4 e0 e1 e2 e3
        go_wp2_with ((at_builtin; refine wpList_append_own _ rfl _ _ 27 rfl w.heap.size 3 i0 _ 1 8 Try.underlying27 hi0 hz hz1 hz2 rfl (by decide) _ _ _ rfl (HO4.out.alloc _) ⟨w4.heap.size, 0, none⟩ 1 1 [.int .i64 k] rfl rfl (cell_one_new _ _ _) (by simp [Value.oneCell']) (by simp only [maxLen]; omega) (by omega) (by simp; omega) ?_; intro v' w5 hown5 hgrow _))
        have HB5 : Hid (Below w.heap.size w w5) := below_own0 (HB4.out.alloc hbs4 _) (HO4.out.alloc _) hgrow (by simp; omega)
        have HL5 := Lib.hid (show (idxsTo p (k + 1)).length = (idxsTo p k).length + 1 by rw [HSN.out]; simp)
        have HO5 : Hid (w5.ownsRow w.heap.size 3 1 v' (idxsTo p (k + 1)).length (intV .i64 (idxsTo p (k + 1)))) := Lib.hid (by
          rw [HL5.out, show intV .i64 (idxsTo p (k + 1)) = intV .i64 (idxsTo p k) ++ [.int .i64 k] by rw [HSN.out]; simp [intV]]; exact hown5)
        have HF5 := Lib.hid (own_some0 HO5.out (by rw [HL5.out]; omega))
        clear hown5 hgrow
        go_roundw
        case rel => exact ⟨k + 1, by omega, by go_num, HO5.out, HB5.out, HF5.out⟩
        case measure => simp [intOf]; omega
    · obtain rfl : k = L.length := by omega
      go_wp2_with fail
      go_ret
      exact ⟨_, _, rfl, HO.out, HBR.out⟩
end Go.Proofs.Ytadmllfcnjekcaa
