/-
  The numbers of windows that share with one: numbersOf of impl, handed shares.
-/
import Derived.Test.YtomgjhdknondmaaIdx
import Derived.Test.YtomgjhdknondmaaOvl2
namespace Go.Proofs.Ytomgjhdknondmaa
open Go.RowKit

set_option maxRecDepth 100000 in
set_option maxHeartbeats 1600000 in
/-- numbersOf, handed shares. -/
theorem numbersOf_shares_calls (B : Option Addr) (ck : Nat) (L : List Win) (y : Win) (p : Nat → Bool) (w : World) (hx : RdW w w.heap.size B L) (hl : L.length ≤ 12)
    (hp : ∀ (k : Nat) (hk : k < L.length) (W : World), Calls Try.prog 81 #[.agg #[.int .i64 y.arr, .int .i64 y.start, .int .i64 y.len, .int .i64 y.cap], .agg #[.int .i64 L[k].arr, .int .i64 L[k].start, .int .i64 L[k].len, .int .i64 L[k].cap]] W fun e w' => e = .returned (.bool (p k)) ∧ Below W.heap.size W w') :
    Calls Try.prog 85 #[.slice B L.length ck, .func (.func 81) #[.agg #[.int .i64 y.arr, .int .i64 y.start, .int .i64 y.len, .int .i64 y.cap]] #[]] w fun e w' => ∃ g cap, e = .returned (.slice (some ⟨g, 0, none⟩) (idxsTo p L.length).length cap) ∧ w'.ownsRow w.heap.size 3 1 (.slice (some ⟨g, 0, none⟩) (idxsTo p L.length).length cap) (idxsTo p L.length).length (intV .i64 (idxsTo p L.length)) ∧ Below w.heap.size w w' := by
  obtain ⟨i0, hi0, hz, hz1, hz2⟩ := info_parts info_int
  obtain ⟨w3, hw3⟩ : ∃ w3, w.alloc (.cells #[] 3) = w3 := ⟨_, rfl⟩
  have HB3 := Lib.hid (show Below w.heap.size w w3 by rw [← hw3]; exact (Below.refl _ _).alloc (Nat.le_refl _) _)
  have HO3 : Hid (w3.ownsRow w.heap.size 3 1 (.slice (some ⟨w.heap.size, 0, none⟩) 0 0) 0 []) := Lib.hid (by rw [← hw3]; exact World.ownsRow_made (base := w.heap.size) (e := 3) (size := 1) w #[] 0 (Nat.le_refl _) (Nat.zero_le _) rfl)
  have HX := Lib.hid hx
  have HP := Lib.hid hp
  have HW := Lib.hid hw3
  clear hx hw3 hp
  go_enter Try.func85, Try.ntmps85
  go_upto_region 2 with fail
  rw [HW.out]
  go_wp2_with fail
  go_loopw [5, 11] (fun v i wr => ∃ k : Nat, k ≤ L.length ∧ i = .int .i64 k ∧ wr.ownsRow w.heap.size 3 1 v (idxsTo p k).length (intV .i64 (idxsTo p k)) ∧ Below w.heap.size w wr ∧ ∃ g cap, v = .slice (some ⟨g, 0, none⟩) (idxsTo p k).length cap) (fun _ i _ => L.length - (intOf i).toNat)
  case atStart => exact ⟨0, Nat.zero_le _, rfl, by simpa [idxsTo, intV] using HO3.out, HB3.out, _, _, rfl⟩
  case round =>
    obtain ⟨k, hk, rfl, hown, hbr, gv, cv, rfl⟩ := hrel
    have HO := Lib.hid hown
    have HBR := Lib.hid hbr
    have hbs := hbr.size
    have hlen := idxsTo_len p k
    clear hown hbr
    by_cases hlt : k < L.length
    · obtain ⟨b, off, rfl, hbb, e0, e1, e2, e3⟩ := (HX.out.below HBR.out).at_ hlt
      have HPK := Lib.hid (HP.out k hlt)
      generalize L[k] = x at *
      obtain ⟨w1, hw1⟩ : ∃ w1, wr.alloc (.cells #[.int .i64 x.arr, .int .i64 x.start, .int .i64 x.len, .int .i64 x.cap] 28) = w1 := ⟨_, rfl⟩
      have hb1 : Below wr.heap.size wr w1 := by rw [← hw1]; exact (Below.refl _ _).alloc (Nat.le_refl _) _
      have HS := Lib.hid (HPK.out w1)
      have HW1 := Lib.hid hw1
      have HB1 := Lib.hid (HBR.out.trans (hb1.mono hbs))
      have HO1 := Lib.hid (own_below HO.out hb1)
      clear hw1 hb1
      rcases hpk : p k with _ | _
      · have HSN := Lib.hid (idxsTo_no hpk)
        rw [hpk] at HS
        clear hpk
        go_wp2_with fail
        rw [HW1.out]
        refine HS.out.mono ?_
        rintro e w4 ⟨rfl, hb4⟩
        have HB4 := Lib.hid (HB1.out.trans (hb4.mono HB1.out.size))
        have HO4 := Lib.hid (own_below HO1.out hb4)
        clear hb4 e0 e1 e2 e3
        go_wp2_with fail
        go_roundw
        case rel => exact ⟨k + 1, by omega, by go_num, by rw [HSN.out]; exact HO4.out, HB4.out, by rw [HSN.out]; exact ⟨_, _, rfl⟩⟩
        case measure => simp [intOf]; omega
      · have HSN := Lib.hid (idxsTo_yes hpk)
        rw [hpk] at HS
        clear hpk
        go_wp2_with fail
        rw [HW1.out]
        refine HS.out.mono ?_
        rintro e w4 ⟨rfl, hb4⟩
        have HB4 := Lib.hid (HB1.out.trans (hb4.mono HB1.out.size))
        have HO4 := Lib.hid (own_below HO1.out hb4)
        have hbs4 := HB4.out.size
        clear hb4 e0 e1 e2 e3
        go_wp2_with ((at_builtin; refine wpList_append_own _ rfl _ _ 39 rfl w.heap.size 3 i0 _ 1 8 Try.underlying39 hi0 hz hz1 hz2 rfl (by decide) _ _ _ rfl (HO4.out.alloc _) ⟨w4.heap.size, 0, none⟩ 1 1 [.int .i64 k] rfl rfl (cell_one_new _ _ _) (by simp [Value.oneCell']) (by simp only [maxLen]; omega) (by omega) (by simp; omega) ?_; intro v' w5 hown5 hgrow _))
        have HB5 : Hid (Below w.heap.size w w5) := below_own0 (HB4.out.alloc hbs4 _) (HO4.out.alloc _) hgrow (by simp; omega)
        have HL5 := Lib.hid (show (idxsTo p (k + 1)).length = (idxsTo p k).length + 1 by rw [HSN.out]; simp)
        have HO5 : Hid (w5.ownsRow w.heap.size 3 1 v' (idxsTo p (k + 1)).length (intV .i64 (idxsTo p (k + 1)))) := Lib.hid (by
          rw [HL5.out, show intV .i64 (idxsTo p (k + 1)) = intV .i64 (idxsTo p k) ++ [.int .i64 k] by rw [HSN.out]; simp [intV]]; exact hown5)
        have HF5 := Lib.hid (own_some0 HO5.out (by rw [HL5.out]; omega))
        clear hown5 hgrow
        go_roundw
        case rel => exact ⟨k + 1, by omega, by go_num, HO5.out, HB5.out, HF5.out⟩
        case measure => simp [intOf]; omega
    · obtain rfl : k = L.length := by omega
      go_wp2_with fail
      go_ret
      exact ⟨_, _, rfl, HO.out, HBR.out⟩
end Go.Proofs.Ytomgjhdknondmaa
