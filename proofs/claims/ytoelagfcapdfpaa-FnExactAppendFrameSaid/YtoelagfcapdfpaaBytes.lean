/-
  The bytes that a window sees, as the model lists them: l2Bytes of spec.
-/
import Derived.Test.YtoelagfcapdfpaaOver
namespace Go.Proofs.Ytoelagfcapdfpaa
open Go.RowKit

/-- The form of the value of a row that isn't empty. -/
theorem own_some {w : World} {base : Nat} {e : TypeId} {v : Value} {n : Nat} {xs : List Value} (h : w.ownsRow base e 1 v n xs) (h0 : 0 < n) : ∃ g cap, v = .slice (some ⟨g, 0, none⟩) n cap := by
  rcases h.2 with ⟨_, hn⟩ | ⟨g, cap, cur, hv, _⟩
  · omega
  · exact ⟨g, cap, hv⟩

set_option maxRecDepth 100000 in
set_option maxHeartbeats 1600000 in
theorem specBytes_calls (A : Option Addr) (cm : Nat) (m : List (List Int)) (n s l : Nat) (c : Int) (w : World) (hr : Rd2 w w.heap.size A m) (hn : n < m.length) (h16 : m.length ≤ 16) (hsl : s + l ≤ m[n].length) (h64 : m[n].length ≤ 64) :
    Calls Try.prog 117 #[.agg #[.slice A m.length cm], .agg #[.int .i64 n, .int .i64 s, .int .i64 l, .int .i64 c]] w fun e w' => ∃ g cap, e = .returned (.slice (some ⟨g, 0, none⟩) l cap) ∧ w'.ownsRow w.heap.size 5 1 (.slice (some ⟨g, 0, none⟩) l cap) l (intV .u8 (wb m n s l)) ∧ Below w.heap.size w w' := by
  obtain ⟨w0, hw0, hb0, hz0, hmw⟩ := enterMW A m.length cm n s l c w
  obtain ⟨i0, hi0, hz, hz1, hz2⟩ := info_parts info_u8
  obtain ⟨w3, hw3⟩ : ∃ w3, w0.alloc (.cells #[] 5) = w3 := ⟨_, rfl⟩
  have hb3 : Below w0.heap.size w0 w3 := by rw [← hw3]; exact (Below.refl _ _).alloc (Nat.le_refl _) _
  have HB3 := Lib.hid (hb0.trans (hb3.mono hb0.size))
  have HO3 : Hid (w3.ownsRow w.heap.size 5 1 (.slice (some ⟨w0.heap.size, 0, none⟩) 0 0) 0 []) := Lib.hid (by rw [← hw3]; exact World.ownsRow_made (base := w.heap.size) (e := 5) (size := 1) w0 #[] 0 hb0.size (Nat.zero_le _) rfl)
  have HMW := Lib.hid (hmw.below hb3)
  have HR := Lib.hid hr
  rw [← hw0] at hw3
  have HW := Lib.hid hw3
  have hs0 : w0.heap.size = w.heap.size + 1 + 1 := by omega
  rw [hs0] at HO3
  have HL0 := Lib.hid (show w.heap.size ≤ w3.heap.size from HB3.out.size)
  clear hr hb0 hmw hw0 hw3 hb3 hs0
  go_enter Try.func117, Try.ntmps117
  go_upto_region 2 with fail
  rw [HW.out]
  go_wp2_with fail
  go_loopw [5, 6] (fun v i wr => ∃ k : Nat, k ≤ l ∧ i = .int .i64 k ∧ wr.ownsRow w.heap.size 5 1 v k (intV .u8 (wb m n s k)) ∧ Below w.heap.size w wr ∧ MW wr w.heap.size A m.length cm n s l c ∧ ∃ g cap, v = .slice (some ⟨g, 0, none⟩) k cap) (fun _ i _ => l - (intOf i).toNat)
  case atStart => exact ⟨0, Nat.zero_le _, rfl, by simpa [wb, intV] using HO3.out, HB3.out, HMW.out, _, _, rfl⟩
  case round =>
    obtain ⟨k, hk, rfl, hown, hbr, hmw, gv, cv, rfl⟩ := hrel
    have HM := Lib.hid hmw
    have c1 := one_cell hmw.mem
    obtain ⟨d0, d1, d2, d3⟩ := four_cells hmw.win
    have HO := Lib.hid hown
    have HBR := Lib.hid hbr
    have hbs := hbr.size
    clear hown hbr hmw
    by_cases hlt : k < l
    · have hsk : s + k < m[n].length := by omega
      have HS := Lib.hid (specAt_calls A cm m n s k l c wr ((HR.out.below HBR.out).more hbs) hn h16 hsk h64)
      have HSN := Lib.hid (show intV .u8 (wb m n s (k + 1)) = intV .u8 (wb m n s k) ++ [.int .u8 m[n][s + k]] by rw [wb_snoc hn hsk]; simp [intV])
      generalize m[n][s + k] = q at *
      go_wp2_with fail
      refine HS.out.mono ?_
      rintro e w4 ⟨rfl, hb4⟩
      have HB4 := Lib.hid (HBR.out.trans (hb4.mono hbs))
      have HM4 := Lib.hid (HM.out.below hb4)
      have HO4 := Lib.hid (own_below HO.out hb4)
      have hbs4 := HB4.out.size
      have hl0 := HL0.out
      clear hb4 c1 d0 d1 d2 d3
      go_wp2_with ((at_builtin; refine wpList_append_own _ rfl _ _ 64 rfl w.heap.size 5 i0 _ 1 1 Try.underlying64 hi0 hz hz1 hz2 rfl (by decide) _ _ _ rfl (HO4.out.alloc _) ⟨w4.heap.size, 0, none⟩ 1 1 [.int .u8 q] rfl rfl (cell_one_new _ _ _) (by simp [Value.oneCell']) (by simp only [maxLen]; omega) (by omega) (by simp; omega) ?_; intro v' w5 hown5 hgrow _))
      have HB5 : Hid (Below w.heap.size w w5) := below_own2 (HB4.out.alloc hbs4 _) (HO4.out.alloc _) hgrow (by simp; omega)
      have HO5 : Hid (w5.ownsRow w.heap.size 5 1 v' (k + 1) (intV .u8 (wb m n s (k + 1)))) := Lib.hid (by rw [HSN.out]; exact hown5)
      have HM5 : Hid (MW w5 w.heap.size A m.length cm n s l c) := Lib.hid (by
        have ha := HO4.out.alloc (.cells #[.int .u8 q] 5)
        have h1 := alloc_old (.cells #[.int .u8 q] 5) HM4.out.mem
        have h2 := alloc_old (.cells #[.int .u8 q] 5) HM4.out.win
        exact ⟨block_grown hgrow h1 (ne_some (own_far ha h1 (by decide))), block_grown hgrow h2 (ne_some (own_far ha h2 (by decide)))⟩)
      have HF5 := Lib.hid (own_some hown5 (by omega))
      clear hown5 hgrow
      go_roundw
      case rel => exact ⟨k + 1, by omega, by go_num, HO5.out, HB5.out, HM5.out, HF5.out⟩
      case measure => simp [intOf]; omega
    · obtain rfl : k = l := by omega
      go_wp2_with fail
      go_ret
      exact ⟨_, _, rfl, HO.out, HBR.out⟩
end Go.Proofs.Ytoelagfcapdfpaa
