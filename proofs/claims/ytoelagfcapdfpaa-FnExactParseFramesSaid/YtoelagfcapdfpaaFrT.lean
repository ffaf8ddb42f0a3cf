/-
  The frames of a window, in the model: l9Frames.
-/
import Derived.Test.YtoelagfcapdfpaaFrS
import Derived.Test.YtoelagfcapdfpaaOwnStep
import Derived.Test.YtoelagfcapdfpaaBytes
namespace Go.Proofs.Ytoelagfcapdfpaa
open Go.RowKit

def natI (ds : List Nat) : List Int := ds.map (fun (d : Nat) => (d : Int))
theorem natI_len (ds : List Nat) : (natI ds).length = ds.length := by simp [natI]
theorem info_int9 : (Try.prog.info? 3).map (fun i => (i.zero, i.size, i.bytes)) = some (some (.int .i64 0), 1, 8) := by kernel_rfl

set_option maxRecDepth 100000 in
set_option maxHeartbeats 1600000 in
theorem specFrames9_calls (A : Option Addr) (cm : Nat) (m : List (List Int)) (n s l : Nat) (c : Int) (w : World) (hr : Rd2 w w.heap.size A m) (hn : n < m.length) (h16 : m.length ≤ 16) (hsl : s + l ≤ m[n].length) (h64 : m[n].length ≤ 64) (hz : ∀ r ∈ m, ∀ z ∈ r, IsB z) :
    Calls Try.prog 93 #[.agg #[.slice A m.length cm], .agg #[.int .i64 n, .int .i64 s, .int .i64 l, .int .i64 c]] w fun e w' => ∃ g cap, e = .returned (.tuple #[.slice (some ⟨g, 0, none⟩) (frames (wb m n s l)).1.length cap, .int .i64 (frames (wb m n s l)).2]) ∧ w'.ownsRow w.heap.size 3 1 (.slice (some ⟨g, 0, none⟩) (frames (wb m n s l)).1.length cap) (frames (wb m n s l)).1.length (intV .i64 (natI (frames (wb m n s l)).1)) ∧ Below w.heap.size w w' := by
  obtain ⟨w0, hw0, hb0, hz0, hmw⟩ := enterMW A m.length cm n s l c w
  obtain ⟨i0, hi0, hy, hy1, hy2⟩ := info_parts info_int9
  have hbl : (wb m n s l).length = l := wb_len hn hsl
  obtain ⟨w3, hw3⟩ : ∃ w3, w0.alloc (.cells #[] 3) = w3 := ⟨_, rfl⟩
  have hb3 : Below w0.heap.size w0 w3 := by rw [← hw3]; exact (Below.refl _ _).alloc (Nat.le_refl _) _
  have HB3 := Lib.hid (hb0.trans (hb3.mono hb0.size))
  have HO3 : Hid (w3.ownsRow w.heap.size 3 1 (.slice (some ⟨w0.heap.size, 0, none⟩) 0 0) 0 []) := Lib.hid (by rw [← hw3]; exact World.ownsRow_made (base := w.heap.size) (e := 3) (size := 1) w0 #[] 0 hb0.size (Nat.zero_le _) rfl)
  have HMW := Lib.hid (hmw.below hb3)
  have HR := Lib.hid hr
  have hs0 : w0.heap.size = w.heap.size + 1 + 1 := by omega
  rw [← hw0] at hw3
  have HW := Lib.hid hw3
  rw [hs0] at HO3
  have HL0 := Lib.hid (show w.heap.size ≤ w3.heap.size from HB3.out.size)
  have HFR := Lib.hid (fun (a : Nat) (ha : a ≤ l) W (hb : Below w.heap.size w W) => specFrame9_calls A cm m n s l c a W ((HR.out.below hb).more hb.size) hn h16 hsl h64 hz ha)
  obtain ⟨B, hB⟩ : ∃ B, wb m n s l = B := ⟨_, rfl⟩
  rw [hB] at hbl HFR
  have HBL := Lib.hid hbl
  have hl64 : l ≤ 64 := by omega
  rw [hB]
  clear hr hb0 hmw hw0 hw3 hb3 hs0 hbl hB hz
  go_enter Try.func93, Try.ntmps93
  go_upto_region 2 with fail
  rw [HW.out]
  go_loopw [6, 7] (fun v i wr => ∃ (ds : List Nat) (a g cap : Nat), At9 B ds a ∧ v = .slice (some ⟨g, 0, none⟩) ds.length cap ∧ i = .int .i64 a ∧ wr.ownsRow w.heap.size 3 1 (.slice (some ⟨g, 0, none⟩) ds.length cap) ds.length (intV .i64 (natI ds)) ∧ Below w.heap.size w wr ∧ MW wr w.heap.size A m.length cm n s l c) (fun _ i _ => l - (intOf i).toNat)
  case atStart => exact ⟨[], 0, _, _, At9.start (by rw [HBL.out]; omega), rfl, rfl, HO3.out, HB3.out, HMW.out⟩
  case round =>
    obtain ⟨ds, a, g, cap, hat, rfl, rfl, hown, hbr, hmw⟩ := hrel
    have HAT := Lib.hid hat
    have hal : a ≤ l := by have := hat.1; rw [HBL.out] at this; exact this
    have HM := Lib.hid hmw
    have c1 := one_cell hmw.mem
    obtain ⟨d0, d1, d2, d3⟩ := four_cells hmw.win
    have HO := Lib.hid hown
    have HBR := Lib.hid hbr
    have HF := Lib.hid (HFR.out a hal wr hbr)
    have hdl : ds.length ≤ 64 := by
      obtain ⟨_, k, _, h1, _⟩ := hat
      have := congrArg List.length h1
      rw [List.length_append] at this
      have := (frames_mem B).2.2
      omega
    have hge : frm (B.drop a) ≠ 0 → 3 ≤ frm (B.drop a) := fun h => (frm_ge h).1
    have hle : frm (B.drop a) ≤ l - a := by have := frm_le (B.drop a); rw [List.length_drop, HBL.out] at this; exact this
    clear hown hbr hmw hat
    by_cases hz : frm (B.drop a) = 0
    · have HDS := Lib.hid (HAT.out.stop hz)
      rw [hz] at HF
      clear hz hge hle
      go_wp2_with fail
      refine HF.out.mono ?_
      rintro e w4 ⟨rfl, hb4⟩
      have HB4 := Lib.hid (HBR.out.trans (hb4.mono HBR.out.size))
      have HO4 := Lib.hid (own_below HO.out hb4)
      clear hb4 c1 d0 d1 d2 d3
      go_wp2_with fail
      exact bodyPost_ret (v := .tuple #[.slice (some ⟨g, 0, none⟩) ds.length cap, .int .i64 a]) (by simp [results, Try.results93, go_sem]) rfl ⟨g, cap, by rw [← HDS.out.1, ← HDS.out.2], by rw [← HDS.out.1]; exact HO4.out, HB4.out⟩
    · have HGO := Lib.hid (HAT.out.go hz)
      have h3 := hge hz
      have HSN : Hid (intV .i64 (natI (ds ++ [a])) = intV .i64 (natI ds) ++ [.int .i64 a]) := Lib.hid (by simp [natI, intV])
      have HFA := Lib.hid (HFR.out a hal)
      generalize frm (B.drop a) = f at *
      have i1 : (0 : Int) < f := by omega
      have i2 : (f : Int) ≤ 64 := by omega
      have i3 : (0 : Int) ≤ a := by omega
      have i4 : (a : Int) ≤ 64 := by omega
      clear hge hz
      go_wp2_with fail
      refine HF.out.mono ?_
      rintro e w4 ⟨rfl, hb4⟩
      have HB4 := Lib.hid (HBR.out.trans (hb4.mono HBR.out.size))
      have HM4 := Lib.hid (HM.out.below hb4)
      have HO4 := Lib.hid (own_below HO.out hb4)
      have hbs4 := HB4.out.size
      have hl0 := HL0.out
      clear hb4 c1 d0 d1 d2 d3
      go_upto_region 4 with ((at_builtin; refine wpList_append_own _ rfl _ _ 108 rfl w.heap.size 3 i0 _ 1 8 Try.underlying108 hi0 hy hy1 hy2 rfl (by decide) _ _ _ rfl (HO4.out.alloc _) ⟨w4.heap.size, 0, none⟩ 1 1 [.int .i64 (a : Int)] rfl rfl (cell_one_new _ _ _) (by simp [Value.oneCell']) (by simp only [maxLen]; omega) (by omega) (by simp; omega) ?_; intro v' w5 hown5 hgrow _))
      have HB5 : Hid (Below w.heap.size w w5) := below_own2 (HB4.out.alloc hbs4 _) (HO4.out.alloc _) hgrow (by simp; omega)
      have HO5 : Hid (w5.ownsRow w.heap.size 3 1 v' (ds.length + 1) (intV .i64 (natI (ds ++ [a])))) := Lib.hid (by rw [HSN.out]; exact hown5)
      have HM5 : Hid (MW w5 w.heap.size A m.length cm n s l c) := Lib.hid (by
        have ha := HO4.out.alloc (.cells #[.int .i64 (a : Int)] 3)
        have h1 := alloc_old (.cells #[.int .i64 (a : Int)] 3) HM4.out.mem
        have h2 := alloc_old (.cells #[.int .i64 (a : Int)] 3) HM4.out.win
        exact ⟨block_grown hgrow h1 (ne_some (own_far ha h1 (by decide))), block_grown hgrow h2 (ne_some (own_far ha h2 (by decide)))⟩)
      obtain ⟨g5, k5, rfl⟩ := own_some hown5 (by omega)
      have c5 := one_cell HM5.out.mem
      obtain ⟨e0, e1, e2, e3⟩ := four_cells HM5.out.win
      have HF5 := Lib.hid (HFA.out w5 HB5.out)
      clear hown5 hgrow
      go_wp2_with fail
      refine HF5.out.mono ?_
      rintro e w6 ⟨rfl, hb6⟩
      have HB6 := Lib.hid (HB5.out.trans (hb6.mono HB5.out.size))
      have HM6 := Lib.hid (HM5.out.below hb6)
      have HO6 := Lib.hid (own_below HO5.out hb6)
      clear hb6 c5 e0 e1 e2 e3
      go_wp2_with fail
      go_roundw
      case rel => exact ⟨ds ++ [a], a + f, g5, k5, HGO.out.1, by rw [List.length_append]; rfl, by go_num, by rw [List.length_append]; exact HO6.out, HB6.out, HM6.out⟩
      case measure => simp [intOf]; omega
end Go.Proofs.Ytoelagfcapdfpaa
