/-
  WindowText of spec and impl, and the law's walk.
-/
import Derived.Test.YtmcabnbmjbepjaaDoorNumW
import Derived.Test.YtmcabnbmjbepjaaDoorTabs
import Derived.Test.YtmcabnbmjbepjaaDoorImplC
import Derived.WalkLawsBesides
import Derived.WalkSpells
import Derived.BigQuiet
import Derived.Deep.QuietTactic
import Derived.Outline
namespace Go.Proofs.YtmcabnbmjbepjaaDoor
open Go.RowKit

def colB : ByteArray := ⟨#[58]⟩
/-- The text of a window. -/
def winT (a s l c : Int) : ByteArray := numB a ++ (colB ++ numB s) ++ (colB ++ numB l) ++ (colB ++ numB c)
theorem numB_size {n : Int} (h0 : -9223372036854775808 ≤ n) (h1 : n ≤ 9223372036854775807) : (numB n).size ≤ 22 := by
  have h := Lib.itoa_length_le n (by omega) (by omega)
  unfold numB
  show (Lib.itoa n).toArray.size ≤ 22
  simp
  omega

set_option maxRecDepth 100000 in
set_option maxHeartbeats 1600000 in
theorem specWindowText_calls (a s l c : Int) (w : World) (ha : -9223372036854775808 ≤ a ∧ a ≤ 9223372036854775807) (hs : -9223372036854775808 ≤ s ∧ s ≤ 9223372036854775807) (hl : -9223372036854775808 ≤ l ∧ l ≤ 9223372036854775807) (hc : -9223372036854775808 ≤ c ∧ c ≤ 9223372036854775807) :
    Calls Tryd.prog 22 #[.agg #[.int .i64 a, .int .i64 s, .int .i64 l, .int .i64 c]] w fun e w' => e = .returned (.string (winT a s l c)) ∧ Below w.heap.size w w' := by
  obtain ⟨w0, hw0⟩ : ∃ w0, w.alloc (.cells #[.int .i64 a, .int .i64 s, .int .i64 l, .int .i64 c] 28) = w0 := ⟨_, rfl⟩
  have hb0 : Below w.heap.size w w0 := by rw [← hw0]; exact (Below.refl _ _).alloc (Nat.le_refl _) _
  obtain ⟨d0, d1, d2, d3⟩ := four_cells (show w0.heap[w.heap.size]? = some (.cells #[.int .i64 a, .int .i64 s, .int .i64 l, .int .i64 c] 28) by rw [← hw0]; exact heap_alloc_new _ _)
  have HB := Lib.hid hb0
  have HW := Lib.hid hw0
  have na := numB_size ha.1 ha.2
  have ns := numB_size hs.1 hs.2
  have nl := numB_size hl.1 hl.2
  have nc := numB_size hc.1 hc.2
  have HA := Lib.hid (fun W => l1NumW_calls a W ha.1 ha.2)
  have HS := Lib.hid (fun W => l1NumW_calls s W hs.1 hs.2)
  have HL := Lib.hid (fun W => l1NumW_calls l W hl.1 hl.2)
  have HC := Lib.hid (fun W => l1NumW_calls c W hc.1 hc.2)
  have HE : Hid (numB a ++ ⟨#[58]⟩ ++ numB s ++ ⟨#[58]⟩ ++ numB l ++ ⟨#[58]⟩ ++ numB c = winT a s l c) := Lib.hid (by unfold winT colB; simp only [ByteArray.append_assoc])
  clear hb0 hw0 ha hs hl hc
  generalize numB a = ba at *
  generalize numB s = bs at *
  generalize numB l = bl at *
  generalize numB c = bc at *
  have b1 : (ByteArray.mk #[58]).size = 1 := rfl
  go_enter Tryd.func22, Tryd.ntmps22
  go_wp2_with fail
  rw [HW.out]
  go_quiet (first | (go_at_call 37; with_reducible exact Calls.quiet_of (HA.out _)) | (go_at_call 37; with_reducible exact Calls.quiet_of (HS.out _)) | (go_at_call 37; with_reducible exact Calls.quiet_of (HL.out _)) | (go_at_call 37; with_reducible exact Calls.quiet_of (HC.out _)))
  go_wp2_with fail
  go_ret
  exact ⟨by rw [← HE.out]; rfl, below_drewN HB.out _⟩

theorem run_index3 (s l c : Int) (w : World) :
    (Instr.index 62 (.agg #[.int .i64 s, .int .i64 l, .int .i64 c]) (.int .i64 0)).run Tryd.prog w = .ok (.int .i64 s) w ∧ (Instr.index 62 (.agg #[.int .i64 s, .int .i64 l, .int .i64 c]) (.int .i64 1)).run Tryd.prog w = .ok (.int .i64 l) w ∧ (Instr.index 62 (.agg #[.int .i64 s, .int .i64 l, .int .i64 c]) (.int .i64 2)).run Tryd.prog w = .ok (.int .i64 c) w := by
  refine ⟨?_, ?_, ?_⟩ <;> simp [Instr.index, run_underlying Tryd.underlying62, asIntOf, go_sem, Go.part, Tryd.sizeOf3, Tryd.isAgg3]
/-- The text of a window, number by number. -/
def winP (a s l : Int) : Nat → ByteArray
  | 0 => numB a
  | 1 => numB a ++ (colB ++ numB s)
  | _ => numB a ++ (colB ++ numB s) ++ (colB ++ numB l)
set_option maxRecDepth 100000 in
set_option maxHeartbeats 1600000 in
theorem implWindowText_calls (a s l c : Int) (w : World) (ht : Tabs w) (ha : -9223372036854775808 ≤ a ∧ a ≤ 9223372036854775807) (hs : -9223372036854775808 ≤ s ∧ s ≤ 9223372036854775807) (hl : -9223372036854775808 ≤ l ∧ l ≤ 9223372036854775807) (hc : -9223372036854775808 ≤ c ∧ c ≤ 9223372036854775807) :
    Calls Tryd.prog 21 #[.agg #[.int .i64 a, .int .i64 s, .int .i64 l, .int .i64 c]] w fun e w' => e = .returned (.string (winT a s l c)) ∧ Below w.heap.size w w' := by
  obtain ⟨w0, hw0⟩ : ∃ w0, w.alloc (.cells #[.int .i64 a, .int .i64 s, .int .i64 l, .int .i64 c] 28) = w0 := ⟨_, rfl⟩
  have hb0 : Below w.heap.size w w0 := by rw [← hw0]; exact (Below.refl _ _).alloc (Nat.le_refl _) _
  have hg0 : w0.heap[w.heap.size]? = some (.cells #[.int .i64 a, .int .i64 s, .int .i64 l, .int .i64 c] 28) := by rw [← hw0]; exact heap_alloc_new _ _
  have HG := Lib.hid hg0
  obtain ⟨d0, d1, d2, d3⟩ := four_cells hg0
  have HB := Lib.hid hb0
  have HW := Lib.hid hw0
  have HT := Lib.hid ht
  have HNA := Lib.hid (numB_size ha.1 ha.2)
  have HNS := Lib.hid (numB_size hs.1 hs.2)
  have HNL := Lib.hid (numB_size hl.1 hl.2)
  have HNC := Lib.hid (numB_size hc.1 hc.2)
  have HI : Hid (∀ n : Int, -9223372036854775808 ≤ n ∧ n ≤ 9223372036854775807 → ∀ W, Below w.heap.size w W → Calls Tryd.prog 36 #[.int .i64 n] W fun e w' => e = .returned (.string (numB n)) ∧ Below W.heap.size W w') := Lib.hid fun n hn W hb => by
    refine (Tryd.strconv_Itoa n hn.1 hn.2 W (HT.out.below hb).1).mono ?_
    rintro e w' ⟨rfl, k, os, rfl⟩
    exact ⟨rfl, Lib.below_grow _ _ (Nat.le_refl _) _ _⟩
  have HQA := Lib.hid ha
  have HQS := Lib.hid hs
  have HQL := Lib.hid hl
  have HQC := Lib.hid hc
  have HCA := Lib.hid (HI.out a ha w0 hb0)
  have b1 : (ByteArray.mk #[58]).size = 1 := rfl
  clear hb0 hw0 ht hg0 ha hs hl hc
  go_enter Tryd.func21, Tryd.ntmps21
  go_wp2_with fail
  rw [HW.out]
  refine HCA.out.mono ?_
  rintro e w1 ⟨rfl, hb1⟩
  have HB1 := Lib.hid (HB.out.trans (hb1.mono HB.out.size))
  have hg1 := (hb1.block _ (Array.getElem?_eq_some_iff.1 HG.out).1).trans HG.out
  clear d0 d1 d2 d3
  obtain ⟨d0, d1, d2, d3⟩ := four_cells hg1
  clear hb1 hg1
  go_wp2_with fail
  go_loopw [3, 16] (fun t i wr => ∃ k : Nat, k ≤ 3 ∧ i = .int .i64 k ∧ t = .string (if k = 3 then winT a s l c else winP a s l k) ∧ Below w.heap.size w wr) (fun _ i _ => 3 - (intOf i).toNat)
  case atStart => exact ⟨0, by omega, rfl, rfl, HB1.out⟩
  case round =>
    obtain ⟨k, hk, rfl, rfl, hbr⟩ := hrel
    have HBR := Lib.hid hbr
    clear hbr
    obtain ⟨hx0, hx1, hx2⟩ := run_index3 s l c wr
    rcases (show k = 0 ∨ k = 1 ∨ k = 2 ∨ k = 3 by omega) with rfl | rfl | rfl | rfl
    · have HC := Lib.hid (HI.out s HQS.out _ HBR.out)
      have HV : Hid (winP a s l 0 ++ (⟨#[58]⟩ ++ numB s) = winP a s l 1) := Lib.hid rfl
      have n0 : (winP a s l 0).size ≤ 100 := by have := HNA.out; show (numB a).size ≤ 100; omega
      have n1 := HNS.out
      simp only [show ¬ (0 : Nat) = 3 by omega, if_false]
      rw [show ((0 : Nat) : Int) = 0 from rfl]
      generalize numB s = bs at *
      generalize winP a s l 0 = t0 at *
      go_wp2_with fail
      refine HC.out.mono ?_
      rintro e w2 ⟨rfl, hb2⟩
      have HB2 := Lib.hid (HBR.out.trans (hb2.mono HBR.out.size))
      clear hb2
      go_wp2_with fail
      go_roundw
      case rel => exact ⟨1, by omega, by go_num, by rw [HV.out]; rfl, HB2.out⟩
      case measure => simp [intOf]
    · have HC := Lib.hid (HI.out l HQL.out _ HBR.out)
      have HV : Hid (winP a s l 1 ++ (⟨#[58]⟩ ++ numB l) = winP a s l 2) := Lib.hid rfl
      have n0 : (winP a s l 1).size ≤ 100 := by have := HNA.out; have := HNS.out; show (numB a ++ (colB ++ numB s)).size ≤ 100; rw [ByteArray.size_append, ByteArray.size_append, show colB.size = 1 from rfl]; omega
      have n1 := HNL.out
      simp only [show ¬ (1 : Nat) = 3 by omega, if_false]
      rw [show ((1 : Nat) : Int) = 1 from rfl]
      generalize numB l = bs at *
      generalize winP a s l 1 = t0 at *
      go_wp2_with fail
      refine HC.out.mono ?_
      rintro e w2 ⟨rfl, hb2⟩
      have HB2 := Lib.hid (HBR.out.trans (hb2.mono HBR.out.size))
      clear hb2
      go_wp2_with fail
      go_roundw
      case rel => exact ⟨2, by omega, by go_num, by rw [HV.out]; rfl, HB2.out⟩
      case measure => simp [intOf]
    · have HC := Lib.hid (HI.out c HQC.out _ HBR.out)
      have HV : Hid (winP a s l 2 ++ (⟨#[58]⟩ ++ numB c) = winT a s l c) := Lib.hid rfl
      have n0 : (winP a s l 2).size ≤ 100 := by have := HNA.out; have := HNS.out; have := HNL.out; show (numB a ++ (colB ++ numB s) ++ (colB ++ numB l)).size ≤ 100; rw [ByteArray.size_append, ByteArray.size_append, ByteArray.size_append, ByteArray.size_append, show colB.size = 1 from rfl]; omega
      have n1 := HNC.out
      simp only [show ¬ (2 : Nat) = 3 by omega, if_false]
      rw [show ((2 : Nat) : Int) = 2 from rfl]
      generalize numB c = bs at *
      generalize winP a s l 2 = t0 at *
      go_wp2_with fail
      refine HC.out.mono ?_
      rintro e w2 ⟨rfl, hb2⟩
      have HB2 := Lib.hid (HBR.out.trans (hb2.mono HBR.out.size))
      clear hb2
      go_wp2_with fail
      go_roundw
      case rel => exact ⟨3, by omega, by go_num, by rw [HV.out]; rfl, HB2.out⟩
      case measure => simp [intOf]
    · simp only [if_true]
      go_wp2_with fail
      go_ret
      exact ⟨rfl, HBR.out⟩

theorem i64_bounds {n : Int} (h : (Lit.int .i64 n).wf = true) : -9223372036854775808 ≤ n ∧ n ≤ 9223372036854775807 := by
  simpa [Lit.wf, IntKind.min, IntKind.max, IntKind.signed, IntKind.bits] using h
end Go.Proofs.YtmcabnbmjbepjaaDoor
